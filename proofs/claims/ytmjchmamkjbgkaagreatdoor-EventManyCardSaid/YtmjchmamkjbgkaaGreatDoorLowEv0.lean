/- Contracts of a lower layer, several texts in one. -/
import Derived.Test.YtmjchmamkjbgkaaGreatDoorValCells
import Derived.Test.YtmjchmamkjbgkaaGreatDoorValData
import Derived.Test.YtmjchmamkjbgkaaGreatDoorValMake
import Derived.Test.YtmjchmamkjbgkaaGreatDoorNumHasForm
import Derived.Test.YtmjchmamkjbgkaaGreatDoorBase
import Derived.Test.YtmjchmamkjbgkaaGreatDoorNumMath
import Derived.WalkSpells
import Derived.WalkLawsBesides
import Derived.Lib.Hide
/- KeyMath -/
namespace Go.Proofs.YtmjchmamkjbgkaaGreatDoor
open Go.RowKit
set_option linter.unusedVariables false

/-- The last n bytes of a number, the highest first. -/
def numL : Nat → Nat → List UInt8
  | 0, _ => []
  | n + 1, u => UInt8.ofNat (u / 256 ^ n) :: numL n u
theorem numL_len : ∀ n u, (numL n u).length = n
  | 0, _ => rfl
  | n + 1, u => by rw [numL, List.length_cons, numL_len n u]
/-- The number of bytes, the highest first. -/
def numOf : List UInt8 → Nat
  | [] => 0
  | c :: l => c.toNat * 256 ^ l.length + numOf l
theorem numOf_lt : ∀ l, numOf l < 256 ^ l.length
  | [] => by simp [numOf]
  | c :: l => by
    have h := numOf_lt l
    have hc := c.toNat_lt
    rw [numOf, List.length_cons, Nat.pow_succ]
    have : (c.toNat + 1) * 256 ^ l.length ≤ 256 * 256 ^ l.length := Nat.mul_le_mul_right _ (by omega)
    rw [Nat.add_mul] at this
    omega
theorem numOf_snoc : ∀ (l : List UInt8) (c : UInt8), numOf (l ++ [c]) = numOf l * 256 + c.toNat
  | [], c => by simp [numOf]
  | d :: l, c => by
    rw [List.cons_append, numOf, numOf, numOf_snoc l c, List.length_append, List.length_singleton, Nat.pow_succ, Nat.add_mul, Nat.mul_assoc, Nat.add_assoc]
theorem numOf_numL : ∀ n u, numOf (numL n u) = u % 256 ^ n
  | 0, u => by simp [numL, numOf, Nat.mod_one]
  | n + 1, u => by
    rw [numL, numOf, numL_len, numOf_numL n u, Nat.pow_succ, Nat.mod_mul]
    simp only [UInt8.toNat_ofNat', Nat.reducePow]
    rw [Nat.mul_comm (256 ^ n), Nat.add_comm]
theorem numL_of : ∀ (l : List UInt8) (a : Nat), numL l.length (a * 256 ^ l.length + numOf l) = l
  | [], _ => rfl
  | c :: l, a => by
    have h := numOf_lt l
    have hp : 0 < 256 ^ l.length := Nat.pow_pos (by omega)
    have e : a * 256 ^ (l.length + 1) + (c.toNat * 256 ^ l.length + numOf l) = (a * 256 + c.toNat) * 256 ^ l.length + numOf l := by
      rw [Nat.pow_succ, Nat.add_mul, Nat.mul_assoc, Nat.mul_comm 256, Nat.add_assoc]
    rw [numOf, List.length_cons, e, numL, numL_of l]
    congr 1
    rw [Nat.add_comm, Nat.add_mul_div_right _ _ hp, Nat.div_eq_of_lt h, Nat.zero_add]
    apply UInt8.toNat_inj.1
    have := c.toNat_lt
    rw [UInt8.toNat_ofNat']
    omega
theorem numL_inj {n a b : Nat} (ha : a < 256 ^ n) (hb : b < 256 ^ n) (h : numL n a = numL n b) : a = b := by
  have := congrArg numOf h
  rwa [numOf_numL, numOf_numL, Nat.mod_eq_of_lt ha, Nat.mod_eq_of_lt hb] at this

/-- A text's bytes in its key. -/
def escL : List UInt8 → List UInt8
  | [] => []
  | c :: t => if c = 0 then 0 :: 255 :: escL t else c :: escL t
theorem escL_zero (t : List UInt8) : escL (0 :: t) = 0 :: 255 :: escL t := by rw [escL, if_pos rfl]
theorem escL_else {c : UInt8} (h : c ≠ 0) (t : List UInt8) : escL (c :: t) = c :: escL t := by rw [escL, if_neg h]
theorem escL_app : ∀ (s t : List UInt8), escL (s ++ t) = escL s ++ escL t
  | [], _ => rfl
  | c :: s, t => by
    rw [List.cons_append]
    by_cases h : c = 0
    · subst h; rw [escL_zero, escL_zero, escL_app s t]; rfl
    · rw [escL_else h, escL_else h, escL_app s t]; rfl
theorem escL_len : ∀ t : List UInt8, (escL t).length = t.length + t.count 0
  | [] => rfl
  | c :: t => by
    by_cases h : c = 0
    · subst h; rw [escL_zero]; simp [escL_len t]; omega
    · rw [escL_else h]; simp [escL_len t, h]; omega
theorem escL_le (t : List UInt8) : (escL t).length ≤ 2 * t.length := by
  rw [escL_len]; have := List.count_le_length (l := t) (a := (0 : UInt8)); omega
theorem escL_ge (t : List UInt8) : t.length ≤ (escL t).length := by rw [escL_len]; omega
theorem esc_pre : ∀ (t rest s x : List UInt8), escL t ++ rest = escL s ++ 0 :: 1 :: x → ∃ s', s = t ++ s' ∧ rest = escL s' ++ 0 :: 1 :: x
  | [], rest, s, x, h => ⟨s, rfl, h⟩
  | c :: t, rest, s, x, h => by
    by_cases hc : c = 0
    · subst hc
      rw [escL_zero] at h
      cases s with
      | nil => simp [escL] at h
      | cons d s =>
        by_cases hd : d = 0
        · subst hd
          rw [escL_zero] at h
          simp only [List.cons_append, List.cons.injEq, true_and] at h
          obtain ⟨s', e, r⟩ := esc_pre t rest s x h
          exact ⟨s', by rw [e]; rfl, r⟩
        · rw [escL_else hd] at h
          simp only [List.cons_append, List.cons.injEq] at h
          exact absurd h.1.symm hd
    · rw [escL_else hc] at h
      cases s with
      | nil =>
        simp only [escL, List.cons_append, List.nil_append, List.cons.injEq] at h
        exact absurd h.1 hc
      | cons d s =>
        by_cases hd : d = 0
        · subst hd
          rw [escL_zero] at h
          simp only [List.cons_append, List.cons.injEq] at h
          exact absurd h.1 hc
        · rw [escL_else hd] at h
          simp only [List.cons_append, List.cons.injEq] at h
          obtain ⟨s', e, r⟩ := esc_pre t rest s x h.2
          exact ⟨s', by rw [e, h.1]; rfl, r⟩

/-- Values that may be, and whose number fits. -/
def rightD (v : Vd) : Prop := rightB v.k v.i v.s v.b = true ∧ -9223372036854775808 ≤ v.i ∧ v.i ≤ 9223372036854775807
/-- A value's key. -/
def keyV (v : Vd) : List UInt8 :=
  if v.k = 3 then [3, if v.b = true then 1 else 0] else if v.k = 2 then 2 :: (escL v.s.toList ++ [0, 1]) else 1 :: numL 8 (v.i + 9223372036854775808).toNat
def keysL : List Vd → List UInt8
  | [] => []
  | v :: L => keyV v ++ keysL L
theorem keysL_app : ∀ A B, keysL (A ++ B) = keysL A ++ keysL B
  | [], _ => rfl
  | v :: A, B => by rw [List.cons_append, keysL, keysL, keysL_app A B, List.append_assoc]

theorem tl_ext {a b : ByteArray} (h : a.toList = b.toList) : a = b := by
  rw [ByteArray.toList_eq, ByteArray.toList_eq] at h
  cases a; cases b
  congr
  exact Array.toList_inj.1 h
theorem tl_nil {a : ByteArray} (h : a.toList = []) : a = ⟨#[]⟩ := tl_ext (by rw [h, none_list])
theorem tl_mk (t : List UInt8) : (⟨t.toArray⟩ : ByteArray).toList = t := by rw [ByteArray.toList_eq]

/-- The three kinds of values that may be. -/
theorem right_three {v : Vd} (h : rightD v) :
    (∃ u : Nat, u < 256 ^ 8 ∧ v = ⟨1, (u : Int) - 9223372036854775808, ⟨#[]⟩, false⟩ ∧ keyV v = 1 :: numL 8 u) ∨
    (∃ t : List UInt8, t.length ≤ 4096 ∧ v = ⟨2, 0, ⟨t.toArray⟩, false⟩ ∧ keyV v = 2 :: (escL t ++ [0, 1])) ∨
    (∃ b : Bool, v = ⟨3, 0, ⟨#[]⟩, b⟩ ∧ keyV v = [3, if b = true then 1 else 0]) := by
  obtain ⟨k, i, s, b⟩ := v
  obtain ⟨h, h1, h2⟩ := h
  simp only at h h1 h2
  have hsz := right_size h
  rcases right_cases h with ⟨rfl, e, rfl⟩ | ⟨rfl, rfl, rfl⟩ | ⟨rfl, rfl, e⟩
  · refine .inl ⟨(i + 9223372036854775808).toNat, by omega, ?_, rfl⟩
    rw [tl_nil e, Int.toNat_of_nonneg (by omega)]
    congr 1; omega
  · refine .inr (.inl ⟨s.toList, by rw [tl_len]; exact hsz, ?_, rfl⟩)
    congr 1
    exact tl_ext (tl_mk _).symm
  · refine .inr (.inr ⟨b, by rw [tl_nil e], rfl⟩)
theorem right_num {u : Nat} (h : u < 18446744073709551616) : rightD ⟨1, (u : Int) - 9223372036854775808, ⟨#[]⟩, false⟩ :=
  ⟨by simp [rightB], by simp only; omega, by simp only; omega⟩
theorem right_text {t : List UInt8} (h : t.length ≤ 4096) : rightD ⟨2, 0, ⟨t.toArray⟩, false⟩ :=
  ⟨by simp [rightB]; show ((t.length : Nat) : Int) ≤ 4096; omega, by simp only; omega, by simp only; omega⟩
theorem right_bool (b : Bool) : rightD ⟨3, 0, ⟨#[]⟩, b⟩ := ⟨by simp [rightB], by simp only; omega, by simp only; omega⟩
theorem key_num {u : Nat} : keyV ⟨1, (u : Int) - 9223372036854775808, ⟨#[]⟩, false⟩ = 1 :: numL 8 u := by
  simp only [keyV]
  rw [if_neg (by decide), if_neg (by decide), show ((u : Int) - 9223372036854775808 + 9223372036854775808).toNat = u by omega]
theorem key_text (t : List UInt8) : keyV ⟨2, 0, ⟨t.toArray⟩, false⟩ = 2 :: (escL t ++ [0, 1]) := by
  simp only [keyV]
  rw [if_neg (by decide), if_pos trivial, tl_mk]
theorem key_bool (b : Bool) : keyV ⟨3, 0, ⟨#[]⟩, b⟩ = [3, if b = true then 1 else 0] := by
  simp only [keyV]
  rw [if_pos trivial]
theorem key_pos {v : Vd} (h : rightD v) : 2 ≤ (keyV v).length := by
  rcases right_three h with ⟨u, _, _, e⟩ | ⟨t, _, _, e⟩ | ⟨b, _, e⟩ <;> rw [e] <;> simp [numL_len]
theorem key_max {v : Vd} (h : rightD v) : (keyV v).length ≤ 8195 := by
  rcases right_three h with ⟨u, _, _, e⟩ | ⟨t, ht, _, e⟩ | ⟨b, _, e⟩ <;> rw [e] <;> simp [numL_len]
  have := escL_le t; omega

/-- What stands at the beginning is one value's key alone. -/
theorem key_pre {v u : Vd} (hv : rightD v) (hu : rightD u) {x y : List UInt8} (h : keyV v ++ x = keyV u ++ y) : v = u ∧ x = y := by
  rcases right_three hv with ⟨a, ha, rfl, e⟩ | ⟨s, hs, rfl, e⟩ | ⟨b, rfl, e⟩ <;> rcases right_three hu with ⟨a', ha', rfl, e'⟩ | ⟨s', hs', rfl, e'⟩ | ⟨b', rfl, e'⟩ <;> rw [e, e'] at h
  · simp only [List.cons_append, List.cons.injEq, true_and] at h
    obtain ⟨h1, h2⟩ := List.append_inj h (by rw [numL_len, numL_len])
    rw [numL_inj ha ha' h1]
    exact ⟨rfl, h2⟩
  · simp at h
  · simp at h
  · simp at h
  · simp only [List.cons_append, List.cons.injEq, true_and, List.append_assoc, List.nil_append] at h
    obtain ⟨t, h1, h2⟩ := esc_pre s (0 :: 1 :: x) s' y h
    cases t with
    | nil =>
      rw [List.append_nil] at h1
      rw [h1]
      simp [escL] at h2
      exact ⟨rfl, h2⟩
    | cons c t =>
      exfalso
      by_cases hc : c = 0
      · subst hc; rw [escL_zero] at h2; simp at h2
      · rw [escL_else hc] at h2
        simp only [List.cons_append, List.cons.injEq] at h2
        exact hc h2.1.symm
  · simp at h
  · simp at h
  · simp at h
  · simp only [List.cons_append, List.cons.injEq, true_and, List.nil_append] at h
    refine ⟨?_, h.2⟩
    have := h.1
    cases b <;> cases b' <;> simp at this ⊢

def allD (L : List Vd) : Prop := ∀ v ∈ L, rightD v
/-- .. and of values' keys, too. -/
theorem keys_pre : ∀ {A : List Vd}, allD A → ∀ {B : List Vd}, allD B → ∀ {x : List UInt8}, keysL A ++ x = keysL B → ∃ C, B = A ++ C ∧ x = keysL C
  | [], _, B, _, x, h => ⟨B, rfl, h⟩
  | v :: A, hA, [], _, x, h => by
    have := key_pos (hA v (by simp))
    have h2 := congrArg List.length h
    simp [keysL] at h2
    rw [h2.1] at this
    simp at this
  | v :: A, hA, u :: B, hB, x, h => by
    rw [keysL, keysL, List.append_assoc] at h
    obtain ⟨rfl, h2⟩ := key_pre (hA v (by simp)) (hB u (by simp)) h
    obtain ⟨C, rfl, h3⟩ := keys_pre (fun w hw => hA w (by simp [hw])) (fun w hw => hB w (by simp [hw])) h2
    exact ⟨C, rfl, h3⟩
theorem keys_inj {A B : List Vd} (hA : allD A) (hB : allD B) (h : keysL A = keysL B) : A = B := by
  obtain ⟨C, rfl, h2⟩ := keys_pre hA hB (x := []) (by rw [List.append_nil]; exact h)
  cases C with
  | nil => rw [List.append_nil]
  | cons c C =>
    have := key_pos (hB c (by simp))
    have h2 := congrArg List.length h2
    simp [keysL] at h2
    omega

/-- What is told of the value whose key bytes begin with. -/
def none0 : Vd := ⟨0, 0, ⟨#[]⟩, false⟩
def KeyTold (l : List UInt8) (v : Vd) (n : Nat) (ok : Bool) : Prop :=
  (ok = true ∧ rightD v ∧ n = (keyV v).length ∧ ∃ x, l = keyV v ++ x) ∨ (ok = false ∧ v = none0 ∧ n = 0 ∧ ∀ u, rightD u → ∀ x, l ≠ keyV u ++ x)
theorem KeyTold.same {l : List UInt8} {v v' : Vd} {n n' : Nat} {ok ok' : Bool} (h : KeyTold l v n ok) (h' : KeyTold l v' n' ok') : v = v' ∧ n = n' ∧ ok = ok' := by
  rcases h with ⟨rfl, h1, rfl, x, h2⟩ | ⟨rfl, rfl, rfl, h1⟩ <;> rcases h' with ⟨rfl, h1', rfl, x', h2'⟩ | ⟨rfl, rfl, rfl, h1'⟩
  · obtain ⟨rfl, _⟩ := key_pre h1 h1' (h2.symm.trans h2')
    exact ⟨rfl, rfl, rfl⟩
  · exact absurd h2 (h1' _ h1 _)
  · exact absurd h2' (h1 _ h1' _)
  · exact ⟨rfl, rfl, rfl⟩
theorem KeyTold.pos {l : List UInt8} {v : Vd} {n : Nat} {ok : Bool} (h : KeyTold l v n ok) : ok = decide (0 < n) ∧ n ≤ l.length := by
  rcases h with ⟨rfl, h1, rfl, x, rfl⟩ | ⟨rfl, rfl, rfl, h1⟩
  · have := key_pos h1
    refine ⟨?_, by simp⟩
    symm
    rw [decide_eq_true_iff]
    omega
  · exact ⟨rfl, by omega⟩
theorem KeyTold.take {l : List UInt8} {v : Vd} {n : Nat} (h : KeyTold l v n true) : rightD v ∧ l.take n = keyV v ∧ l = keyV v ++ l.drop n := by
  rcases h with ⟨_, h1, rfl, x, rfl⟩ | ⟨h, _⟩
  · exact ⟨h1, by simp, by simp⟩
  · cases h
theorem KeyTold.none' {l : List UInt8} {v : Vd} {n : Nat} (h : KeyTold l v n false) : v = none0 ∧ n = 0 ∧ ∀ u, rightD u → ∀ x, l ≠ keyV u ++ x := by
  rcases h with ⟨h, _⟩ | ⟨_, h1, h2, h3⟩
  · cases h
  · exact ⟨h1, h2, h3⟩
theorem told_nil : KeyTold [] none0 0 false := .inr ⟨rfl, rfl, rfl, fun u hu x h => by
  have := key_pos hu
  have h2 := congrArg List.length h
  simp at h2
  omega⟩
theorem told_kind {c : UInt8} {r : List UInt8} (h1 : c ≠ 1) (h2 : c ≠ 2) (h3 : c ≠ 3) : KeyTold (c :: r) none0 0 false := .inr ⟨rfl, rfl, rfl, fun u hu x h => by
  rcases right_three hu with ⟨_, _, _, e⟩ | ⟨_, _, _, e⟩ | ⟨_, _, e⟩ <;> rw [e] at h <;> simp only [List.cons_append, List.cons.injEq] at h
  · exact h1 h.1
  · exact h2 h.1
  · exact h3 h.1⟩
theorem told_num {r : List UInt8} (h : 8 ≤ r.length) : KeyTold (1 :: r) ⟨1, (numOf (r.take 8) : Int) - 9223372036854775808, ⟨#[]⟩, false⟩ 9 true := by
  have hl : (r.take 8).length = 8 := by rw [List.length_take]; omega
  have hb := numOf_lt (r.take 8)
  rw [hl] at hb
  refine .inl ⟨rfl, right_num (by omega), by rw [key_num, List.length_cons, numL_len], r.drop 8, ?_⟩
  rw [key_num]
  have e := numL_of (r.take 8) 0
  rw [Nat.zero_mul, Nat.zero_add, hl] at e
  rw [e]
  simp
theorem told_num_no {r : List UInt8} (h : r.length < 8) : KeyTold (1 :: r) none0 0 false := .inr ⟨rfl, rfl, rfl, fun u hu x hx => by
  rcases right_three hu with ⟨a, _, _, e⟩ | ⟨_, _, _, e⟩ | ⟨_, _, e⟩ <;> rw [e] at hx
  · have h2 := congrArg List.length hx
    simp [numL_len] at h2
    omega
  · simp at hx
  · simp at hx⟩
theorem told_bool {c : UInt8} {r : List UInt8} (h : c.toNat ≤ 1) : KeyTold (3 :: c :: r) ⟨3, 0, ⟨#[]⟩, c == 1⟩ 2 true := by
  refine .inl ⟨rfl, right_bool _, by rw [key_bool]; rfl, r, ?_⟩
  rw [key_bool]
  have : c = 0 ∨ c = 1 := by
    rcases Nat.le_one_iff_eq_zero_or_eq_one.1 h with e | e
    · exact .inl (UInt8.toNat_inj.1 e)
    · exact .inr (UInt8.toNat_inj.1 e)
  rcases this with rfl | rfl <;> rfl
theorem told_bool_no {r : List UInt8} (h : ∀ c x, r = c :: x → ¬ c.toNat ≤ 1) : KeyTold (3 :: r) none0 0 false := .inr ⟨rfl, rfl, rfl, fun u hu x hx => by
  rcases right_three hu with ⟨a, _, _, e⟩ | ⟨_, _, _, e⟩ | ⟨b, _, e⟩ <;> rw [e] at hx
  · simp at hx
  · simp at hx
  · simp only [List.cons_append, List.nil_append, List.cons.injEq, true_and] at hx
    refine h _ _ hx ?_
    cases b <;> simp⟩
theorem told_text {t x : List UInt8} (h : t.length ≤ 4096) : KeyTold (2 :: (escL t ++ 0 :: 1 :: x)) ⟨2, 0, ⟨t.toArray⟩, false⟩ (1 + ((escL t).length + 2)) true := by
  refine .inl ⟨rfl, right_text h, by rw [key_text]; simp; omega, x, ?_⟩
  rw [key_text]
  simp
theorem told_text_long {t x : List UInt8} (h : 4096 < t.length) : KeyTold (2 :: (escL t ++ x)) none0 0 false := .inr ⟨rfl, rfl, rfl, fun u hu y hx => by
  rcases right_three hu with ⟨a, _, _, e⟩ | ⟨s, hs, _, e⟩ | ⟨b, _, e⟩ <;> rw [e] at hx
  · simp at hx
  · simp only [List.cons_append, List.cons.injEq, true_and, List.append_assoc, List.nil_append] at hx
    obtain ⟨s', rfl, _⟩ := esc_pre t x s y hx
    rw [List.length_append] at hs
    omega
  · simp at hx⟩
theorem told_text_no {t rest : List UInt8} (h0 : ∀ c x, rest = c :: x → c = 0) (h : ∀ c x, rest = 0 :: c :: x → c ≠ 1 ∧ c ≠ 255) : KeyTold (2 :: (escL t ++ rest)) none0 0 false := .inr ⟨rfl, rfl, rfl, fun u hu y hx => by
  rcases right_three hu with ⟨a, _, _, e⟩ | ⟨s, hs, _, e⟩ | ⟨b, _, e⟩ <;> rw [e] at hx
  · simp at hx
  · simp only [List.cons_append, List.cons.injEq, true_and, List.append_assoc, List.nil_append] at hx
    obtain ⟨s', rfl, h2⟩ := esc_pre t rest s y hx
    cases s' with
    | nil => exact (h 1 _ h2).1 rfl
    | cons c s' =>
      by_cases hc : c = 0
      · subst hc; rw [escL_zero] at h2; exact (h 255 _ h2).2 rfl
      · rw [escL_else hc] at h2; exact hc (h0 c _ h2)
  · simp at hx⟩

/-- What is told of the values of whose keys bytes consist. -/
def ReadTold (l : List UInt8) (L : List Vd) (ok : Bool) : Prop := (ok = true ∧ allD L ∧ l = keysL L) ∨ (ok = false ∧ L = [] ∧ ∀ M, allD M → l ≠ keysL M)
theorem read_more {M : List Vd} {l rest : List UInt8} {v : Vd} {n : Nat} (hM : allD M) (h : l = keysL M ++ rest) (ht : KeyTold rest v n true) : allD (M ++ [v]) ∧ l = keysL (M ++ [v]) ++ rest.drop n := by
  obtain ⟨h1, _, h2⟩ := ht.take
  refine ⟨fun u hu => ?_, ?_⟩
  · rw [List.mem_append, List.mem_singleton] at hu
    rcases hu with hu | rfl
    · exact hM u hu
    · exact h1
  · rw [keysL_app, keysL, keysL, List.append_nil, List.append_assoc, ← h2]; exact h
theorem read_no {M : List Vd} {l rest : List UInt8} {v : Vd} {n : Nat} (hM : allD M) (h : l = keysL M ++ rest) (hr : rest ≠ []) (ht : KeyTold rest v n false) : ReadTold l [] false :=
  .inr ⟨rfl, rfl, fun N hN e => by
    obtain ⟨C, rfl, h2⟩ := keys_pre hM hN (h.symm.trans e)
    cases C with
    | nil => exact hr h2
    | cons c C => exact ht.none'.2.2 c (hN c (by simp)) _ h2⟩
theorem ReadTold.same {l : List UInt8} {L L' : List Vd} {ok ok' : Bool} (h : ReadTold l L ok) (h' : ReadTold l L' ok') : L = L' ∧ ok = ok' := by
  rcases h with ⟨rfl, h1, h2⟩ | ⟨rfl, rfl, h1⟩ <;> rcases h' with ⟨rfl, h1', h2'⟩ | ⟨rfl, rfl, h1'⟩
  · exact ⟨keys_inj h1 h1' (h2.symm.trans h2'), rfl⟩
  · exact absurd h2 (h1' _ h1)
  · exact absurd h2' (h1 _ h1')
  · exact ⟨rfl, rfl⟩

/-- The order of keys. -/
theorem numL_less : ∀ (n a b : Nat), a % 256 ^ n ≠ b % 256 ^ n → ∀ x y, Op.bytesLess (numL n a ++ x) (numL n b ++ y) = decide (a % 256 ^ n < b % 256 ^ n)
  | 0, a, b, h, _, _ => by simp [Nat.mod_one] at h
  | n + 1, a, b, h, x, y => by
    rw [numL, numL, List.cons_append, List.cons_append]
    rw [Nat.pow_succ, Nat.mod_mul, Nat.mod_mul] at h ⊢
    have hp : 0 < 256 ^ n := Nat.pow_pos (by omega)
    have ha := Nat.mod_lt a hp
    have hb := Nat.mod_lt b hp
    by_cases hc : a / 256 ^ n % 256 = b / 256 ^ n % 256
    · have e : UInt8.ofNat (a / 256 ^ n) = UInt8.ofNat (b / 256 ^ n) := UInt8.toNat_inj.1 (by rw [UInt8.toNat_ofNat', UInt8.toNat_ofNat']; exact hc)
      rw [e, bl_same, numL_less n a b (fun e => h (by rw [e, hc])), hc]
      congr 1
      rw [eq_iff_iff]
      omega
    · have e : UInt8.ofNat (a / 256 ^ n) ≠ UInt8.ofNat (b / 256 ^ n) := fun e => hc (by have := congrArg UInt8.toNat e; rw [UInt8.toNat_ofNat', UInt8.toNat_ofNat'] at this; exact this)
      rw [bl_ne e, UInt8.toNat_ofNat', UInt8.toNat_ofNat']
      congr 1
      rw [eq_iff_iff]
      generalize hA : a / 256 ^ n % 2 ^ 8 = A
      generalize hB : b / 256 ^ n % 2 ^ 8 = B
      have hA' : a / 256 ^ n % 256 = A := hA
      have hB' : b / 256 ^ n % 256 = B := hB
      rw [hA', hB'] at hc
      constructor
      · intro hlt
        have : 256 ^ n * (A + 1) ≤ 256 ^ n * B := Nat.mul_le_mul_left _ hlt
        rw [Nat.mul_add] at this
        omega
      · intro hlt
        rcases Nat.lt_or_ge A B with h' | h'
        · exact h'
        · have : 256 ^ n * (B + 1) ≤ 256 ^ n * A := Nat.mul_le_mul_left _ (by omega)
          rw [Nat.mul_add] at this
          omega
theorem esc_less : ∀ (s t : List UInt8), s ≠ t → ∀ x y, Op.bytesLess (escL s ++ 0 :: 1 :: x) (escL t ++ 0 :: 1 :: y) = Op.bytesLess s t
  | [], [], h, _, _ => absurd rfl h
  | [], d :: t, _, x, y => by
    by_cases hd : d = 0
    · subst hd; rw [escL_zero]; simp [escL, Op.bytesLess]
    · rw [escL_else hd]
      show Op.bytesLess (0 :: 1 :: x) (d :: (escL t ++ 0 :: 1 :: y)) = true
      rw [bl_ne (fun e => hd e.symm)]
      rw [decide_eq_true_iff]
      have : d.toNat ≠ 0 := fun e => hd (UInt8.toNat_inj.1 e)
      show 0 < d.toNat
      omega
  | c :: s, [], _, x, y => by
    by_cases hc : c = 0
    · subst hc; rw [escL_zero]; simp [escL, Op.bytesLess]
    · rw [escL_else hc]
      show Op.bytesLess (c :: (escL s ++ 0 :: 1 :: x)) (0 :: 1 :: y) = false
      rw [bl_ne hc]
      simp
  | c :: s, d :: t, h, x, y => by
    by_cases hcd : c = d
    · subst hcd
      have h' : s ≠ t := fun e => h (by rw [e])
      rw [bl_same]
      by_cases hc : c = 0
      · subst hc; rw [escL_zero, escL_zero]; simp only [List.cons_append]; rw [bl_same, bl_same]; exact esc_less s t h' x y
      · rw [escL_else hc, escL_else hc]; simp only [List.cons_append]; rw [bl_same]; exact esc_less s t h' x y
    · rw [bl_ne hcd]
      by_cases hc : c = 0
      · subst hc
        rw [escL_zero, escL_else (fun e => hcd e.symm)]
        simp only [List.cons_append]
        rw [bl_ne hcd]
      · by_cases hd : d = 0
        · subst hd
          rw [escL_zero, escL_else hc]
          simp only [List.cons_append]
          rw [bl_ne hcd]
        · rw [escL_else hc, escL_else hd]
          simp only [List.cons_append]
          rw [bl_ne hcd]
theorem key_less {v u : Vd} (hv : rightD v) (hu : rightD u) (h : v ≠ u) (x y : List UInt8) : Op.bytesLess (keyV v ++ x) (keyV u ++ y) = lessD v u := by
  rcases right_three hv with ⟨a, ha, rfl, e⟩ | ⟨s, hs, rfl, e⟩ | ⟨b, rfl, e⟩ <;> rcases right_three hu with ⟨a', ha', rfl, e'⟩ | ⟨s', hs', rfl, e'⟩ | ⟨b', rfl, e'⟩ <;> rw [e, e'] <;> simp only [List.cons_append, List.append_assoc, List.nil_append]
  · have hne : a ≠ a' := fun e => h (by rw [e])
    rw [bl_same, numL_less 8 a a' (by rw [Nat.mod_eq_of_lt ha, Nat.mod_eq_of_lt ha']; exact hne), Nat.mod_eq_of_lt ha, Nat.mod_eq_of_lt ha']
    simp only [lessD, lessB]
    rw [if_pos trivial, if_pos trivial]
    congr 1
    rw [eq_iff_iff]
    omega
  · rw [bl_ne (by decide)]; simp [lessD, lessB]
  · rw [bl_ne (by decide)]; simp [lessD, lessB]
  · rw [bl_ne (by decide)]; simp [lessD, lessB]
  · have hne : s ≠ s' := fun e => h (by rw [e])
    rw [bl_same, esc_less s s' hne]
    simp only [lessD, lessB]
    rw [if_pos trivial, if_neg (by decide), if_pos trivial, tl_mk, tl_mk]
  · rw [bl_ne (by decide)]; simp [lessD, lessB]
  · rw [bl_ne (by decide)]; simp [lessD, lessB]
  · rw [bl_ne (by decide)]; simp [lessD, lessB]
  · cases b <;> cases b' <;> simp [lessD, lessB, Op.bytesLess] at h ⊢

/-- Whether two values are the same. -/
def eqD (v u : Vd) : Bool := eqB v.k v.i v.s v.b u.k u.i u.s u.b
theorem eqD_iff (v u : Vd) : eqD v u = true ↔ v = u := by
  unfold eqD
  rw [eqB_iff]
  constructor
  · rintro ⟨h1, h2, h3, h4⟩
    cases v; cases u
    simp only at h1 h2 h3 h4
    rw [h1, h2, tl_ext h3, h4]
  · rintro rfl
    exact ⟨rfl, rfl, rfl, rfl⟩
theorem eqD_ne {v u : Vd} (h : eqD v u = false) : v ≠ u := fun e => by rw [(eqD_iff v u).2 e] at h; cases h
/-- Whether two lists are the same. -/
def sameL : List Vd → List Vd → Bool
  | [], [] => true
  | v :: A, u :: B => eqD v u && sameL A B
  | _, _ => false
theorem sameL_iff : ∀ A B, sameL A B = true ↔ A = B
  | [], [] => by simp [sameL]
  | [], u :: B => by simp [sameL]
  | v :: A, [] => by simp [sameL]
  | v :: A, u :: B => by rw [sameL, Bool.and_eq_true, eqD_iff, sameL_iff A B, List.cons.injEq]
/-- Whether a list is ahead of another one. -/
def belowL : List Vd → List Vd → Bool
  | _, [] => false
  | [], _ :: _ => true
  | v :: A, u :: B => if eqD v u = true then belowL A B else lessD v u
theorem keys_less : ∀ {A B : List Vd}, allD A → allD B → Op.bytesLess (keysL A) (keysL B) = belowL A B
  | [], [], _, _ => rfl
  | v :: A, [], _, _ => by rw [keysL, keysL, bl_nil]; rfl
  | [], u :: B, _, hB => by
    have := key_pos (hB u (by simp))
    rw [keysL, keysL, belowL]
    cases h : keyV u with
    | nil => rw [h] at this; simp at this
    | cons c r => rfl
  | v :: A, u :: B, hA, hB => by
    rw [belowL]
    split
    · rename_i h
      obtain rfl := (eqD_iff v u).1 h
      have : Op.bytesLess (keyV v ++ keysL A) (keyV v ++ keysL B) = Op.bytesLess (keysL A) (keysL B) := by
        rw [bl_drop (keyV v).length _ _ (by simp) (by simp) (by simp)]
        simp
      rw [keysL, keysL, this]
      exact keys_less (fun w hw => hA w (by simp [hw])) (fun w hw => hB w (by simp [hw]))
    · rename_i h
      rw [keysL, keysL]
      exact key_less (hA v (by simp)) (hB u (by simp)) (fun e => h ((eqD_iff v u).2 e)) _ _
theorem keys_same {A B : List Vd} (hA : allD A) (hB : allD B) : (keysL A == keysL B) = sameL A B := by
  rw [Bool.eq_iff_iff, beq_iff_eq, sameL_iff]
  exact ⟨keys_inj hA hB, fun e => by rw [e]⟩
theorem below_drop : ∀ (n : Nat) (A B : List Vd), n ≤ A.length → n ≤ B.length → A.take n = B.take n → belowL A B = belowL (A.drop n) (B.drop n)
  | 0, _, _, _, _, _ => by simp
  | n + 1, [], _, h, _, _ => by simp at h
  | n + 1, _ :: _, [], _, h, _ => by simp at h
  | n + 1, v :: A, u :: B, h1, h2, h => by
    simp only [List.take_succ_cons, List.cons.injEq] at h
    obtain ⟨rfl, h⟩ := h
    rw [belowL, if_pos ((eqD_iff v v).2 rfl), List.drop_succ_cons, List.drop_succ_cons]
    exact below_drop n A B (by simpa using h1) (by simpa using h2) h
theorem below_end (A B : List Vd) (n : Nat) (h1 : n ≤ A.length) (h2 : n ≤ B.length) (h : A.take n = B.take n) (he : n = A.length ∨ n = B.length) : belowL A B = decide (A.length < B.length) := by
  rw [below_drop n A B h1 h2 h]
  by_cases hb : n = B.length
  · subst hb
    rw [List.drop_length]
    have : ¬ A.length < B.length := by omega
    simp [belowL, this]
  · have ha : n = A.length := by rcases he with e | e; exact e; exact absurd e hb
    subst ha
    rw [List.drop_length, List.drop_eq_getElem_cons (by omega)]
    have : A.length < B.length := by omega
    simp [belowL, this]
theorem below_at (A B : List Vd) (n : Nat) (h1 : n < A.length) (h2 : n < B.length) (h : A.take n = B.take n) (he : eqD (A.getD n default) (B.getD n default) = false) : belowL A B = lessD (A.getD n default) (B.getD n default) := by
  rw [below_drop n A B (by omega) (by omega) h, List.drop_eq_getElem_cons h1, List.drop_eq_getElem_cons h2, belowL]
  have e1 : A.getD n default = A[n] := by simp [List.getD, h1]
  have e2 : B.getD n default = B[n] := by simp [List.getD, h2]
  rw [← e1, ← e2, if_neg (by rw [he]; simp)]
theorem same_no (A B : List Vd) (n : Nat) (h1 : n < A.length) (h2 : n < B.length) (he : eqD (A.getD n default) (B.getD n default) = false) : sameL A B = false := by
  cases hs : sameL A B
  · rfl
  · have := (sameL_iff A B).1 hs
    subst this
    rw [(eqD_iff _ _).2 rfl] at he
    cases he
theorem take_next (A B : List Vd) (n : Nat) (h1 : n < A.length) (h2 : n < B.length) (h : A.take n = B.take n) (he : eqD (A.getD n default) (B.getD n default) = true) : A.take (n + 1) = B.take (n + 1) := by
  have e1 : A.getD n default = A[n] := by simp [List.getD, h1]
  have e2 : B.getD n default = B[n] := by simp [List.getD, h2]
  rw [List.take_succ_eq_append_getElem h1, List.take_succ_eq_append_getElem h2, h, ← e1, ← e2, (eqD_iff _ _).1 he]
end Go.Proofs.YtmjchmamkjbgkaaGreatDoor

/- KeyVin -/
namespace Go.Proofs.YtmjchmamkjbgkaaGreatDoor
open Go.RowKit
set_option linter.unusedVariables false

/-- A list of values in memory: none, or they lie in a row. -/
structure VIn (w : World) (a : Option Addr) (len : Nat) (L : List Vd) : Prop where
  leng : L.length = len
  small : len ≤ 9223372036854775807
  row : 0 < len → ∃ g off, a = some ⟨g, off, none⟩ ∧ VRow w g off L
  fits : ∀ n, n < L.length → (L.getD n default).s.size ≤ 9223372036854775807 ∧ -9223372036854775808 ≤ (L.getD n default).i ∧ (L.getD n default).i ≤ 9223372036854775807
theorem VIn.below {w w' : World} {a : Option Addr} {len : Nat} {L : List Vd} (h : VIn w a len L) (hb : Below w.heap.size w w') : VIn w' a len L :=
  ⟨h.leng, h.small, fun h0 => by obtain ⟨g, off, e, hr⟩ := h.row h0; exact ⟨g, off, e, hr.below hb⟩, h.fits⟩
/-- The value at a place. -/
theorem VIn.at' {w : World} {a : Option Addr} {len : Nat} {L : List Vd} (h : VIn w a len L) {n : Nat} (hn : n < len) : ∃ g off, a = some ⟨g, off, none⟩ ∧ Lies g (off + n * 4) (L.getD n default) w := by
  obtain ⟨g, off, e, hr⟩ := h.row (by omega)
  exact ⟨g, off, e, hr.at' n (by rw [h.leng]; exact hn)⟩
theorem Lies.boxed {g : Nat} {v : Vd} {w : World} (h : Boxed g v.k v.i v.s v.b w) : Lies g 0 v w := h
theorem VIn.one (v : Vd) (w : World) (t : TypeId) (hs : v.s.size ≤ 9223372036854775807) (hi : -9223372036854775808 ≤ v.i ∧ v.i ≤ 9223372036854775807) : VIn (w.alloc (.cells #[.int .i64 v.k, .int .i64 v.i, .string v.s, .bool v.b] t)) (some ⟨w.heap.size, 0, none⟩) 1 [v] :=
  ⟨rfl, by omega, fun _ => ⟨w.heap.size, 0, rfl, ⟨fun n hn => by
      obtain rfl : n = 0 := by simpa using hn
      exact Boxed.new v.k v.i v.s v.b w t, by simp⟩⟩, fun n hn => by
      obtain rfl : n = 0 := by simpa using hn
      exact ⟨hs, hi⟩⟩

/-- The cells of values in a row. -/
def cellsV : List Vd → List Value
  | [] => []
  | v :: L => .int .i64 v.k :: .int .i64 v.i :: .string v.s :: .bool v.b :: cellsV L
theorem cellsV_app : ∀ A B, cellsV (A ++ B) = cellsV A ++ cellsV B
  | [], _ => rfl
  | v :: A, B => by simp [cellsV, cellsV_app A B]
theorem cellsV_len : ∀ L, (cellsV L).length = L.length * 4
  | [] => rfl
  | v :: L => by simp [cellsV, cellsV_len L]; omega
theorem cellsV_at : ∀ (L : List Vd) (n : Nat), n < L.length → (cellsV L)[n * 4]? = some (.int .i64 (L.getD n default).k) ∧ (cellsV L)[n * 4 + 1]? = some (.int .i64 (L.getD n default).i) ∧ (cellsV L)[n * 4 + 2]? = some (.string (L.getD n default).s) ∧ (cellsV L)[n * 4 + 3]? = some (.bool (L.getD n default).b)
  | v :: L, 0, _ => by simp [cellsV]
  | v :: L, n + 1, h => by
    have := cellsV_at L n (by simpa using h)
    simp only [cellsV]
    rw [show (n + 1) * 4 = n * 4 + 4 by omega]
    simpa using this
theorem infoV : (Tryz.prog.info? 44).map (fun i => (i.zero, i.size, i.bytes)) = some (some (.agg #[.int .i64 0, .int .i64 0, .string ⟨#[]⟩, .bool false]), 4, 40) := by kernel_rfl

/-- Values that the call has gathered lie in a row. -/
theorem own_vin {B : Nat} {o : Value} {L : List Vd} {w : World} (h : w.ownsRow B 44 4 o L.length (cellsV L)) (hall : ∀ n, n < L.length → (L.getD n default).s.size ≤ 9223372036854775807 ∧ -9223372036854775808 ≤ (L.getD n default).i ∧ (L.getD n default).i ≤ 9223372036854775807) :
    ∃ a cap, o = .slice a L.length cap ∧ VIn w a L.length L := by
  obtain ⟨hl, hown⟩ := h
  rcases hown with ⟨rfl, h0⟩ | ⟨g, cap, cur, rfl, h1, hg, hcap, hm, hsz, htk⟩
  · exact ⟨none, 0, by rw [h0], ⟨rfl, by omega, fun h => by omega, hall⟩⟩
  · refine ⟨_, cap, rfl, ⟨rfl, by unfold maxLen at hm; omega, fun _ => ⟨g, 0, rfl, ⟨fun n hn => ?_, (Array.getElem?_eq_some_iff.1 hg).1⟩⟩, hall⟩⟩
    obtain ⟨c0, c1, c2, c3⟩ := cellsV_at L n hn
    have key : ∀ j v, j < L.length * 4 → (cellsV L)[j]? = some v → w.cell? ⟨g, j, none⟩ = some v := fun j v hj hv => by
      rw [cell_of_row w g j cur _ (0, 0) hg]
      rw [← htk, List.getElem?_take, if_pos hj] at hv
      simpa using hv
    refine ⟨?_, ?_, ?_, ?_⟩
    · rw [Nat.zero_add]; exact key _ _ (by omega) c0
    · rw [Nat.zero_add]; exact key _ _ (by omega) c1
    · rw [Nat.zero_add]; exact key _ _ (by omega) c2
    · rw [Nat.zero_add]; exact key _ _ (by omega) c3
theorem new4 (w : World) (o : Obj) (a b c d : Value) (t : TypeId) : ∀ j u, [a, b, c, d][j]? = some u → ((w.alloc o).alloc (.cells #[a, b, c, d] t)).cell? ((⟨w.heap.size + 1, 0, none⟩ : Addr).add j) = some u := by
  intro j u hj
  have e : (w.alloc o).heap.size = w.heap.size + 1 := by simp
  have hadd : (⟨w.heap.size + 1, 0, none⟩ : Addr).add j = ⟨(w.alloc o).heap.size, j, none⟩ := by rw [e]; unfold Addr.add; split <;> simp_all
  rw [hadd, World.cell?_alloc_at (hn := rfl)]
  simpa using hj
end Go.Proofs.YtmjchmamkjbgkaaGreatDoor

/- ValParse -/
namespace Go.Proofs.YtmjchmamkjbgkaaGreatDoor
open Go.RowKit
set_option linter.unusedVariables false

set_option maxHeartbeats 400000 in
theorem vFitting_calls (s : ByteArray) (w : World) (hs : s.size ≤ 9223372036854775807) :
    Calls Tryz.prog 126 #[.string s] w fun e w' => e = .returned (if 4096 < s.size then .tuple #[.agg #[.int .i64 0, .int .i64 0, .string ⟨#[]⟩, .bool false], .int .i64 3] else .tuple #[.agg #[.int .i64 2, .int .i64 0, .string s, .bool false], .int .i64 0]) ∧ Below w.heap.size w w' := by
  have HC := Lib.hid (fun w1 => vStr_calls s w1)
  have HA := Lib.hid (fun o => (Below.refl w.heap.size w).alloc (Nat.le_refl _) o)
  have HB := Lib.hid (Boxed.new 0 0 ⟨#[]⟩ false w 44)
  have HF := Lib.hid (Free4.new #[.int .i64 0, .int .i64 0, .string ⟨#[]⟩, .bool false] w 44)
  by_cases h : 4096 < s.size
  · rw [if_pos h]
    have t1 : decide ((4096 : Int) < (s.size : Int)) = true := by simp; omega
    clear h
    go_enter Tryz.func126, Tryz.ntmps126
    go_wp2_with fail
    refine bodyPost_ret (v := .tuple #[.agg #[.int .i64 0, .int .i64 0, .string ⟨#[]⟩, .bool false], .int .i64 3]) ?_ rfl ⟨rfl, ?_⟩
    · rw [results_cell_tmp rfl]
      go_simp
    · exact HA.out _
  · rw [if_neg h]
    have t1 : decide ((4096 : Int) < (s.size : Int)) = false := by simp; omega
    clear h
    go_enter Tryz.func126, Tryz.ntmps126
    go_wp2_with fail
    refine (HC.out _).mono ?_
    rintro e w1 ⟨rfl, k1⟩
    obtain ⟨c0, c1, c2, c3⟩ := HB.out.below k1 (by simp)
    obtain ⟨f0, f1, f2, f3⟩ := HF.out.below k1 (by simp)
    have HK := Lib.hid ((HA.out _).trans (k1.mono (by simp)))
    clear k1
    go_wp2_with fail
    refine bodyPost_ret (v := .tuple #[.agg #[.int .i64 2, .int .i64 0, .string s, .bool false], .int .i64 0]) ?_ rfl ⟨rfl, ?_⟩
    · rw [results_cell_tmp rfl]
      go_simp
    · repeat' (first | exact HK.out | refine Below.setCell ?_ (by simp) _)

theorem fit_yes {t : List UInt8} (h : 4096 < (⟨t.toArray⟩ : ByteArray).size) : strV (some t) = ⟨0, 0, [], false, 3⟩ := by
  rw [ba_size] at h; simp only [strV]; rw [if_pos h]
theorem fit_no {t : List UInt8} (h : ¬ 4096 < (⟨t.toArray⟩ : ByteArray).size) : strV (some t) = ⟨2, 0, t, false, 0⟩ := by
  rw [ba_size] at h; simp only [strV]; rw [if_neg h]

theorem unq_calls (s : ByteArray) (w : World) (hs : s.size ≤ 4294967296) (hE : Esc w) :
    Calls Tryz.prog 125 #[.string s] w fun e w' => e = .returned (match unq s.data.toList with | some t => .tuple #[.string ⟨t.toArray⟩, .bool true] | none => .tuple #[.string ⟨#[]⟩, .bool false]) ∧ Below w.heap.size w w' := by
  refine (unquote_calls s w hs hE).mono ?_
  rintro e w1 ⟨t, n, ok, hT, he, k1⟩
  have hu := unq_told hT
  rcases he with ⟨hok, hn, rfl⟩ | ⟨hno, rfl⟩
  · rw [if_pos ⟨hok, hn⟩] at hu
    rw [hu]
    exact ⟨rfl, k1⟩
  · rw [if_neg hno] at hu
    rw [hu]
    exact ⟨rfl, k1⟩
theorem unq_len {s : ByteArray} {t : List UInt8} (h : unq s.data.toList = some t) : t.length + 2 ≤ s.size := by
  have h2 := congrArg List.length (unq_some h)
  rw [quote_len, ← ba_size] at h2
  have := (body_len t).1
  omega

set_option maxHeartbeats 1000000 in
theorem vParseStr_calls (s : ByteArray) (w : World) (hs : s.size ≤ 4294967296) (hL : Laid w) :
    Calls Tryz.prog 114 #[.string s] w fun e w' => e = .returned (strV (unq s.data.toList)).val ∧ Below w.heap.size w w' := by
  have ha := (Below.refl w.heap.size w).alloc (Nat.le_refl _) (.cells #[.int .i64 0, .int .i64 0, .string ⟨#[]⟩, .bool false] 44)
  have h1 := unq_calls s _ hs (hL.below ha).2
  have HA := Lib.hid ha
  have HB := Lib.hid (Boxed.new 0 0 ⟨#[]⟩ false w 44)
  have HF := Lib.hid (Free4.new #[.int .i64 0, .int .i64 0, .string ⟨#[]⟩, .bool false] w 44)
  clear hL ha
  cases hu : unq s.data.toList with
  | none =>
    rw [hu] at h1
    have H1 := Lib.hid h1
    clear h1 hu
    go_enter Tryz.func114, Tryz.ntmps114
    go_wp2_with fail
    refine H1.out.mono ?_
    rintro e w1 ⟨rfl, k1⟩
    obtain ⟨c0, c1, c2, c3⟩ := HB.out.below k1 (by simp)
    obtain ⟨f0, f1, f2, f3⟩ := HF.out.below k1 (by simp)
    have HK := Lib.hid (HA.out.trans (k1.mono (by simp)))
    clear k1
    go_wp2_with fail
    refine bodyPost_ret (v := .tuple #[.agg #[.int .i64 0, .int .i64 0, .string ⟨#[]⟩, .bool false], .int .i64 4]) ?_ rfl ⟨rfl, ?_⟩
    · rw [results_cell_tmp rfl]
      go_simp
    · repeat' (first | exact HK.out | refine Below.setCell ?_ (by simp) _)
  | some t =>
    rw [hu] at h1
    have htl := unq_len hu
    obtain ⟨T, hTT⟩ : ∃ T : ByteArray, T = ⟨t.toArray⟩ := ⟨_, rfl⟩
    have hTs : T.size = t.length := by rw [hTT, ba_size]
    have h2 := fun w1 => vFitting_calls T w1 (by omega)
    simp only [← hTT] at h1
    have H1 := Lib.hid h1
    by_cases h4 : 4096 < T.size
    · rw [fit_yes (by rw [← hTT]; exact h4)]
      simp only [if_pos h4] at h2
      have H2 := Lib.hid h2
      clear h1 h2 hu hTT hTs h4 htl
      go_enter Tryz.func114, Tryz.ntmps114
      go_wp2_with fail
      refine H1.out.mono ?_
      rintro e w1 ⟨rfl, k1⟩
      have HK := Lib.hid (HA.out.trans (k1.mono (by simp)))
      have HB1 := Lib.hid (HB.out.below k1 (by simp))
      have HF1 := Lib.hid (HF.out.below k1 (by simp))
      have HS : Hid (w.heap.size < w1.heap.size) := Lib.hid (by have := k1.size; simp at this; omega)
      clear k1
      go_wp2_with fail
      refine (H2.out _).mono ?_
      rintro e w2 ⟨rfl, k2⟩
      have HK2 := Lib.hid (HK.out.trans (k2.mono HK.out.size))
      obtain ⟨c0, c1, c2, c3⟩ := HB1.out.below k2 HS.out
      obtain ⟨f0, f1, f2, f3⟩ := HF1.out.below k2 HS.out
      clear k2
      go_wp2_with fail
      refine bodyPost_ret (v := .tuple #[.agg #[.int .i64 0, .int .i64 0, .string ⟨#[]⟩, .bool false], .int .i64 3]) ?_ rfl ⟨rfl, ?_⟩
      · rw [results_cell_tmp rfl]
        go_simp
      · repeat' (first | exact HK2.out | refine Below.setCell ?_ (by simp) _)
    · rw [fit_no (by rw [← hTT]; exact h4)]
      simp only [if_neg h4] at h2
      have H2 := Lib.hid h2
      have HR : Hid ((⟨2, 0, t, false, 0⟩ : PVal).val = .tuple #[.agg #[.int .i64 2, .int .i64 0, .string T, .bool false], .int .i64 0]) := Lib.hid (by rw [hTT]; rfl)
      clear h1 h2 hu hTT hTs h4 htl
      go_enter Tryz.func114, Tryz.ntmps114
      go_wp2_with fail
      refine H1.out.mono ?_
      rintro e w1 ⟨rfl, k1⟩
      have HK := Lib.hid (HA.out.trans (k1.mono (by simp)))
      have HB1 := Lib.hid (HB.out.below k1 (by simp))
      have HF1 := Lib.hid (HF.out.below k1 (by simp))
      have HS : Hid (w.heap.size < w1.heap.size) := Lib.hid (by have := k1.size; simp at this; omega)
      clear k1
      go_wp2_with fail
      refine (H2.out _).mono ?_
      rintro e w2 ⟨rfl, k2⟩
      have HK2 := Lib.hid (HK.out.trans (k2.mono HK.out.size))
      obtain ⟨c0, c1, c2, c3⟩ := HB1.out.below k2 HS.out
      obtain ⟨f0, f1, f2, f3⟩ := HF1.out.below k2 HS.out
      clear k2
      go_wp2_with fail
      refine bodyPost_ret (v := .tuple #[.agg #[.int .i64 2, .int .i64 0, .string T, .bool false], .int .i64 0]) ?_ rfl ⟨?_, ?_⟩
      · rw [results_cell_tmp rfl]
        go_simp
      · rw [HR.out]
      · repeat' (first | exact HK2.out | refine Below.setCell ?_ (by simp) _)

set_option maxHeartbeats 1000000 in
theorem vParse_calls (s : ByteArray) (w : World) (hs : s.size ≤ 4294967296) (hL : Laid w) :
    Calls Tryz.prog 95 #[.string s] w fun e w' => e = .returned (parsedV s.data.toList).val ∧ Below w.heap.size w w' := by
  have ha := (Below.refl w.heap.size w).alloc (Nat.le_refl _) (.cells #[.int .i64 0, .int .i64 0, .string ⟨#[]⟩, .bool false] 44)
  have HA := Lib.hid ha
  have HB := Lib.hid (Boxed.new 0 0 ⟨#[]⟩ false w 44)
  have HF := Lib.hid (Free4.new #[.int .i64 0, .int .i64 0, .string ⟨#[]⟩, .bool false] w 44)
  have hL1 := hL.below ha
  have HP := Lib.hid (fun w1 => hasPrefix_calls s w1)
  by_cases h1 : s.data.toList = tru
  · obtain rfl : s = ⟨#[116, 114, 117, 101]⟩ := by rw [← back_ba s, h1]; rfl
    have HR : Hid (parsedV (⟨#[116, 114, 117, 101]⟩ : ByteArray).data.toList = ⟨3, 0, [], true, 0⟩) := Lib.hid parsed_tru
    rw [HR.out]
    have H1 := Lib.hid (fun w1 => vBool_calls true w1)
    clear h1 hL hL1 ha HP HR
    go_enter Tryz.func95, Tryz.ntmps95
    go_wp2_with fail
    refine (H1.out _).mono ?_
    rintro e w1 ⟨rfl, k1⟩
    obtain ⟨c0, c1, c2, c3⟩ := HB.out.below k1 (by simp)
    obtain ⟨f0, f1, f2, f3⟩ := HF.out.below k1 (by simp)
    have HK := Lib.hid (HA.out.trans (k1.mono (by simp)))
    clear k1
    go_wp2_with fail
    refine bodyPost_ret (v := .tuple #[.agg #[.int .i64 3, .int .i64 0, .string ⟨#[]⟩, .bool true], .int .i64 0]) ?_ rfl ⟨rfl, ?_⟩
    · rw [results_cell_tmp rfl]
      go_simp
    · repeat' (first | exact HK.out | refine Below.setCell ?_ (by simp) _)
  by_cases h2 : s.data.toList = fls
  · obtain rfl : s = ⟨#[102, 97, 108, 115, 101]⟩ := by rw [← back_ba s, h2]; rfl
    have HR : Hid (parsedV (⟨#[102, 97, 108, 115, 101]⟩ : ByteArray).data.toList = ⟨3, 0, [], false, 0⟩) := Lib.hid parsed_fls
    rw [HR.out]
    have H1 := Lib.hid (fun w1 => vBool_calls false w1)
    clear h1 h2 hL hL1 ha HP HR
    go_enter Tryz.func95, Tryz.ntmps95
    go_wp2_with fail
    refine (H1.out _).mono ?_
    rintro e w1 ⟨rfl, k1⟩
    obtain ⟨c0, c1, c2, c3⟩ := HB.out.below k1 (by simp)
    obtain ⟨f0, f1, f2, f3⟩ := HF.out.below k1 (by simp)
    have HK := Lib.hid (HA.out.trans (k1.mono (by simp)))
    clear k1
    go_wp2_with fail
    refine bodyPost_ret (v := .tuple #[.agg #[.int .i64 3, .int .i64 0, .string ⟨#[]⟩, .bool false], .int .i64 0]) ?_ rfl ⟨rfl, ?_⟩
    · rw [results_cell_tmp rfl]
      go_simp
    · repeat' (first | exact HK.out | refine Below.setCell ?_ (by simp) _)
  have t1 : (s.toList == [116, 114, 117, 101]) = false := by rw [tl_data, beq_eq_false_iff_ne]; exact h1
  have t2 : (s.toList == [102, 97, 108, 115, 101]) = false := by rw [tl_data, beq_eq_false_iff_ne]; exact h2
  by_cases h3 : s.data.toList.head? = some 34
  · rw [parsed_str h3]
    rw [show (s.data.toList.head? == some 34) = true by simpa using h3] at HP
    have h4 := vParseStr_calls s _ hs hL1
    obtain ⟨k, i, T, b, e0, hv⟩ := (strV (unq s.data.toList)).val_eq
    rw [hv] at h4 ⊢
    have H4 := Lib.hid h4
    clear h1 h2 h3 h4 hv hL hL1 ha
    go_enter Tryz.func95, Tryz.ntmps95
    go_wp2_with fail
    refine (HP.out _).mono ?_
    rintro e w1 ⟨rfl, rfl⟩
    go_wp2_with fail
    refine H4.out.mono ?_
    rintro e w1 ⟨rfl, k1⟩
    obtain ⟨c0, c1, c2, c3⟩ := HB.out.below k1 (by simp)
    obtain ⟨f0, f1, f2, f3⟩ := HF.out.below k1 (by simp)
    have HK := Lib.hid (HA.out.trans (k1.mono (by simp)))
    clear k1
    go_wp2_with fail
    refine bodyPost_ret (v := .tuple #[.agg #[.int .i64 k, .int .i64 i, .string T, .bool b], .int .i64 e0]) ?_ rfl ⟨rfl, ?_⟩
    · rw [results_cell_tmp rfl]
      go_simp
    · repeat' (first | exact HK.out | refine Below.setCell ?_ (by simp) _)
  · rw [show (s.data.toList.head? == some 34) = false by simpa using h3] at HP
    obtain ⟨⟨hT, a, hE⟩, _⟩ := hL1
    have h4 := parse_calls s a _ (by omega) hE
    by_cases h5 : pe s.data.toList = 0
    · rw [parsed_yes h1 h2 h3 h5]
      rw [h5] at h4
      have H4 := Lib.hid h4
      have H6 := Lib.hid (fun w1 => vInt_calls (pn s.data.toList) w1)
      obtain ⟨n, hn⟩ : ∃ n, n = pn s.data.toList := ⟨_, rfl⟩
      rw [← hn] at H4 H6 ⊢
      clear h1 h2 h3 h4 h5 hL hT hE ha hn
      go_enter Tryz.func95, Tryz.ntmps95
      go_wp2_with fail
      refine (HP.out _).mono ?_
      rintro e w1 ⟨rfl, rfl⟩
      go_wp2_with fail
      refine H4.out.mono ?_
      rintro e w1 ⟨rfl, k1⟩
      have HK := Lib.hid (HA.out.trans (k1.mono (by simp)))
      have HB1 := Lib.hid (HB.out.below k1 (by simp))
      have HF1 := Lib.hid (HF.out.below k1 (by simp))
      have HS : Hid (w.heap.size < w1.heap.size) := Lib.hid (by have := k1.size; simp at this; omega)
      clear k1
      go_wp2_with fail
      refine (H6.out _).mono ?_
      rintro e w2 ⟨rfl, k2⟩
      have HK2 := Lib.hid (HK.out.trans (k2.mono HK.out.size))
      obtain ⟨c0, c1, c2, c3⟩ := HB1.out.below k2 HS.out
      obtain ⟨f0, f1, f2, f3⟩ := HF1.out.below k2 HS.out
      clear k2
      go_wp2_with fail
      refine bodyPost_ret (v := .tuple #[.agg #[.int .i64 1, .int .i64 n, .string ⟨#[]⟩, .bool false], .int .i64 0]) ?_ rfl ⟨rfl, ?_⟩
      · rw [results_cell_tmp rfl]
        go_simp
      · repeat' (first | exact HK2.out | refine Below.setCell ?_ (by simp) _)
    · rw [parsed_no h1 h2 h3 h5]
      have H4 := Lib.hid h4
      obtain ⟨n, hn⟩ : ∃ n, n = pn s.data.toList := ⟨_, rfl⟩
      obtain ⟨q, hq⟩ : ∃ q, q = pe s.data.toList := ⟨_, rfl⟩
      rw [← hn, ← hq] at H4
      rw [← hq] at h5 ⊢
      have t4 : (q != 0) = true := by simpa using h5
      clear h1 h2 h3 h4 h5 hL hT hE ha hn hq
      go_enter Tryz.func95, Tryz.ntmps95
      go_wp2_with fail
      refine (HP.out _).mono ?_
      rintro e w1 ⟨rfl, rfl⟩
      go_wp2_with fail
      refine H4.out.mono ?_
      rintro e w1 ⟨rfl, k1⟩
      obtain ⟨c0, c1, c2, c3⟩ := HB.out.below k1 (by simp)
      obtain ⟨f0, f1, f2, f3⟩ := HF.out.below k1 (by simp)
      have HK := Lib.hid (HA.out.trans (k1.mono (by simp)))
      clear k1
      go_wp2_with fail
      refine bodyPost_ret (v := .tuple #[.agg #[.int .i64 0, .int .i64 0, .string ⟨#[]⟩, .bool false], .int .i64 q]) ?_ rfl ⟨rfl, ?_⟩
      · rw [results_cell_tmp rfl]
        go_simp
      · repeat' (first | exact HK.out | refine Below.setCell ?_ (by simp) _)
end Go.Proofs.YtmjchmamkjbgkaaGreatDoor

/- NumRefForm -/
namespace Go.Proofs.YtmjchmamkjbgkaaGreatDoor
open Go.RowKit

/-- From where the digits stand. -/
def fromOf (l : List UInt8) : Nat := if l.head? = some 45 then 1 else 0
theorem mag_drop (l : List UInt8) : mag l = l.drop (fromOf l) := by
  unfold mag fromOf; split
  · rw [List.drop_one]
  · rfl
theorem fromOf_le (l : List UInt8) : fromOf l ≤ 1 := by unfold fromOf; split <;> omega
theorem form_of (l : List UInt8) (h0 : mag l ≠ []) (h48 : ¬ ((mag l).head? = some 48 ∧ 1 < l.length)) : formB l = (mag l).all isD := by
  unfold formB
  have he : (mag l).isEmpty = false := by
    cases hm : mag l with
    | nil => exact absurd hm h0
    | cons a r => rfl
  rw [he]
  by_cases hh : (mag l).head? = some 48
  · rw [if_pos hh]
    have h1 : l.length ≤ 1 := by
      rcases Nat.lt_or_ge 1 l.length with hc | hc
      · exact absurd ⟨hh, hc⟩ h48
      · exact hc
    cases l with
    | nil => exact absurd rfl h0
    | cons a r =>
      have hr : r = [] := by
        cases r with
        | nil => rfl
        | cons b t => simp at h1
      subst hr
      by_cases ha : a = 45
      · subst ha; exact absurd rfl h0
      · have em : mag [a] = [a] := if_neg (fun e => ha (Option.some.inj e))
        rw [em] at hh ⊢
        obtain rfl : a = 48 := Option.some.inj hh
        rfl
  · rw [if_neg hh]; rfl
theorem form_not (l : List UInt8) (h : (mag l).head? = some 48) (h1 : 1 < l.length) : formB l = false := by
  unfold formB
  rw [if_pos h]
  have : (l == [48]) = false := by
    rw [beq_eq_false_iff_ne]; intro e; subst e; simp at h1
  rw [this, Bool.and_false]

/-- The loop over the digits, and what stands behind it, from the byte f on. -/
theorem all_drop_take (l : List UInt8) (f k : Nat) (h : k < l.length) (hf : f ≤ k) : ((l.drop f).take (k + 1 - f)).all isD = (((l.drop f).take (k - f)).all isD && isD l[k]) := by
  have e : k + 1 - f = (k - f) + 1 := by omega
  have hl : k - f < (l.drop f).length := by rw [List.length_drop]; omega
  rw [e, all_take _ _ hl, List.getElem_drop]
  congr 3
  omega


set_option maxHeartbeats 1000000 in
theorem refForm0_calls (s : ByteArray) (w : World) (hs : s.size ≤ 9223372036854775807) (l : List UInt8) (hl : l = s.data.toList) (hpos : 0 < s.size) (tA : ((s[0].toNat : Int) == 45) = false) (hmd : mag l = l.drop 0) :
    Calls Tryz.prog 74 #[.string s] w fun e w' => e = .returned (.bool (formB l)) ∧ w = w' := by
  have hsz : s.size = l.length := by rw [hl]; exact Lib.size_eq s
  have hidx : ∀ k (hk : k < s.size) (hk2 : k < l.length), l[k] = s[k] := fun k hk hk2 => by subst hl; rfl
  have tz : decide ((0 : Int) < (s.size : Int)) = true := by simp; omega
  have tC : decide ((s.size : Int) ≤ 0) = false := decide_eq_false (by omega)
  have hE : ¬ s = ByteArray.empty := fun e => by rw [e] at hpos; exact absurd hpos (by decide)
  have hne : mag l ≠ [] := by rw [hmd]; intro e; have := congrArg List.length e; rw [List.length_drop, List.length_nil] at this; omega
  have hhd : (mag l).head? = some s[0] := by
    rw [hmd, List.head?_drop, List.getElem?_eq_getElem (by omega), hidx 0 (by omega) (by omega)]
  by_cases h48 : s[0].toNat = 48 ∧ 1 < s.size
  · have hf : formB l = false := form_not l (by rw [hhd]; exact congrArg some (UInt8.toNat_inj.1 h48.1)) (by omega)
    rw [hf]
    obtain ⟨g1, g2⟩ := h48
    have tB : decide ((1 : Int) < (s.size : Int)) = true := by simp; omega
    have t48 : ((s[0].toNat : Int) == 48) = true := by simp; omega
    clear hf hmd hidx hsz hl hne hhd g1
    go_enter Tryz.func74, Tryz.ntmps74
    go_wp2
    go_ret
    exact ⟨rfl, rfl⟩
  have HF := Lib.hid (form_of l hne (fun h => h48 ⟨by have := h.1; rw [hhd] at this; rw [Option.some.inj this]; rfl, by omega⟩))
  rw [hmd] at HF
  have HI := Lib.hid hidx
  have HZ := Lib.hid hsz
  clear hidx hsz hl hne hhd hmd
  by_cases hz : s[0].toNat = 48
  · have hno : ¬ 1 < s.size := fun h => h48 ⟨hz, h⟩
    have tB : decide ((1 : Int) < (s.size : Int)) = false := by simp; omega
    have t48 : ((s[0].toNat : Int) == 48) = true := by simp; omega
    clear h48 hz
    go_enter Tryz.func74, Tryz.ntmps74
    go_wp2
    go_loop [4] (fun i => ∃ k : Nat, 0 ≤ k ∧ k ≤ s.size ∧ i = .int .i64 k ∧ Hid (((l.drop 0).take (k - 0)).all isD = true)) (fun i => s.size - (intOf i).toNat)
    case atStart => exact ⟨0, Nat.le_refl _, by omega, rfl, Lib.hid (by rw [Nat.sub_self]; rfl)⟩
    case round =>
      obtain ⟨k, hfk, hk, rfl, HA⟩ := hrel
      by_cases hlt : k < s.size
      · have hkl : k < l.length := by rw [← HZ.out]; exact hlt
        have HT := Lib.hid (all_drop_take l 0 k hkl hfk)
        have HC : Hid (l[k] = s[k]) := Lib.hid (HI.out k hlt hkl)
        by_cases hdig : 48 ≤ s[k].toNat ∧ s[k].toNat ≤ 57
        · obtain ⟨g1, g2⟩ := hdig
          have HN : Hid (((l.drop 0).take (k + 1 - 0)).all isD = true) := Lib.hid (by rw [HT.out, HA.out, HC.out]; simp [isD, g1, g2])
          have t1 : decide ((s[k].toNat : Int) < 48) = false := by simp; omega
          have t2 : decide ((57 : Int) < (s[k].toNat : Int)) = false := by simp; omega
          clear HC g1 g2
          go_wp2
          go_round
          case rel => exact ⟨k + 1, by omega, by omega, by go_num, HN⟩
          case measure => simp [intOf]; omega
        · have HD : Hid ((l.drop 0).all isD = false) := Lib.hid (all_dead (l.drop 0) (k - 0) (by rw [List.length_drop]; omega) (by
            have e : (l.drop 0)[k - 0]'(by rw [List.length_drop]; omega) = s[k] := by
              rw [List.getElem_drop, ← HC.out]; congr 1; omega
            rw [e]; unfold isD; simpa using hdig))
          by_cases hlow : s[k].toNat < 48
          · have t1 : decide ((s[k].toNat : Int) < 48) = true := by simp; omega
            clear HC hdig hlow
            go_wp2
            go_ret
            rw [HF.out, HD.out]
            exact ⟨rfl, rfl⟩
          · have t1 : decide ((s[k].toNat : Int) < 48) = false := by simp; omega
            have t2 : decide ((57 : Int) < (s[k].toNat : Int)) = true := by simp; omega
            clear HC hdig hlow
            go_wp2
            go_ret
            rw [HF.out, HD.out]
            exact ⟨rfl, rfl⟩
      · have HX : Hid ((l.drop 0).all isD = true) := Lib.hid (by have := HA.out; rwa [List.take_of_length_le (by rw [List.length_drop, ← HZ.out]; omega)] at this)
        go_wp2
        go_ret
        rw [HF.out, HX.out]
        exact ⟨rfl, rfl⟩
  · have t48 : ((s[0].toNat : Int) == 48) = false := by rw [beq_eq_false_iff_ne]; omega
    clear h48 hz
    go_enter Tryz.func74, Tryz.ntmps74
    go_wp2
    go_loop [4] (fun i => ∃ k : Nat, 0 ≤ k ∧ k ≤ s.size ∧ i = .int .i64 k ∧ Hid (((l.drop 0).take (k - 0)).all isD = true)) (fun i => s.size - (intOf i).toNat)
    case atStart => exact ⟨0, Nat.le_refl _, by omega, rfl, Lib.hid (by rw [Nat.sub_self]; rfl)⟩
    case round =>
      obtain ⟨k, hfk, hk, rfl, HA⟩ := hrel
      by_cases hlt : k < s.size
      · have hkl : k < l.length := by rw [← HZ.out]; exact hlt
        have HT := Lib.hid (all_drop_take l 0 k hkl hfk)
        have HC : Hid (l[k] = s[k]) := Lib.hid (HI.out k hlt hkl)
        by_cases hdig : 48 ≤ s[k].toNat ∧ s[k].toNat ≤ 57
        · obtain ⟨g1, g2⟩ := hdig
          have HN : Hid (((l.drop 0).take (k + 1 - 0)).all isD = true) := Lib.hid (by rw [HT.out, HA.out, HC.out]; simp [isD, g1, g2])
          have t1 : decide ((s[k].toNat : Int) < 48) = false := by simp; omega
          have t2 : decide ((57 : Int) < (s[k].toNat : Int)) = false := by simp; omega
          clear HC g1 g2
          go_wp2
          go_round
          case rel => exact ⟨k + 1, by omega, by omega, by go_num, HN⟩
          case measure => simp [intOf]; omega
        · have HD : Hid ((l.drop 0).all isD = false) := Lib.hid (all_dead (l.drop 0) (k - 0) (by rw [List.length_drop]; omega) (by
            have e : (l.drop 0)[k - 0]'(by rw [List.length_drop]; omega) = s[k] := by
              rw [List.getElem_drop, ← HC.out]; congr 1; omega
            rw [e]; unfold isD; simpa using hdig))
          by_cases hlow : s[k].toNat < 48
          · have t1 : decide ((s[k].toNat : Int) < 48) = true := by simp; omega
            clear HC hdig hlow
            go_wp2
            go_ret
            rw [HF.out, HD.out]
            exact ⟨rfl, rfl⟩
          · have t1 : decide ((s[k].toNat : Int) < 48) = false := by simp; omega
            have t2 : decide ((57 : Int) < (s[k].toNat : Int)) = true := by simp; omega
            clear HC hdig hlow
            go_wp2
            go_ret
            rw [HF.out, HD.out]
            exact ⟨rfl, rfl⟩
      · have HX : Hid ((l.drop 0).all isD = true) := Lib.hid (by have := HA.out; rwa [List.take_of_length_le (by rw [List.length_drop, ← HZ.out]; omega)] at this)
        go_wp2
        go_ret
        rw [HF.out, HX.out]
        exact ⟨rfl, rfl⟩

set_option maxHeartbeats 1000000 in
theorem refForm1_calls (s : ByteArray) (w : World) (hs : s.size ≤ 9223372036854775807) (l : List UInt8) (hl : l = s.data.toList) (hpos : 0 < s.size) (tA : ((s[0].toNat : Int) == 45) = true) (hmd : mag l = l.drop 1) :
    Calls Tryz.prog 74 #[.string s] w fun e w' => e = .returned (.bool (formB l)) ∧ w = w' := by
  have hsz : s.size = l.length := by rw [hl]; exact Lib.size_eq s
  have hidx : ∀ k (hk : k < s.size) (hk2 : k < l.length), l[k] = s[k] := fun k hk hk2 => by subst hl; rfl
  have tz : decide ((0 : Int) < (s.size : Int)) = true := by simp; omega
  by_cases hone : s.size ≤ 1
  · have hf : formB l = false := by
      have : mag l = [] := by rw [hmd]; exact List.drop_eq_nil_of_le (by omega)
      unfold formB; rw [this]; rfl
    rw [hf]
    have tC : decide ((s.size : Int) ≤ 1) = true := by simp; omega
    clear hf hmd hidx hsz hl
    go_enter Tryz.func74, Tryz.ntmps74
    go_wp2
    go_ret
    exact ⟨rfl, rfl⟩
  have hbig : 1 < s.size := by omega
  have tC : decide ((s.size : Int) ≤ 1) = false := by simp; omega
  clear hone
  have hne : mag l ≠ [] := by rw [hmd]; intro e; have := congrArg List.length e; rw [List.length_drop, List.length_nil] at this; omega
  have hhd : (mag l).head? = some s[1] := by
    rw [hmd, List.head?_drop, List.getElem?_eq_getElem (by omega), hidx 1 (by omega) (by omega)]
  by_cases h48 : s[1].toNat = 48 ∧ 1 < s.size
  · have hf : formB l = false := form_not l (by rw [hhd]; exact congrArg some (UInt8.toNat_inj.1 h48.1)) (by omega)
    rw [hf]
    obtain ⟨g1, g2⟩ := h48
    have tB : decide ((1 : Int) < (s.size : Int)) = true := by simp; omega
    have t48 : ((s[1].toNat : Int) == 48) = true := by simp; omega
    clear hf hmd hidx hsz hl hne hhd g1
    go_enter Tryz.func74, Tryz.ntmps74
    go_wp2
    go_ret
    exact ⟨rfl, rfl⟩
  have HF := Lib.hid (form_of l hne (fun h => h48 ⟨by have := h.1; rw [hhd] at this; rw [Option.some.inj this]; rfl, by omega⟩))
  rw [hmd] at HF
  have HI := Lib.hid hidx
  have HZ := Lib.hid hsz
  clear hidx hsz hl hne hhd hmd
  by_cases hz : s[1].toNat = 48
  · have hno : ¬ 1 < s.size := fun h => h48 ⟨hz, h⟩
    have tB : decide ((1 : Int) < (s.size : Int)) = false := by simp; omega
    have t48 : ((s[1].toNat : Int) == 48) = true := by simp; omega
    exact absurd hbig hno
  · have t48 : ((s[1].toNat : Int) == 48) = false := by rw [beq_eq_false_iff_ne]; omega
    clear h48 hz
    go_enter Tryz.func74, Tryz.ntmps74
    go_wp2
    go_loop [4] (fun i => ∃ k : Nat, 1 ≤ k ∧ k ≤ s.size ∧ i = .int .i64 k ∧ Hid (((l.drop 1).take (k - 1)).all isD = true)) (fun i => s.size - (intOf i).toNat)
    case atStart => exact ⟨1, Nat.le_refl _, by omega, rfl, Lib.hid (by rw [Nat.sub_self]; rfl)⟩
    case round =>
      obtain ⟨k, hfk, hk, rfl, HA⟩ := hrel
      by_cases hlt : k < s.size
      · have hkl : k < l.length := by rw [← HZ.out]; exact hlt
        have HT := Lib.hid (all_drop_take l 1 k hkl hfk)
        have HC : Hid (l[k] = s[k]) := Lib.hid (HI.out k hlt hkl)
        by_cases hdig : 48 ≤ s[k].toNat ∧ s[k].toNat ≤ 57
        · obtain ⟨g1, g2⟩ := hdig
          have HN : Hid (((l.drop 1).take (k + 1 - 1)).all isD = true) := Lib.hid (by rw [HT.out, HA.out, HC.out]; simp [isD, g1, g2])
          have t1 : decide ((s[k].toNat : Int) < 48) = false := by simp; omega
          have t2 : decide ((57 : Int) < (s[k].toNat : Int)) = false := by simp; omega
          clear HC g1 g2
          go_wp2
          go_round
          case rel => exact ⟨k + 1, by omega, by omega, by go_num, HN⟩
          case measure => simp [intOf]; omega
        · have HD : Hid ((l.drop 1).all isD = false) := Lib.hid (all_dead (l.drop 1) (k - 1) (by rw [List.length_drop]; omega) (by
            have e : (l.drop 1)[k - 1]'(by rw [List.length_drop]; omega) = s[k] := by
              rw [List.getElem_drop, ← HC.out]; congr 1; omega
            rw [e]; unfold isD; simpa using hdig))
          by_cases hlow : s[k].toNat < 48
          · have t1 : decide ((s[k].toNat : Int) < 48) = true := by simp; omega
            clear HC hdig hlow
            go_wp2
            go_ret
            rw [HF.out, HD.out]
            exact ⟨rfl, rfl⟩
          · have t1 : decide ((s[k].toNat : Int) < 48) = false := by simp; omega
            have t2 : decide ((57 : Int) < (s[k].toNat : Int)) = true := by simp; omega
            clear HC hdig hlow
            go_wp2
            go_ret
            rw [HF.out, HD.out]
            exact ⟨rfl, rfl⟩
      · have HX : Hid ((l.drop 1).all isD = true) := Lib.hid (by have := HA.out; rwa [List.take_of_length_le (by rw [List.length_drop, ← HZ.out]; omega)] at this)
        go_wp2
        go_ret
        rw [HF.out, HX.out]
        exact ⟨rfl, rfl⟩

theorem refForm_calls (s : ByteArray) (w : World) (hs : s.size ≤ 9223372036854775807) :
    Calls Tryz.prog 74 #[.string s] w fun e w' => e = .returned (.bool (formB s.data.toList)) ∧ w = w' := by
  by_cases hz : s.size = 0
  · obtain rfl : s = ⟨#[]⟩ := by
      obtain ⟨⟨d⟩⟩ := s
      have : d = [] := List.length_eq_zero_iff.1 hz
      rw [this]
    rw [show formB (⟨#[]⟩ : ByteArray).data.toList = false from rfl]
    go_enter Tryz.func74, Tryz.ntmps74
    go_wp2
    go_ret
    exact ⟨rfl, rfl⟩
  · have hpos : 0 < s.size := by omega
    have hmd := mag_drop s.data.toList
    have hhead : s.data.toList.head? = some s[0] := by
      rw [List.head?_eq_getElem?, List.getElem?_eq_getElem (by rw [← Lib.size_eq]; exact hpos)]; rfl
    by_cases hc : s[0] = 45
    · have hfr : fromOf s.data.toList = 1 := by unfold fromOf; rw [hhead, hc, if_pos rfl]
      rw [hfr] at hmd
      exact refForm1_calls s w hs _ rfl hpos (by rw [hc]; rfl) hmd
    · have hfr : fromOf s.data.toList = 0 := by unfold fromOf; rw [hhead, if_neg (fun e => hc (Option.some.inj e))]
      rw [hfr] at hmd
      refine refForm0_calls s w hs _ rfl hpos ?_ hmd
      rw [beq_eq_false_iff_ne]
      intro e
      exact hc (UInt8.toNat_inj.1 (by have : (45 : UInt8).toNat = 45 := rfl; omega))
end Go.Proofs.YtmjchmamkjbgkaaGreatDoor

/- NumRefMul -/
namespace Go.Proofs.YtmjchmamkjbgkaaGreatDoor
open Go.RowKit

set_option maxHeartbeats 400000 in
theorem refSub_calls (a b : Int) (w : World) (ha : -9223372036854775808 ≤ a ∧ a ≤ 9223372036854775807) (hb : -9223372036854775808 ≤ b ∧ b ≤ 9223372036854775807) :
    Calls Tryz.prog 76 #[.int .i64 a, .int .i64 b] w fun e w' => e = .returned (.tuple #[.int .i64 (tn (a - b)), .bool (tb (a - b))]) ∧ w = w' := by
  obtain ⟨ha1, ha2⟩ := ha
  obtain ⟨hb1, hb2⟩ := hb
  by_cases h : -9223372036854775808 ≤ a - b ∧ a - b ≤ 9223372036854775807
  · obtain ⟨h1, h2⟩ := h
    rw [tn_yes h1 h2, tb_yes h1 h2]
    by_cases hp : 0 < b
    · have t1 : decide (0 < b) = true := by simp; omega
      have t2 : decide (b < 0) = false := by simp; omega
      have t3 : decide (a < -9223372036854775808 + b) = false := by simp; omega
      go_enter Tryz.func76, Tryz.ntmps76
      go_wp2
      go_ret2
      exact ⟨rfl, rfl⟩
    · by_cases hq : b < 0
      · have t1 : decide (0 < b) = false := by simp; omega
        have t2 : decide (b < 0) = true := by simp; omega
        have t3 : decide (9223372036854775807 + b < a) = false := by simp; omega
        go_enter Tryz.func76, Tryz.ntmps76
        go_wp2
        go_ret2
        exact ⟨rfl, rfl⟩
      · have t1 : decide (0 < b) = false := by simp; omega
        have t2 : decide (b < 0) = false := by simp; omega
        go_enter Tryz.func76, Tryz.ntmps76
        go_wp2
        go_ret2
        exact ⟨rfl, rfl⟩
  · rw [tn_no h, tb_no h]
    by_cases hp : 0 < b
    · have t1 : decide (0 < b) = true := by simp; omega
      have t2 : decide (b < 0) = false := by simp; omega
      have t3 : decide (a < -9223372036854775808 + b) = true := by simp; omega
      go_enter Tryz.func76, Tryz.ntmps76
      go_wp2
      go_ret2
      exact ⟨rfl, rfl⟩
    · have t1 : decide (0 < b) = false := by simp; omega
      have t2 : decide (b < 0) = true := by simp; omega
      have t3 : decide (9223372036854775807 + b < a) = true := by simp; omega
      go_enter Tryz.func76, Tryz.ntmps76
      go_wp2
      go_ret2
      exact ⟨rfl, rfl⟩
theorem refSub0_calls (a : Int) (w : World) (ha : -9223372036854775808 ≤ a ∧ a ≤ 9223372036854775807) :
    Calls Tryz.prog 76 #[.int .i64 0, .int .i64 a] w fun e w' => e = .returned (.tuple #[.int .i64 (tn (-a)), .bool (tb (-a))]) ∧ w = w' := by
  have h := refSub_calls 0 a w ⟨by omega, by omega⟩ ha
  rwa [Int.zero_sub] at h

set_option maxHeartbeats 1000000 in
theorem refMul_calls (a b : Int) (w : World) (ha : -9223372036854775808 ≤ a ∧ a ≤ 9223372036854775807) (hb : -9223372036854775808 ≤ b ∧ b ≤ 9223372036854775807) :
    Calls Tryz.prog 75 #[.int .i64 a, .int .i64 b] w fun e w' => e = .returned (.tuple #[.int .i64 (tn (a * b)), .bool (tb (a * b))]) ∧ w = w' := by
  by_cases a0 : a = 0
  · subst a0
    rw [Int.zero_mul, tn_yes (by omega) (by omega), tb_yes (by omega) (by omega)]
    clear ha hb
    go_enter Tryz.func75, Tryz.ntmps75
    go_wp2
    go_ret2
    exact ⟨rfl, rfl⟩
  have ta0 : (a == 0) = false := by simpa using a0
  by_cases b0 : b = 0
  · subst b0
    rw [Int.mul_zero, tn_yes (by omega) (by omega), tb_yes (by omega) (by omega)]
    clear ha hb a0
    go_enter Tryz.func75, Tryz.ntmps75
    go_wp2
    go_ret2
    exact ⟨rfl, rfl⟩
  have tb0 : (b == 0) = false := by simpa using b0
  by_cases a1 : a = -1
  · subst a1
    rw [show (-1 : Int) * b = -b by omega]
    clear ha a0 b0 ta0
    go_enter Tryz.func75, Tryz.ntmps75
    go_wp2_with (go_at_call 76; refine (refSub0_calls b _ hb).mono ?_; rintro e w' ⟨rfl, rfl⟩)
    go_ret2
    exact ⟨rfl, rfl⟩
  have ta1 : (a == -1) = false := by simpa using a1
  by_cases b1 : b = -1
  · subst b1
    rw [show a * (-1 : Int) = -a by omega]
    clear hb a0 b0 tb0 a1
    go_enter Tryz.func75, Tryz.ntmps75
    go_wp2_with (go_at_call 76; refine (refSub0_calls a _ ha).mono ?_; rintro e w' ⟨rfl, rfl⟩)
    go_ret2
    exact ⟨rfl, rfl⟩
  have tb1 : (b == -1) = false := by simpa using b1
  rcases (show (0 < a ∧ 0 < b) ∨ (0 < a ∧ b < 0) ∨ (a < 0 ∧ 0 < b) ∨ (a < 0 ∧ b < 0) by omega) with ⟨sa, sb⟩ | ⟨sa, sb⟩ | ⟨sa, sb⟩ | ⟨sa, sb⟩
  · -- 0 < a, 0 < b
    have hq := pos_pos sa sb
    obtain ⟨r1, r2⟩ := tdiv_fits (p := 9223372036854775807) b0 b1 ⟨by omega, by omega⟩
    have s1 : decide (0 < a) = true := by simp; omega
    have s2 : decide (a < 0) = false := by simp; omega
    have s3 : decide (0 < b) = true := by simp; omega
    have s4 : decide (b < 0) = false := by simp; omega
    by_cases h : -9223372036854775808 ≤ a * b ∧ a * b ≤ 9223372036854775807
    · have t : decide ((9223372036854775807 : Int).tdiv b < a) = false := by rw [decide_eq_false_iff_not, hq]; exact fun x => x h
      rw [tn_yes h.1 h.2, tb_yes h.1 h.2]
      obtain ⟨p1, p2⟩ := h
      clear hq a0 b0 a1 b1 ha hb
      go_enter Tryz.func75, Tryz.ntmps75
      go_wp2
      go_ret2
      exact ⟨rfl, rfl⟩
    · have t : decide ((9223372036854775807 : Int).tdiv b < a) = true := by rw [decide_eq_true_iff, hq]; exact h
      rw [tn_no h, tb_no h]
      clear hq a0 b0 a1 b1 ha hb h
      go_enter Tryz.func75, Tryz.ntmps75
      go_wp2
      go_ret2
      exact ⟨rfl, rfl⟩
  · -- 0 < a, b < 0
    have hq := pos_neg sa sb
    obtain ⟨r1, r2⟩ := least_fits a0 a1
    have s1 : decide (0 < a) = true := by simp; omega
    have s2 : decide (a < 0) = false := by simp; omega
    have s3 : decide (0 < b) = false := by simp; omega
    have s4 : decide (b < 0) = true := by simp; omega
    by_cases h : -9223372036854775808 ≤ a * b ∧ a * b ≤ 9223372036854775807
    · have t : decide (b < -(9223372036854775808 : Int).tdiv a) = false := by rw [decide_eq_false_iff_not, hq]; exact fun x => x h
      rw [tn_yes h.1 h.2, tb_yes h.1 h.2]
      obtain ⟨p1, p2⟩ := h
      clear hq a0 b0 a1 b1 ha hb
      go_enter Tryz.func75, Tryz.ntmps75
      go_wp2
      go_ret2
      exact ⟨rfl, rfl⟩
    · have t : decide (b < -(9223372036854775808 : Int).tdiv a) = true := by rw [decide_eq_true_iff, hq]; exact h
      rw [tn_no h, tb_no h]
      clear hq a0 b0 a1 b1 ha hb h
      go_enter Tryz.func75, Tryz.ntmps75
      go_wp2
      go_ret2
      exact ⟨rfl, rfl⟩
  · -- a < 0, 0 < b
    have hq := neg_pos sa sb
    obtain ⟨r1, r2⟩ := least_fits b0 b1
    have s1 : decide (0 < a) = false := by simp; omega
    have s2 : decide (a < 0) = true := by simp; omega
    have s3 : decide (0 < b) = true := by simp; omega
    have s4 : decide (b < 0) = false := by simp; omega
    by_cases h : -9223372036854775808 ≤ a * b ∧ a * b ≤ 9223372036854775807
    · have t : decide (a < -(9223372036854775808 : Int).tdiv b) = false := by rw [decide_eq_false_iff_not, hq]; exact fun x => x h
      rw [tn_yes h.1 h.2, tb_yes h.1 h.2]
      obtain ⟨p1, p2⟩ := h
      clear hq a0 b0 a1 b1 ha hb
      go_enter Tryz.func75, Tryz.ntmps75
      go_wp2
      go_ret2
      exact ⟨rfl, rfl⟩
    · have t : decide (a < -(9223372036854775808 : Int).tdiv b) = true := by rw [decide_eq_true_iff, hq]; exact h
      rw [tn_no h, tb_no h]
      clear hq a0 b0 a1 b1 ha hb h
      go_enter Tryz.func75, Tryz.ntmps75
      go_wp2
      go_ret2
      exact ⟨rfl, rfl⟩
  · -- a < 0, b < 0
    have hq := neg_neg sa sb
    obtain ⟨r1, r2⟩ := tdiv_fits (p := 9223372036854775807) b0 b1 ⟨by omega, by omega⟩
    have s1 : decide (0 < a) = false := by simp; omega
    have s2 : decide (a < 0) = true := by simp; omega
    have s3 : decide (0 < b) = false := by simp; omega
    have s4 : decide (b < 0) = true := by simp; omega
    by_cases h : -9223372036854775808 ≤ a * b ∧ a * b ≤ 9223372036854775807
    · have t : decide (a < (9223372036854775807 : Int).tdiv b) = false := by rw [decide_eq_false_iff_not, hq]; exact fun x => x h
      rw [tn_yes h.1 h.2, tb_yes h.1 h.2]
      obtain ⟨p1, p2⟩ := h
      clear hq a0 b0 a1 b1 ha hb
      go_enter Tryz.func75, Tryz.ntmps75
      go_wp2
      go_ret2
      exact ⟨rfl, rfl⟩
    · have t : decide (a < (9223372036854775807 : Int).tdiv b) = true := by rw [decide_eq_true_iff, hq]; exact h
      rw [tn_no h, tb_no h]
      clear hq a0 b0 a1 b1 ha hb h
      go_enter Tryz.func75, Tryz.ntmps75
      go_wp2
      go_ret2
      exact ⟨rfl, rfl⟩

end Go.Proofs.YtmjchmamkjbgkaaGreatDoor

/- NumRefNumber -/
namespace Go.Proofs.YtmjchmamkjbgkaaGreatDoor
open Go.RowKit

theorem dv_drop_take (l : List UInt8) (f k : Nat) (h : k < l.length) (hf : f ≤ k) : dv 0 ((l.drop f).take (k + 1 - f)) = dv 0 ((l.drop f).take (k - f)) * 10 + (l[k].toNat - 48) := by
  have e : k + 1 - f = (k - f) + 1 := by omega
  have hl : k - f < (l.drop f).length := by rw [List.length_drop]; omega
  have e2 : (l.drop f)[k - f] = l[k] := by rw [List.getElem_drop]; congr 1; omega
  rw [e, List.take_succ_eq_append_getElem hl, dv_snoc, e2]
theorem digit_in (l : List UInt8) (f k : Nat) (h : k < l.length) (hf : f ≤ k) (hd : (l.drop f).all isD = true) : 48 ≤ l[k].toNat ∧ l[k].toNat ≤ 57 := by
  have hl : k - f < (l.drop f).length := by rw [List.length_drop]; omega
  have e2 : (l.drop f)[k - f] = l[k] := by rw [List.getElem_drop]; congr 1; omega
  have := List.all_eq_true.1 hd _ (List.getElem_mem hl)
  rw [e2] at this
  simpa [isD] using this
/-- Where the digits so far go over, the whole text is told so. -/
theorem pn_over (l : List UInt8) (h : formB l = true) (k : Nat) (hk : 9223372036854775808 < dv 0 ((mag l).take k)) : pn l = 0 ∧ pe l = 5 := by
  have hle := dv_take_le (mag l) k
  have hno : ¬ (-9223372036854775808 ≤ vl l ∧ vl l ≤ 9223372036854775807) := by
    unfold vl; split <;> omega
  unfold pn pe
  rw [if_pos h, if_pos h, tn_no hno, tb_no hno]
  exact ⟨rfl, rfl⟩
theorem pn_end (l : List UInt8) (h : formB l = true) : pn l = tn (vl l) ∧ pe l = (if tb (vl l) = true then 0 else 5) := by
  unfold pn pe; rw [if_pos h, if_pos h]; exact ⟨rfl, rfl⟩

set_option maxHeartbeats 1000000 in
theorem refNumber_calls (s : ByteArray) (w : World) (hs : s.size ≤ 9223372036854775807) :
    Calls Tryz.prog 54 #[.string s] w fun e w' => e = .returned (.tuple #[.int .i64 (pn s.data.toList), .int .i64 (pe s.data.toList)]) ∧ w = w' := by
  have c1 := refForm_calls s w hs
  have hsz := Lib.size_eq s
  obtain ⟨l, hl⟩ : ∃ l, l = s.data.toList := ⟨_, rfl⟩
  rw [← hl] at hsz c1 ⊢
  by_cases hform : formB l = true
  · rw [hform] at c1
    have H1 := Lib.hid c1
    obtain ⟨hne, hdig⟩ := form_digits hform
    have hmd := mag_drop l
    have hpos : 0 < s.size := by
      rw [hsz]
      rcases Nat.eq_zero_or_pos l.length with h0 | h0
      · rw [List.length_eq_zero_iff.1 h0] at hne; exact absurd rfl hne
      · exact h0
    have hidx : ∀ k (hk : k < s.size) (hk2 : k < l.length), l[k] = s[k] := fun k hk hk2 => by subst hl; rfl
    have hhead : l.head? = some s[0] := by
      rw [List.head?_eq_getElem?, List.getElem?_eq_getElem (by omega), hidx 0 hpos (by omega)]
    have hOver := Lib.hid (pn_over l hform)
    have hEnd := Lib.hid (pn_end l hform)
    obtain ⟨f, hf⟩ : ∃ f, f = fromOf l := ⟨_, rfl⟩
    have hf1 : f ≤ 1 := by rw [hf]; exact fromOf_le l
    rw [← hf] at hmd
    rw [hmd] at hOver hdig
    have HV : Hid (vl l = if f = 1 then -(dv 0 (l.drop f) : Int) else (dv 0 (l.drop f) : Int)) := by
      refine Lib.hid ?_
      unfold vl; rw [hmd, hf]; unfold fromOf
      by_cases hc : l.head? = some 45
      · rw [if_pos hc, if_pos hc]; rfl
      · rw [if_neg hc, if_neg hc]; rfl
    have hs0 : (f = 1 ∧ ((s[0].toNat : Int) == 45) = true) ∨ (f = 0 ∧ ((s[0].toNat : Int) == 45) = false) := by
      rw [hf]; unfold fromOf; rw [hhead]
      by_cases hc : s[0] = 45
      · left; rw [hc]; exact ⟨rfl, rfl⟩
      · right
        refine ⟨if_neg (fun e => hc (Option.some.inj e)), ?_⟩
        rw [beq_eq_false_iff_ne]
        intro e
        exact hc (UInt8.toNat_inj.1 (by have : (45 : UInt8).toNat = 45 := rfl; omega))
    have HS := Lib.hid hs0
    have HI := Lib.hid hidx
    have HZ := Lib.hid hsz
    have HD := Lib.hid hdig
    clear hs0 hidx hsz hdig hmd hf hhead hne hform c1 hl
    go_enter Tryz.func54, Tryz.ntmps54
    go_wp2_with (go_at_call 74; refine H1.out.mono ?_; rintro e w' ⟨rfl, rfl⟩)
    go_loop [4, 5] (fun n i => ∃ (k : Nat) (x : Int), k ≤ s.size ∧ i = .int .i64 k ∧ n = .int .i64 x ∧ Hid (x = -(dv 0 ((l.drop f).take (k - f)) : Int) ∧ -9223372036854775808 ≤ x ∧ x ≤ 0)) (fun _ i => s.size - (intOf i).toNat)
    case atStart => exact ⟨0, 0, Nat.zero_le _, rfl, rfl, Lib.hid ⟨by rw [Nat.zero_sub]; rfl, by omega, by omega⟩⟩
    case round =>
      obtain ⟨k, x, hk, rfl, rfl, HX⟩ := hrel
      obtain ⟨x1, x2⟩ := HX.out.2
      by_cases hlt : k < s.size
      · by_cases hkf : k < f
        · have t45 : ((s[k].toNat : Int) == 45) = true := by
            have h0 : k = 0 := by omega
            subst h0
            rcases HS.out with ⟨_, h⟩ | ⟨h, _⟩
            · exact h
            · omega
          have HN : Hid (x = -(dv 0 ((l.drop f).take (k + 1 - f)) : Int) ∧ -9223372036854775808 ≤ x ∧ x ≤ 0) := by
            refine Lib.hid ⟨?_, x1, x2⟩
            rw [show k + 1 - f = k - f by omega]; exact HX.out.1
          clear HX hkf
          go_wp2_with fail
          go_round
          case rel => exact ⟨k + 1, x, by omega, by go_num, rfl, HN⟩
          case measure => simp [intOf]; omega
        · have hfk : f ≤ k := by omega
          have hkl : k < l.length := by rw [← HZ.out]; exact hlt
          have hc := digit_in l f k hkl hfk HD.out
          rw [HI.out k hlt hkl] at hc
          obtain ⟨c1, c2⟩ := hc
          have hstep := dv_drop_take l f k hkl hfk
          rw [HI.out k hlt hkl] at hstep
          have HO : Hid (9223372036854775808 < dv 0 ((l.drop f).take (k + 1 - f)) → pn l = 0 ∧ pe l = 5) := Lib.hid (fun h => hOver.out _ h)
          obtain ⟨D, hD⟩ : ∃ D, D = dv 0 ((l.drop f).take (k - f)) := ⟨_, rfl⟩
          obtain ⟨D2, hD2⟩ : ∃ D, D = dv 0 ((l.drop f).take (k + 1 - f)) := ⟨_, rfl⟩
          have hxD := HX.out.1
          rw [← hD] at hxD hstep
          rw [← hD2] at hstep HO
          have t45 : ((s[k].toNat : Int) == 45) = false := by rw [beq_eq_false_iff_ne]; omega
          have m1 := refMul_calls x 10 w ⟨x1, by omega⟩ ⟨by omega, by omega⟩
          have hb8 : s[k].toNat ≤ 255 := by omega
          by_cases hm : -9223372036854775808 ≤ x * 10 ∧ x * 10 ≤ 9223372036854775807
          · rw [tn_yes hm.1 hm.2, tb_yes hm.1 hm.2] at m1
            have m2 := refSub_calls (x * 10) ((s[k].toNat : Int) - 48) w hm ⟨by omega, by omega⟩
            by_cases hq : -9223372036854775808 ≤ x * 10 - ((s[k].toNat : Int) - 48) ∧ x * 10 - ((s[k].toNat : Int) - 48) ≤ 9223372036854775807
            · rw [tn_yes hq.1 hq.2, tb_yes hq.1 hq.2] at m2
              obtain ⟨y, hy⟩ : ∃ y, y = x * 10 - ((s[k].toNat : Int) - 48) := ⟨_, rfl⟩
              rw [← hy] at m2 hq
              have HN : Hid (y = -(dv 0 ((l.drop f).take (k + 1 - f)) : Int) ∧ -9223372036854775808 ≤ y ∧ y ≤ 0) := by
                refine Lib.hid ⟨?_, hq.1, by omega⟩
                rw [← hD2]; omega
              have M1 := Lib.hid m1
              have M2 := Lib.hid m2
              clear HX hkf hfk hD hD2 hxD hstep HO m1 m2 hm hq hy hkl
              go_wp2_with (first
                | (go_at_call 75; refine M1.out.mono ?_; rintro e w' ⟨rfl, rfl⟩)
                | (go_at_call 76; refine M2.out.mono ?_; rintro e w' ⟨rfl, rfl⟩))
              go_round
              case rel => exact ⟨k + 1, y, by omega, by go_num, rfl, HN⟩
              case measure => simp [intOf]; omega
            · have HE := Lib.hid (HO.out (by omega))
              rw [tb_no hq] at m2
              have M1 := Lib.hid m1
              have M2 := Lib.hid m2
              clear HX hkf hfk hD hD2 hxD hstep HO m1 m2 hm hq hkl
              go_wp2_with (first
                | (go_at_call 75; refine M1.out.mono ?_; rintro e w' ⟨rfl, rfl⟩)
                | (go_at_call 76; refine M2.out.mono ?_; rintro e w' ⟨rfl, rfl⟩))
              go_ret2
              rw [HE.out.1, HE.out.2]
              exact ⟨rfl, rfl⟩
          · have HE := Lib.hid (HO.out (by omega))
            rw [tn_no hm, tb_no hm] at m1
            have m2 := refSub_calls 0 ((s[k].toNat : Int) - 48) w ⟨by omega, by omega⟩ ⟨by omega, by omega⟩
            have M1 := Lib.hid m1
            have M2 := Lib.hid m2
            clear HX hkf hfk hD hD2 hxD hstep HO m1 m2 hm hkl
            go_wp2_with (first
              | (go_at_call 75; refine M1.out.mono ?_; rintro e w' ⟨rfl, rfl⟩)
              | (go_at_call 76; refine M2.out.mono ?_; rintro e w' ⟨rfl, rfl⟩))
            go_ret2
            rw [HE.out.1, HE.out.2]
            exact ⟨rfl, rfl⟩
      · have hx : x = -(dv 0 (l.drop f) : Int) := by
          have := HX.out.1
          rwa [List.take_of_length_le (by rw [List.length_drop, ← HZ.out]; omega)] at this
        have hv := HV.out
        rcases HS.out with ⟨hf, t0⟩ | ⟨hf, t0⟩
        · rw [if_pos hf, ← hx] at hv
          have HE : Hid (pn l = x ∧ pe l = 0) := by
            refine Lib.hid ?_
            rw [hEnd.out.1, hEnd.out.2, hv, tn_yes x1 (by omega), tb_yes x1 (by omega)]
            exact ⟨rfl, rfl⟩
          clear HX hx hv hf
          go_wp2_with fail
          go_ret2
          rw [HE.out.1, HE.out.2]
          exact ⟨rfl, rfl⟩
        · rw [if_neg (by omega)] at hv
          have hv2 : vl l = -x := by rw [hv, hx]; omega
          have m2 := refSub0_calls x w ⟨x1, by omega⟩
          by_cases hq : -9223372036854775808 ≤ -x ∧ -x ≤ 9223372036854775807
          · rw [tn_yes hq.1 hq.2, tb_yes hq.1 hq.2] at m2
            have M2 := Lib.hid m2
            have HE : Hid (pn l = -x ∧ pe l = 0) := by
              refine Lib.hid ?_
              rw [hEnd.out.1, hEnd.out.2, hv2, tn_yes hq.1 hq.2, tb_yes hq.1 hq.2]
              exact ⟨rfl, rfl⟩
            clear HX hx hv hv2 hf m2 hq
            go_wp2_with (go_at_call 76; refine M2.out.mono ?_; rintro e w' ⟨rfl, rfl⟩)
            go_ret2
            rw [HE.out.1, HE.out.2]
            exact ⟨rfl, rfl⟩
          · rw [tn_no hq, tb_no hq] at m2
            have M2 := Lib.hid m2
            have HE : Hid (pn l = 0 ∧ pe l = 5) := by
              refine Lib.hid ?_
              rw [hEnd.out.1, hEnd.out.2, hv2, tn_no hq, tb_no hq]
              exact ⟨rfl, rfl⟩
            clear HX hx hv hv2 hf m2 hq
            go_wp2_with (go_at_call 76; refine M2.out.mono ?_; rintro e w' ⟨rfl, rfl⟩)
            go_ret2
            rw [HE.out.1, HE.out.2]
            exact ⟨rfl, rfl⟩
  · have hf2 : formB l = false := by simpa using hform
    rw [hf2] at c1
    have H1 := Lib.hid c1
    unfold pn pe
    rw [if_neg hform, if_neg hform]
    clear c1 hform hf2 hl hsz
    go_enter Tryz.func54, Tryz.ntmps54
    go_wp2_with (go_at_call 74; refine H1.out.mono ?_; rintro e w' ⟨rfl, rfl⟩)
    go_ret2
    exact ⟨rfl, rfl⟩
end Go.Proofs.YtmjchmamkjbgkaaGreatDoor
