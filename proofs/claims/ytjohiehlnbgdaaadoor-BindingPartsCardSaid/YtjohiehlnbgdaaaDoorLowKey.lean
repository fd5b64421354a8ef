/- Contracts of a lower layer, several texts in one. -/
import Derived.Test.YtjohiehlnbgdaaaDoorLowVal
import Derived.Test.YtjohiehlnbgdaaaDoorLowNum
import Derived.Lib.BufferWrite
import Derived.Laws.CopyOwn
import Derived.OwnWalk
import Derived.Deep.RegionHeld3
import Derived.LoopTactic
import Derived.Deep.QuietTactic
import Derived.BigQuiet
import Derived.WalkMore
/- KeyMath -/
namespace Go.Proofs.YtjohiehlnbgdaaaDoor
open Go.RowKit
set_option linter.unusedVariables false

/-- The last n bytes of a number, the highest first. -/
def numL : Nat → Nat → List UInt8
  | 0, _ => []
  | n + 1, u => UInt8.ofNat (u / 256 ^ n) :: numL n u
theorem numL_len : ∀ n u, (numL n u).length = n
  | 0, _ => rfl
  | n + 1, u => by rw [numL, List.length_cons, numL_len n u]
/-- The number of bytes, the highest first. -/
def numOf : List UInt8 → Nat
  | [] => 0
  | c :: l => c.toNat * 256 ^ l.length + numOf l
theorem numOf_lt : ∀ l, numOf l < 256 ^ l.length
  | [] => by simp [numOf]
  | c :: l => by
    have h := numOf_lt l
    have hc := c.toNat_lt
    rw [numOf, List.length_cons, Nat.pow_succ]
    have : (c.toNat + 1) * 256 ^ l.length ≤ 256 * 256 ^ l.length := Nat.mul_le_mul_right _ (by omega)
    rw [Nat.add_mul] at this
    omega
theorem numOf_snoc : ∀ (l : List UInt8) (c : UInt8), numOf (l ++ [c]) = numOf l * 256 + c.toNat
  | [], c => by simp [numOf]
  | d :: l, c => by
    rw [List.cons_append, numOf, numOf, numOf_snoc l c, List.length_append, List.length_singleton, Nat.pow_succ, Nat.add_mul, Nat.mul_assoc, Nat.add_assoc]
theorem numOf_numL : ∀ n u, numOf (numL n u) = u % 256 ^ n
  | 0, u => by simp [numL, numOf, Nat.mod_one]
  | n + 1, u => by
    rw [numL, numOf, numL_len, numOf_numL n u, Nat.pow_succ, Nat.mod_mul]
    simp only [UInt8.toNat_ofNat', Nat.reducePow]
    rw [Nat.mul_comm (256 ^ n), Nat.add_comm]
theorem numL_of : ∀ (l : List UInt8) (a : Nat), numL l.length (a * 256 ^ l.length + numOf l) = l
  | [], _ => rfl
  | c :: l, a => by
    have h := numOf_lt l
    have hp : 0 < 256 ^ l.length := Nat.pow_pos (by omega)
    have e : a * 256 ^ (l.length + 1) + (c.toNat * 256 ^ l.length + numOf l) = (a * 256 + c.toNat) * 256 ^ l.length + numOf l := by
      rw [Nat.pow_succ, Nat.add_mul, Nat.mul_assoc, Nat.mul_comm 256, Nat.add_assoc]
    rw [numOf, List.length_cons, e, numL, numL_of l]
    congr 1
    rw [Nat.add_comm, Nat.add_mul_div_right _ _ hp, Nat.div_eq_of_lt h, Nat.zero_add]
    apply UInt8.toNat_inj.1
    have := c.toNat_lt
    rw [UInt8.toNat_ofNat']
    omega
theorem numL_inj {n a b : Nat} (ha : a < 256 ^ n) (hb : b < 256 ^ n) (h : numL n a = numL n b) : a = b := by
  have := congrArg numOf h
  rwa [numOf_numL, numOf_numL, Nat.mod_eq_of_lt ha, Nat.mod_eq_of_lt hb] at this

/-- A text's bytes in its key. -/
def escL : List UInt8 → List UInt8
  | [] => []
  | c :: t => if c = 0 then 0 :: 255 :: escL t else c :: escL t
theorem escL_zero (t : List UInt8) : escL (0 :: t) = 0 :: 255 :: escL t := by rw [escL, if_pos rfl]
theorem escL_else {c : UInt8} (h : c ≠ 0) (t : List UInt8) : escL (c :: t) = c :: escL t := by rw [escL, if_neg h]
theorem escL_app : ∀ (s t : List UInt8), escL (s ++ t) = escL s ++ escL t
  | [], _ => rfl
  | c :: s, t => by
    rw [List.cons_append]
    by_cases h : c = 0
    · subst h; rw [escL_zero, escL_zero, escL_app s t]; rfl
    · rw [escL_else h, escL_else h, escL_app s t]; rfl
theorem escL_len : ∀ t : List UInt8, (escL t).length = t.length + t.count 0
  | [] => rfl
  | c :: t => by
    by_cases h : c = 0
    · subst h; rw [escL_zero]; simp [escL_len t]; omega
    · rw [escL_else h]; simp [escL_len t, h]; omega
theorem escL_le (t : List UInt8) : (escL t).length ≤ 2 * t.length := by
  rw [escL_len]; have := List.count_le_length (l := t) (a := (0 : UInt8)); omega
theorem escL_ge (t : List UInt8) : t.length ≤ (escL t).length := by rw [escL_len]; omega
theorem esc_pre : ∀ (t rest s x : List UInt8), escL t ++ rest = escL s ++ 0 :: 1 :: x → ∃ s', s = t ++ s' ∧ rest = escL s' ++ 0 :: 1 :: x
  | [], rest, s, x, h => ⟨s, rfl, h⟩
  | c :: t, rest, s, x, h => by
    by_cases hc : c = 0
    · subst hc
      rw [escL_zero] at h
      cases s with
      | nil => simp [escL] at h
      | cons d s =>
        by_cases hd : d = 0
        · subst hd
          rw [escL_zero] at h
          simp only [List.cons_append, List.cons.injEq, true_and] at h
          obtain ⟨s', e, r⟩ := esc_pre t rest s x h
          exact ⟨s', by rw [e]; rfl, r⟩
        · rw [escL_else hd] at h
          simp only [List.cons_append, List.cons.injEq] at h
          exact absurd h.1.symm hd
    · rw [escL_else hc] at h
      cases s with
      | nil =>
        simp only [escL, List.cons_append, List.nil_append, List.cons.injEq] at h
        exact absurd h.1 hc
      | cons d s =>
        by_cases hd : d = 0
        · subst hd
          rw [escL_zero] at h
          simp only [List.cons_append, List.cons.injEq] at h
          exact absurd h.1 hc
        · rw [escL_else hd] at h
          simp only [List.cons_append, List.cons.injEq] at h
          obtain ⟨s', e, r⟩ := esc_pre t rest s x h.2
          exact ⟨s', by rw [e, h.1]; rfl, r⟩

/-- Values that may be, and whose number fits. -/
def rightD (v : Vd) : Prop := rightB v.k v.i v.s v.b = true ∧ -9223372036854775808 ≤ v.i ∧ v.i ≤ 9223372036854775807
/-- A value's key. -/
def keyV (v : Vd) : List UInt8 :=
  if v.k = 3 then [3, if v.b = true then 1 else 0] else if v.k = 2 then 2 :: (escL v.s.toList ++ [0, 1]) else 1 :: numL 8 (v.i + 9223372036854775808).toNat
def keysL : List Vd → List UInt8
  | [] => []
  | v :: L => keyV v ++ keysL L
theorem keysL_app : ∀ A B, keysL (A ++ B) = keysL A ++ keysL B
  | [], _ => rfl
  | v :: A, B => by rw [List.cons_append, keysL, keysL, keysL_app A B, List.append_assoc]

theorem tl_ext {a b : ByteArray} (h : a.toList = b.toList) : a = b := by
  rw [ByteArray.toList_eq, ByteArray.toList_eq] at h
  cases a; cases b
  congr
  exact Array.toList_inj.1 h
theorem tl_nil {a : ByteArray} (h : a.toList = []) : a = ⟨#[]⟩ := tl_ext (by rw [h, none_list])
theorem tl_mk (t : List UInt8) : (⟨t.toArray⟩ : ByteArray).toList = t := by rw [ByteArray.toList_eq]

/-- The three kinds of values that may be. -/
theorem right_three {v : Vd} (h : rightD v) :
    (∃ u : Nat, u < 256 ^ 8 ∧ v = ⟨1, (u : Int) - 9223372036854775808, ⟨#[]⟩, false⟩ ∧ keyV v = 1 :: numL 8 u) ∨
    (∃ t : List UInt8, t.length ≤ 4096 ∧ v = ⟨2, 0, ⟨t.toArray⟩, false⟩ ∧ keyV v = 2 :: (escL t ++ [0, 1])) ∨
    (∃ b : Bool, v = ⟨3, 0, ⟨#[]⟩, b⟩ ∧ keyV v = [3, if b = true then 1 else 0]) := by
  obtain ⟨k, i, s, b⟩ := v
  obtain ⟨h, h1, h2⟩ := h
  simp only at h h1 h2
  have hsz := right_size h
  rcases right_cases h with ⟨rfl, e, rfl⟩ | ⟨rfl, rfl, rfl⟩ | ⟨rfl, rfl, e⟩
  · refine .inl ⟨(i + 9223372036854775808).toNat, by omega, ?_, rfl⟩
    rw [tl_nil e, Int.toNat_of_nonneg (by omega)]
    congr 1; omega
  · refine .inr (.inl ⟨s.toList, by rw [tl_len]; exact hsz, ?_, rfl⟩)
    congr 1
    exact tl_ext (tl_mk _).symm
  · refine .inr (.inr ⟨b, by rw [tl_nil e], rfl⟩)
theorem right_num {u : Nat} (h : u < 18446744073709551616) : rightD ⟨1, (u : Int) - 9223372036854775808, ⟨#[]⟩, false⟩ :=
  ⟨by simp [rightB], by simp only; omega, by simp only; omega⟩
theorem right_text {t : List UInt8} (h : t.length ≤ 4096) : rightD ⟨2, 0, ⟨t.toArray⟩, false⟩ :=
  ⟨by simp [rightB]; show ((t.length : Nat) : Int) ≤ 4096; omega, by simp only; omega, by simp only; omega⟩
theorem right_bool (b : Bool) : rightD ⟨3, 0, ⟨#[]⟩, b⟩ := ⟨by simp [rightB], by simp only; omega, by simp only; omega⟩
theorem key_num {u : Nat} : keyV ⟨1, (u : Int) - 9223372036854775808, ⟨#[]⟩, false⟩ = 1 :: numL 8 u := by
  simp only [keyV]
  rw [if_neg (by decide), if_neg (by decide), show ((u : Int) - 9223372036854775808 + 9223372036854775808).toNat = u by omega]
theorem key_text (t : List UInt8) : keyV ⟨2, 0, ⟨t.toArray⟩, false⟩ = 2 :: (escL t ++ [0, 1]) := by
  simp only [keyV]
  rw [if_neg (by decide), if_pos trivial, tl_mk]
theorem key_bool (b : Bool) : keyV ⟨3, 0, ⟨#[]⟩, b⟩ = [3, if b = true then 1 else 0] := by
  simp only [keyV]
  rw [if_pos trivial]
theorem key_pos {v : Vd} (h : rightD v) : 2 ≤ (keyV v).length := by
  rcases right_three h with ⟨u, _, _, e⟩ | ⟨t, _, _, e⟩ | ⟨b, _, e⟩ <;> rw [e] <;> simp [numL_len]
theorem key_max {v : Vd} (h : rightD v) : (keyV v).length ≤ 8195 := by
  rcases right_three h with ⟨u, _, _, e⟩ | ⟨t, ht, _, e⟩ | ⟨b, _, e⟩ <;> rw [e] <;> simp [numL_len]
  have := escL_le t; omega

/-- What stands at the beginning is one value's key alone. -/
theorem key_pre {v u : Vd} (hv : rightD v) (hu : rightD u) {x y : List UInt8} (h : keyV v ++ x = keyV u ++ y) : v = u ∧ x = y := by
  rcases right_three hv with ⟨a, ha, rfl, e⟩ | ⟨s, hs, rfl, e⟩ | ⟨b, rfl, e⟩ <;> rcases right_three hu with ⟨a', ha', rfl, e'⟩ | ⟨s', hs', rfl, e'⟩ | ⟨b', rfl, e'⟩ <;> rw [e, e'] at h
  · simp only [List.cons_append, List.cons.injEq, true_and] at h
    obtain ⟨h1, h2⟩ := List.append_inj h (by rw [numL_len, numL_len])
    rw [numL_inj ha ha' h1]
    exact ⟨rfl, h2⟩
  · simp at h
  · simp at h
  · simp at h
  · simp only [List.cons_append, List.cons.injEq, true_and, List.append_assoc, List.nil_append] at h
    obtain ⟨t, h1, h2⟩ := esc_pre s (0 :: 1 :: x) s' y h
    cases t with
    | nil =>
      rw [List.append_nil] at h1
      rw [h1]
      simp [escL] at h2
      exact ⟨rfl, h2⟩
    | cons c t =>
      exfalso
      by_cases hc : c = 0
      · subst hc; rw [escL_zero] at h2; simp at h2
      · rw [escL_else hc] at h2
        simp only [List.cons_append, List.cons.injEq] at h2
        exact hc h2.1.symm
  · simp at h
  · simp at h
  · simp at h
  · simp only [List.cons_append, List.cons.injEq, true_and, List.nil_append] at h
    refine ⟨?_, h.2⟩
    have := h.1
    cases b <;> cases b' <;> simp at this ⊢

def allD (L : List Vd) : Prop := ∀ v ∈ L, rightD v
/-- .. and of values' keys, too. -/
theorem keys_pre : ∀ {A : List Vd}, allD A → ∀ {B : List Vd}, allD B → ∀ {x : List UInt8}, keysL A ++ x = keysL B → ∃ C, B = A ++ C ∧ x = keysL C
  | [], _, B, _, x, h => ⟨B, rfl, h⟩
  | v :: A, hA, [], _, x, h => by
    have := key_pos (hA v (by simp))
    have h2 := congrArg List.length h
    simp [keysL] at h2
    rw [h2.1] at this
    simp at this
  | v :: A, hA, u :: B, hB, x, h => by
    rw [keysL, keysL, List.append_assoc] at h
    obtain ⟨rfl, h2⟩ := key_pre (hA v (by simp)) (hB u (by simp)) h
    obtain ⟨C, rfl, h3⟩ := keys_pre (fun w hw => hA w (by simp [hw])) (fun w hw => hB w (by simp [hw])) h2
    exact ⟨C, rfl, h3⟩
theorem keys_inj {A B : List Vd} (hA : allD A) (hB : allD B) (h : keysL A = keysL B) : A = B := by
  obtain ⟨C, rfl, h2⟩ := keys_pre hA hB (x := []) (by rw [List.append_nil]; exact h)
  cases C with
  | nil => rw [List.append_nil]
  | cons c C =>
    have := key_pos (hB c (by simp))
    have h2 := congrArg List.length h2
    simp [keysL] at h2
    omega

/-- What is told of the value whose key bytes begin with. -/
def none0 : Vd := ⟨0, 0, ⟨#[]⟩, false⟩
def KeyTold (l : List UInt8) (v : Vd) (n : Nat) (ok : Bool) : Prop :=
  (ok = true ∧ rightD v ∧ n = (keyV v).length ∧ ∃ x, l = keyV v ++ x) ∨ (ok = false ∧ v = none0 ∧ n = 0 ∧ ∀ u, rightD u → ∀ x, l ≠ keyV u ++ x)
theorem KeyTold.same {l : List UInt8} {v v' : Vd} {n n' : Nat} {ok ok' : Bool} (h : KeyTold l v n ok) (h' : KeyTold l v' n' ok') : v = v' ∧ n = n' ∧ ok = ok' := by
  rcases h with ⟨rfl, h1, rfl, x, h2⟩ | ⟨rfl, rfl, rfl, h1⟩ <;> rcases h' with ⟨rfl, h1', rfl, x', h2'⟩ | ⟨rfl, rfl, rfl, h1'⟩
  · obtain ⟨rfl, _⟩ := key_pre h1 h1' (h2.symm.trans h2')
    exact ⟨rfl, rfl, rfl⟩
  · exact absurd h2 (h1' _ h1 _)
  · exact absurd h2' (h1 _ h1' _)
  · exact ⟨rfl, rfl, rfl⟩
theorem KeyTold.pos {l : List UInt8} {v : Vd} {n : Nat} {ok : Bool} (h : KeyTold l v n ok) : ok = decide (0 < n) ∧ n ≤ l.length := by
  rcases h with ⟨rfl, h1, rfl, x, rfl⟩ | ⟨rfl, rfl, rfl, h1⟩
  · have := key_pos h1
    refine ⟨?_, by simp⟩
    symm
    rw [decide_eq_true_iff]
    omega
  · exact ⟨rfl, by omega⟩
theorem KeyTold.take {l : List UInt8} {v : Vd} {n : Nat} (h : KeyTold l v n true) : rightD v ∧ l.take n = keyV v ∧ l = keyV v ++ l.drop n := by
  rcases h with ⟨_, h1, rfl, x, rfl⟩ | ⟨h, _⟩
  · exact ⟨h1, by simp, by simp⟩
  · cases h
theorem KeyTold.none' {l : List UInt8} {v : Vd} {n : Nat} (h : KeyTold l v n false) : v = none0 ∧ n = 0 ∧ ∀ u, rightD u → ∀ x, l ≠ keyV u ++ x := by
  rcases h with ⟨h, _⟩ | ⟨_, h1, h2, h3⟩
  · cases h
  · exact ⟨h1, h2, h3⟩
theorem told_nil : KeyTold [] none0 0 false := .inr ⟨rfl, rfl, rfl, fun u hu x h => by
  have := key_pos hu
  have h2 := congrArg List.length h
  simp at h2
  omega⟩
theorem told_kind {c : UInt8} {r : List UInt8} (h1 : c ≠ 1) (h2 : c ≠ 2) (h3 : c ≠ 3) : KeyTold (c :: r) none0 0 false := .inr ⟨rfl, rfl, rfl, fun u hu x h => by
  rcases right_three hu with ⟨_, _, _, e⟩ | ⟨_, _, _, e⟩ | ⟨_, _, e⟩ <;> rw [e] at h <;> simp only [List.cons_append, List.cons.injEq] at h
  · exact h1 h.1
  · exact h2 h.1
  · exact h3 h.1⟩
theorem told_num {r : List UInt8} (h : 8 ≤ r.length) : KeyTold (1 :: r) ⟨1, (numOf (r.take 8) : Int) - 9223372036854775808, ⟨#[]⟩, false⟩ 9 true := by
  have hl : (r.take 8).length = 8 := by rw [List.length_take]; omega
  have hb := numOf_lt (r.take 8)
  rw [hl] at hb
  refine .inl ⟨rfl, right_num (by omega), by rw [key_num, List.length_cons, numL_len], r.drop 8, ?_⟩
  rw [key_num]
  have e := numL_of (r.take 8) 0
  rw [Nat.zero_mul, Nat.zero_add, hl] at e
  rw [e]
  simp
theorem told_num_no {r : List UInt8} (h : r.length < 8) : KeyTold (1 :: r) none0 0 false := .inr ⟨rfl, rfl, rfl, fun u hu x hx => by
  rcases right_three hu with ⟨a, _, _, e⟩ | ⟨_, _, _, e⟩ | ⟨_, _, e⟩ <;> rw [e] at hx
  · have h2 := congrArg List.length hx
    simp [numL_len] at h2
    omega
  · simp at hx
  · simp at hx⟩
theorem told_bool {c : UInt8} {r : List UInt8} (h : c.toNat ≤ 1) : KeyTold (3 :: c :: r) ⟨3, 0, ⟨#[]⟩, c == 1⟩ 2 true := by
  refine .inl ⟨rfl, right_bool _, by rw [key_bool]; rfl, r, ?_⟩
  rw [key_bool]
  have : c = 0 ∨ c = 1 := by
    rcases Nat.le_one_iff_eq_zero_or_eq_one.1 h with e | e
    · exact .inl (UInt8.toNat_inj.1 e)
    · exact .inr (UInt8.toNat_inj.1 e)
  rcases this with rfl | rfl <;> rfl
theorem told_bool_no {r : List UInt8} (h : ∀ c x, r = c :: x → ¬ c.toNat ≤ 1) : KeyTold (3 :: r) none0 0 false := .inr ⟨rfl, rfl, rfl, fun u hu x hx => by
  rcases right_three hu with ⟨a, _, _, e⟩ | ⟨_, _, _, e⟩ | ⟨b, _, e⟩ <;> rw [e] at hx
  · simp at hx
  · simp at hx
  · simp only [List.cons_append, List.nil_append, List.cons.injEq, true_and] at hx
    refine h _ _ hx ?_
    cases b <;> simp⟩
theorem told_text {t x : List UInt8} (h : t.length ≤ 4096) : KeyTold (2 :: (escL t ++ 0 :: 1 :: x)) ⟨2, 0, ⟨t.toArray⟩, false⟩ (1 + ((escL t).length + 2)) true := by
  refine .inl ⟨rfl, right_text h, by rw [key_text]; simp; omega, x, ?_⟩
  rw [key_text]
  simp
theorem told_text_long {t x : List UInt8} (h : 4096 < t.length) : KeyTold (2 :: (escL t ++ x)) none0 0 false := .inr ⟨rfl, rfl, rfl, fun u hu y hx => by
  rcases right_three hu with ⟨a, _, _, e⟩ | ⟨s, hs, _, e⟩ | ⟨b, _, e⟩ <;> rw [e] at hx
  · simp at hx
  · simp only [List.cons_append, List.cons.injEq, true_and, List.append_assoc, List.nil_append] at hx
    obtain ⟨s', rfl, _⟩ := esc_pre t x s y hx
    rw [List.length_append] at hs
    omega
  · simp at hx⟩
theorem told_text_no {t rest : List UInt8} (h0 : ∀ c x, rest = c :: x → c = 0) (h : ∀ c x, rest = 0 :: c :: x → c ≠ 1 ∧ c ≠ 255) : KeyTold (2 :: (escL t ++ rest)) none0 0 false := .inr ⟨rfl, rfl, rfl, fun u hu y hx => by
  rcases right_three hu with ⟨a, _, _, e⟩ | ⟨s, hs, _, e⟩ | ⟨b, _, e⟩ <;> rw [e] at hx
  · simp at hx
  · simp only [List.cons_append, List.cons.injEq, true_and, List.append_assoc, List.nil_append] at hx
    obtain ⟨s', rfl, h2⟩ := esc_pre t rest s y hx
    cases s' with
    | nil => exact (h 1 _ h2).1 rfl
    | cons c s' =>
      by_cases hc : c = 0
      · subst hc; rw [escL_zero] at h2; exact (h 255 _ h2).2 rfl
      · rw [escL_else hc] at h2; exact hc (h0 c _ h2)
  · simp at hx⟩

/-- What is told of the values of whose keys bytes consist. -/
def ReadTold (l : List UInt8) (L : List Vd) (ok : Bool) : Prop := (ok = true ∧ allD L ∧ l = keysL L) ∨ (ok = false ∧ L = [] ∧ ∀ M, allD M → l ≠ keysL M)
theorem read_more {M : List Vd} {l rest : List UInt8} {v : Vd} {n : Nat} (hM : allD M) (h : l = keysL M ++ rest) (ht : KeyTold rest v n true) : allD (M ++ [v]) ∧ l = keysL (M ++ [v]) ++ rest.drop n := by
  obtain ⟨h1, _, h2⟩ := ht.take
  refine ⟨fun u hu => ?_, ?_⟩
  · rw [List.mem_append, List.mem_singleton] at hu
    rcases hu with hu | rfl
    · exact hM u hu
    · exact h1
  · rw [keysL_app, keysL, keysL, List.append_nil, List.append_assoc, ← h2]; exact h
theorem read_no {M : List Vd} {l rest : List UInt8} {v : Vd} {n : Nat} (hM : allD M) (h : l = keysL M ++ rest) (hr : rest ≠ []) (ht : KeyTold rest v n false) : ReadTold l [] false :=
  .inr ⟨rfl, rfl, fun N hN e => by
    obtain ⟨C, rfl, h2⟩ := keys_pre hM hN (h.symm.trans e)
    cases C with
    | nil => exact hr h2
    | cons c C => exact ht.none'.2.2 c (hN c (by simp)) _ h2⟩
theorem ReadTold.same {l : List UInt8} {L L' : List Vd} {ok ok' : Bool} (h : ReadTold l L ok) (h' : ReadTold l L' ok') : L = L' ∧ ok = ok' := by
  rcases h with ⟨rfl, h1, h2⟩ | ⟨rfl, rfl, h1⟩ <;> rcases h' with ⟨rfl, h1', h2'⟩ | ⟨rfl, rfl, h1'⟩
  · exact ⟨keys_inj h1 h1' (h2.symm.trans h2'), rfl⟩
  · exact absurd h2 (h1' _ h1)
  · exact absurd h2' (h1 _ h1')
  · exact ⟨rfl, rfl⟩

/-- The order of keys. -/
theorem numL_less : ∀ (n a b : Nat), a % 256 ^ n ≠ b % 256 ^ n → ∀ x y, Op.bytesLess (numL n a ++ x) (numL n b ++ y) = decide (a % 256 ^ n < b % 256 ^ n)
  | 0, a, b, h, _, _ => by simp [Nat.mod_one] at h
  | n + 1, a, b, h, x, y => by
    rw [numL, numL, List.cons_append, List.cons_append]
    rw [Nat.pow_succ, Nat.mod_mul, Nat.mod_mul] at h ⊢
    have hp : 0 < 256 ^ n := Nat.pow_pos (by omega)
    have ha := Nat.mod_lt a hp
    have hb := Nat.mod_lt b hp
    by_cases hc : a / 256 ^ n % 256 = b / 256 ^ n % 256
    · have e : UInt8.ofNat (a / 256 ^ n) = UInt8.ofNat (b / 256 ^ n) := UInt8.toNat_inj.1 (by rw [UInt8.toNat_ofNat', UInt8.toNat_ofNat']; exact hc)
      rw [e, bl_same, numL_less n a b (fun e => h (by rw [e, hc])), hc]
      congr 1
      rw [eq_iff_iff]
      omega
    · have e : UInt8.ofNat (a / 256 ^ n) ≠ UInt8.ofNat (b / 256 ^ n) := fun e => hc (by have := congrArg UInt8.toNat e; rw [UInt8.toNat_ofNat', UInt8.toNat_ofNat'] at this; exact this)
      rw [bl_ne e, UInt8.toNat_ofNat', UInt8.toNat_ofNat']
      congr 1
      rw [eq_iff_iff]
      generalize hA : a / 256 ^ n % 2 ^ 8 = A
      generalize hB : b / 256 ^ n % 2 ^ 8 = B
      have hA' : a / 256 ^ n % 256 = A := hA
      have hB' : b / 256 ^ n % 256 = B := hB
      rw [hA', hB'] at hc
      constructor
      · intro hlt
        have : 256 ^ n * (A + 1) ≤ 256 ^ n * B := Nat.mul_le_mul_left _ hlt
        rw [Nat.mul_add] at this
        omega
      · intro hlt
        rcases Nat.lt_or_ge A B with h' | h'
        · exact h'
        · have : 256 ^ n * (B + 1) ≤ 256 ^ n * A := Nat.mul_le_mul_left _ (by omega)
          rw [Nat.mul_add] at this
          omega
theorem esc_less : ∀ (s t : List UInt8), s ≠ t → ∀ x y, Op.bytesLess (escL s ++ 0 :: 1 :: x) (escL t ++ 0 :: 1 :: y) = Op.bytesLess s t
  | [], [], h, _, _ => absurd rfl h
  | [], d :: t, _, x, y => by
    by_cases hd : d = 0
    · subst hd; rw [escL_zero]; simp [escL, Op.bytesLess]
    · rw [escL_else hd]
      show Op.bytesLess (0 :: 1 :: x) (d :: (escL t ++ 0 :: 1 :: y)) = true
      rw [bl_ne (fun e => hd e.symm)]
      rw [decide_eq_true_iff]
      have : d.toNat ≠ 0 := fun e => hd (UInt8.toNat_inj.1 e)
      show 0 < d.toNat
      omega
  | c :: s, [], _, x, y => by
    by_cases hc : c = 0
    · subst hc; rw [escL_zero]; simp [escL, Op.bytesLess]
    · rw [escL_else hc]
      show Op.bytesLess (c :: (escL s ++ 0 :: 1 :: x)) (0 :: 1 :: y) = false
      rw [bl_ne hc]
      simp
  | c :: s, d :: t, h, x, y => by
    by_cases hcd : c = d
    · subst hcd
      have h' : s ≠ t := fun e => h (by rw [e])
      rw [bl_same]
      by_cases hc : c = 0
      · subst hc; rw [escL_zero, escL_zero]; simp only [List.cons_append]; rw [bl_same, bl_same]; exact esc_less s t h' x y
      · rw [escL_else hc, escL_else hc]; simp only [List.cons_append]; rw [bl_same]; exact esc_less s t h' x y
    · rw [bl_ne hcd]
      by_cases hc : c = 0
      · subst hc
        rw [escL_zero, escL_else (fun e => hcd e.symm)]
        simp only [List.cons_append]
        rw [bl_ne hcd]
      · by_cases hd : d = 0
        · subst hd
          rw [escL_zero, escL_else hc]
          simp only [List.cons_append]
          rw [bl_ne hcd]
        · rw [escL_else hc, escL_else hd]
          simp only [List.cons_append]
          rw [bl_ne hcd]
theorem key_less {v u : Vd} (hv : rightD v) (hu : rightD u) (h : v ≠ u) (x y : List UInt8) : Op.bytesLess (keyV v ++ x) (keyV u ++ y) = lessD v u := by
  rcases right_three hv with ⟨a, ha, rfl, e⟩ | ⟨s, hs, rfl, e⟩ | ⟨b, rfl, e⟩ <;> rcases right_three hu with ⟨a', ha', rfl, e'⟩ | ⟨s', hs', rfl, e'⟩ | ⟨b', rfl, e'⟩ <;> rw [e, e'] <;> simp only [List.cons_append, List.append_assoc, List.nil_append]
  · have hne : a ≠ a' := fun e => h (by rw [e])
    rw [bl_same, numL_less 8 a a' (by rw [Nat.mod_eq_of_lt ha, Nat.mod_eq_of_lt ha']; exact hne), Nat.mod_eq_of_lt ha, Nat.mod_eq_of_lt ha']
    simp only [lessD, lessB]
    rw [if_pos trivial, if_pos trivial]
    congr 1
    rw [eq_iff_iff]
    omega
  · rw [bl_ne (by decide)]; simp [lessD, lessB]
  · rw [bl_ne (by decide)]; simp [lessD, lessB]
  · rw [bl_ne (by decide)]; simp [lessD, lessB]
  · have hne : s ≠ s' := fun e => h (by rw [e])
    rw [bl_same, esc_less s s' hne]
    simp only [lessD, lessB]
    rw [if_pos trivial, if_neg (by decide), if_pos trivial, tl_mk, tl_mk]
  · rw [bl_ne (by decide)]; simp [lessD, lessB]
  · rw [bl_ne (by decide)]; simp [lessD, lessB]
  · rw [bl_ne (by decide)]; simp [lessD, lessB]
  · cases b <;> cases b' <;> simp [lessD, lessB, Op.bytesLess] at h ⊢

/-- Whether two values are the same. -/
def eqD (v u : Vd) : Bool := eqB v.k v.i v.s v.b u.k u.i u.s u.b
theorem eqD_iff (v u : Vd) : eqD v u = true ↔ v = u := by
  unfold eqD
  rw [eqB_iff]
  constructor
  · rintro ⟨h1, h2, h3, h4⟩
    cases v; cases u
    simp only at h1 h2 h3 h4
    rw [h1, h2, tl_ext h3, h4]
  · rintro rfl
    exact ⟨rfl, rfl, rfl, rfl⟩
theorem eqD_ne {v u : Vd} (h : eqD v u = false) : v ≠ u := fun e => by rw [(eqD_iff v u).2 e] at h; cases h
/-- Whether two lists are the same. -/
def sameL : List Vd → List Vd → Bool
  | [], [] => true
  | v :: A, u :: B => eqD v u && sameL A B
  | _, _ => false
theorem sameL_iff : ∀ A B, sameL A B = true ↔ A = B
  | [], [] => by simp [sameL]
  | [], u :: B => by simp [sameL]
  | v :: A, [] => by simp [sameL]
  | v :: A, u :: B => by rw [sameL, Bool.and_eq_true, eqD_iff, sameL_iff A B, List.cons.injEq]
/-- Whether a list is ahead of another one. -/
def belowL : List Vd → List Vd → Bool
  | _, [] => false
  | [], _ :: _ => true
  | v :: A, u :: B => if eqD v u = true then belowL A B else lessD v u
theorem keys_less : ∀ {A B : List Vd}, allD A → allD B → Op.bytesLess (keysL A) (keysL B) = belowL A B
  | [], [], _, _ => rfl
  | v :: A, [], _, _ => by rw [keysL, keysL, bl_nil]; rfl
  | [], u :: B, _, hB => by
    have := key_pos (hB u (by simp))
    rw [keysL, keysL, belowL]
    cases h : keyV u with
    | nil => rw [h] at this; simp at this
    | cons c r => rfl
  | v :: A, u :: B, hA, hB => by
    rw [belowL]
    split
    · rename_i h
      obtain rfl := (eqD_iff v u).1 h
      have : Op.bytesLess (keyV v ++ keysL A) (keyV v ++ keysL B) = Op.bytesLess (keysL A) (keysL B) := by
        rw [bl_drop (keyV v).length _ _ (by simp) (by simp) (by simp)]
        simp
      rw [keysL, keysL, this]
      exact keys_less (fun w hw => hA w (by simp [hw])) (fun w hw => hB w (by simp [hw]))
    · rename_i h
      rw [keysL, keysL]
      exact key_less (hA v (by simp)) (hB u (by simp)) (fun e => h ((eqD_iff v u).2 e)) _ _
theorem keys_same {A B : List Vd} (hA : allD A) (hB : allD B) : (keysL A == keysL B) = sameL A B := by
  rw [Bool.eq_iff_iff, beq_iff_eq, sameL_iff]
  exact ⟨keys_inj hA hB, fun e => by rw [e]⟩
theorem below_drop : ∀ (n : Nat) (A B : List Vd), n ≤ A.length → n ≤ B.length → A.take n = B.take n → belowL A B = belowL (A.drop n) (B.drop n)
  | 0, _, _, _, _, _ => by simp
  | n + 1, [], _, h, _, _ => by simp at h
  | n + 1, _ :: _, [], _, h, _ => by simp at h
  | n + 1, v :: A, u :: B, h1, h2, h => by
    simp only [List.take_succ_cons, List.cons.injEq] at h
    obtain ⟨rfl, h⟩ := h
    rw [belowL, if_pos ((eqD_iff v v).2 rfl), List.drop_succ_cons, List.drop_succ_cons]
    exact below_drop n A B (by simpa using h1) (by simpa using h2) h
theorem below_end (A B : List Vd) (n : Nat) (h1 : n ≤ A.length) (h2 : n ≤ B.length) (h : A.take n = B.take n) (he : n = A.length ∨ n = B.length) : belowL A B = decide (A.length < B.length) := by
  rw [below_drop n A B h1 h2 h]
  by_cases hb : n = B.length
  · subst hb
    rw [List.drop_length]
    have : ¬ A.length < B.length := by omega
    simp [belowL, this]
  · have ha : n = A.length := by rcases he with e | e; exact e; exact absurd e hb
    subst ha
    rw [List.drop_length, List.drop_eq_getElem_cons (by omega)]
    have : A.length < B.length := by omega
    simp [belowL, this]
theorem below_at (A B : List Vd) (n : Nat) (h1 : n < A.length) (h2 : n < B.length) (h : A.take n = B.take n) (he : eqD (A.getD n default) (B.getD n default) = false) : belowL A B = lessD (A.getD n default) (B.getD n default) := by
  rw [below_drop n A B (by omega) (by omega) h, List.drop_eq_getElem_cons h1, List.drop_eq_getElem_cons h2, belowL]
  have e1 : A.getD n default = A[n] := by simp [List.getD, h1]
  have e2 : B.getD n default = B[n] := by simp [List.getD, h2]
  rw [← e1, ← e2, if_neg (by rw [he]; simp)]
theorem same_no (A B : List Vd) (n : Nat) (h1 : n < A.length) (h2 : n < B.length) (he : eqD (A.getD n default) (B.getD n default) = false) : sameL A B = false := by
  cases hs : sameL A B
  · rfl
  · have := (sameL_iff A B).1 hs
    subst this
    rw [(eqD_iff _ _).2 rfl] at he
    cases he
theorem take_next (A B : List Vd) (n : Nat) (h1 : n < A.length) (h2 : n < B.length) (h : A.take n = B.take n) (he : eqD (A.getD n default) (B.getD n default) = true) : A.take (n + 1) = B.take (n + 1) := by
  have e1 : A.getD n default = A[n] := by simp [List.getD, h1]
  have e2 : B.getD n default = B[n] := by simp [List.getD, h2]
  rw [List.take_succ_eq_append_getElem h1, List.take_succ_eq_append_getElem h2, h, ← e1, ← e2, (eqD_iff _ _).1 he]
end Go.Proofs.YtjohiehlnbgdaaaDoor

/- KeyBytes -/
namespace Go.Proofs.YtjohiehlnbgdaaaDoor
open Go.RowKit
set_option linter.unusedVariables false

/-- A block of bytes. -/
def Holds (g : Nat) (l : List UInt8) (w : World) : Prop := w.heap[g]? = some (.cells (Lib.byteCells l).toArray 5 (0, 0))
theorem Holds.cell {g : Nat} {l : List UInt8} {w : World} (h : Holds g l w) {j : Nat} {c : UInt8} (hj : l[j]? = some c) : w.cell? ⟨g, j, none⟩ = some (.int .u8 c.toNat) := by
  rw [cell_of_row w g j _ _ _ h]
  simp [Lib.byteCells, hj]
theorem Holds.frozen {g : Nat} {l : List UInt8} {w : World} (h : Holds g l w) (j : Nat) : w.frozen? ⟨g, j, none⟩ = false := frozen_of_row w g j _ _ h
theorem Holds.lt {g : Nat} {l : List UInt8} {w : World} (h : Holds g l w) : g < w.heap.size := (Array.getElem?_eq_some_iff.1 h).1
theorem Holds.below {g : Nat} {l : List UInt8} {w w' : World} (h : Holds g l w) (hb : Below w.heap.size w w') : Holds g l w' := by
  unfold Holds
  rw [hb.block g h.lt]
  exact h
theorem Holds.alloc {g : Nat} {l : List UInt8} {w : World} (h : Holds g l w) (o : Obj) : Holds g l (w.alloc o) := (heap_alloc_old w o h.lt).trans h
theorem Holds.drew {g : Nat} {l : List UInt8} {w : World} (h : Holds g l w) : Holds g l w.drew := h
theorem Holds.set {g : Nat} {l : List UInt8} {w : World} (h : Holds g l w) (i : Nat) (c : UInt8) : Holds g (l.set i c) (w.setCell ⟨g, i, none⟩ (.int .u8 c.toNat)) := by
  have := heap_setCell_same w g i _ _ (.int .u8 c.toNat) h
  unfold Holds
  rw [this]
  congr 2
  apply Array.ext'
  simp [Lib.byteCells, List.map_set]
theorem Holds.row {g : Nat} {l m : List UInt8} {w : World} (h : Holds g l w) : Holds g m (w.setRow g (Lib.byteCells m).toArray) := setRow_heap w g _ _ _ _ h
theorem Holds.made (w : World) (n : Nat) : Holds w.heap.size (List.replicate n 0) (w.alloc (.cells (madeCells #[.int .u8 0] n) 5)) := by
  have h := heap_alloc_new w (.cells (madeCells #[.int .u8 0] n) 5)
  unfold Holds
  rw [h]
  congr 2
  apply Array.ext'
  apply List.ext_getElem (by simp [Lib.byteCells, madeCells])
  intro j h1 h2
  simp [Lib.byteCells, madeCells, Nat.mod_one]

/-- But for one block, the world is as it was; new ones may have come. -/
def But (g : Nat) (w w' : World) : Prop := w.grownBy w' (some g)
theorem But.refl (g : Nat) (w : World) : But g w w := ⟨rfl, rfl, rfl, Nat.le_refl _, fun _ _ _ => rfl⟩
theorem But.set {g o : Nat} {w w' : World} (h : But g w w') (v : Value) : But g w (w'.setCell ⟨g, o, none⟩ v) :=
  ⟨h.os, h.tape, h.output, by rw [World.size_setCell]; exact h.size, fun k hk hne => (heap_setCell_other w' _ k v (fun e => hne (by rw [e]))).trans (h.block k hk hne)⟩
theorem But.row {g : Nat} {w w' : World} (h : But g w w') (cs : Array Value) : But g w (w'.setRow g cs) :=
  ⟨h.os, h.tape, h.output, by rw [size_setRow]; exact h.size, fun k hk hne => (setRow_other w' g k cs (fun e => hne (by rw [e]))).trans (h.block k hk hne)⟩
theorem But.alloc {g : Nat} {w w' : World} (h : But g w w') (o : Obj) : But g w (w'.alloc o) :=
  ⟨h.os, h.tape, h.output, Nat.le_trans h.size (by simp), fun k hk hne => (heap_alloc_old w' o (Nat.lt_of_lt_of_le hk h.size)).trans (h.block k hk hne)⟩
theorem But.drew {g : Nat} {w w' : World} (h : But g w w') : But g w w'.drew := ⟨h.os, h.tape, h.output, h.size, h.block⟩
theorem But.trans {g : Nat} {a b c : World} (h : But g a b) (k : But g b c) : But g a c :=
  ⟨k.os.trans h.os, k.tape.trans h.tape, k.output.trans h.output, Nat.le_trans h.size k.size, fun i hi hne => (k.block i (Nat.lt_of_lt_of_le hi h.size) hne).trans (h.block i hi hne)⟩
theorem But.of {g : Nat} {w w' : World} (h : Below w.heap.size w w') : But g w w' := ⟨h.os, h.tape, h.output, h.size, fun k hk _ => h.block k hk⟩
theorem But.after {g : Nat} {a w w' : World} (h : But g a w) (k : Below w.heap.size w w') : But g a w' := h.trans (But.of k)
theorem But.to {g B : Nat} {a w w' : World} (h : But g w w') (hb : Below B a w) (hB : B ≤ w.heap.size) (hg : B ≤ g) : Below B a w' := hb.grown h hB (fun k hk => by cases hk; exact hg)
theorem But.boxed {g c : Nat} {k i : Int} {s : ByteArray} {b : Bool} {w w' : World} (h : But g w w') (hx : Boxed c k i s b w) (hne : c ≠ g) : Boxed c k i s b w' := by
  have hn : some c ≠ some g := fun e => hne (Option.some.inj e)
  obtain ⟨h0, h1, h2, h3⟩ := hx
  exact ⟨World.grownBy.cell h h0 hn, World.grownBy.cell h h1 hn, World.grownBy.cell h h2 hn, World.grownBy.cell h h3 hn⟩

/-- Bytes that lie in a row. -/
structure Bts (w : World) (g off : Nat) (l : List UInt8) : Prop where
  at' : ∀ j c, l[j]? = some c → w.cell? ⟨g, off + j, none⟩ = some (.int .u8 c.toNat)
theorem Bts.below {w w' : World} {g off : Nat} {l : List UInt8} (h : Bts w g off l) (hb : Below w.heap.size w w') : Bts w' g off l :=
  ⟨fun j c hj => by
    have hc := h.at' j c hj
    exact (hb.cell (p := ⟨g, off + j, none⟩) (block_lt_of_cell hc)).trans hc⟩
theorem Bts.drop {w : World} {g off : Nat} {l : List UInt8} (h : Bts w g off l) (n : Nat) : Bts w g (off + n) (l.drop n) :=
  ⟨fun j c hj => by rw [Nat.add_assoc]; exact h.at' (n + j) c (by rw [List.getElem?_drop] at hj; exact hj)⟩
theorem Bts.take {w : World} {g off : Nat} {l : List UInt8} (h : Bts w g off l) (n : Nat) : Bts w g off (l.take n) :=
  ⟨fun j c hj => h.at' j c (by rw [List.getElem?_take] at hj; split at hj; exact hj; cases hj)⟩
theorem Bts.get {w : World} {g off : Nat} {l : List UInt8} (h : Bts w g off l) {j : Nat} (hj : j < l.length) : w.cell? ⟨g, off + j, none⟩ = some (.int .u8 l[j].toNat) :=
  h.at' j l[j] (List.getElem?_eq_getElem hj)
theorem Holds.bts {g : Nat} {l : List UInt8} {w : World} (h : Holds g l w) : Bts w g 0 l := ⟨fun j c hj => by rw [Nat.zero_add]; exact h.cell hj⟩
theorem Bts.text {w : World} {g off : Nat} {l : List UInt8} (h : Bts w g off l) (cap : Nat) :
    (convert 32 9 (.slice (some ⟨g, off, none⟩) l.length cap)).run Tryd.prog w = .ok (.string ⟨l.toArray⟩) w := by
  refine run_convert_bytes_back w 32 9 5 ⟨g, off, none⟩ cap l Tryd.underlying32 Tryd.underlying5 Tryd.underlying9 fun j hj => ?_
  have hadd : (⟨g, off, none⟩ : Addr).add j = ⟨g, off + j, none⟩ := by unfold Addr.add; split <;> simp_all
  rw [hadd]
  exact h.get hj

theorem infoU8 : (Tryd.prog.info? 5).map (fun i => (i.zero, i.size, i.bytes)) = some (some (.int .u8 0), 1, 1) := by kernel_rfl
theorem sizeByte : (Tryd.prog.info? 5).map (·.size) = some 1 := by kernel_rfl
theorem wpList_copy_str {P : Program} {w : World} {ops : Array Oper} {rest : List Oper} {o : Oper} {a : Act} {Q : Exit → Act → World → Prop} (hgd : o.guard = none) (d s : Operand) (dT sT : TypeId)
    (ho : o.op = .call { callee := .builtin .copy, args := #[d, s], argTypes := #[dT, sT] }) (elem : TypeId) (hu : P.underlying dT = some (.slice elem)) (hsz : (P.info? elem).map (·.size) = some 1)
    (g off dLen dCap : Nat) (t : ByteArray) (hd : a.eval d = .slice (some ⟨g, off, none⟩) dLen dCap) (hs : a.eval s = .string t)
    (cur : Array Value) (ty : TypeId) (hg : w.heap[g]? = some (.cells cur ty (0, 0))) (hle : t.size ≤ dLen) (hfit : off + t.size ≤ cur.size)
    (h : wpList P ops Q rest (a.put o.dst (goInt t.size)) (w.setRow g (cur.toList.take off ++ Lib.byteCells t.data.toList ++ cur.toList.drop (off + t.size)).toArray)) : wpList P ops Q (o :: rest) a w := by
  refine wpList_plain hgd fun K hK => ?_
  have hrun := Lib.run_copy_row_string (P := P) w dT sT o.type elem g off dLen dCap t cur ty hu hsz hg hle hfit
  unfold Oper.wp
  simp [execOp, ho, resolve, invoke, builtin, hd, hs, hrun, Result.andThen]
  exact hK _ _ (by simpa using h)

/-- Bytes laid over others. -/
theorem splice_bytes (p z t : List UInt8) (h : t.length ≤ z.length) :
    (Lib.byteCells (p ++ z)).toArray.toList.take p.length ++ Lib.byteCells t ++ (Lib.byteCells (p ++ z)).toArray.toList.drop (p.length + t.length) = Lib.byteCells (p ++ t ++ z.drop t.length) := by
  simp [Lib.byteCells, List.map_drop]
  rw [List.drop_append]
  simp

theorem esc_replaceK : ∀ l : List UInt8, Lib.replaceK [0] [0, 255] (Lib.count l [0]) l = escL l
  | [] => by
    rw [Lib.count_miss (by rfl)]; rfl
  | c :: r => by
    have ih := esc_replaceK r
    by_cases hc : c = 0
    · subst hc
      have h0 : Lib.index (0 :: r) [0] = ((0 : Nat) : Int) := by simp [Lib.index]
      rw [Lib.count_hit (by simp) h0, Nat.add_comm, Lib.replaceK_hit _ _ _ _ 0 h0, escL_zero]
      simp
      exact ih
    · rw [escL_else hc]
      have hp : ¬ (List.isPrefixOf [0] (c :: r)) = true := by simp [List.isPrefixOf]; exact fun e => hc e.symm
      by_cases hm : Lib.index r [0] = -1
      · have h1 : Lib.index (c :: r) [0] = -1 := by rw [Lib.index, if_neg hp, if_pos (by rw [hm]; rfl)]
        rw [Lib.count_miss hm] at ih
        rw [Lib.count_miss h1, Lib.replaceK]
        rw [Lib.replaceK] at ih
        rw [← ih]
      · have hge := Lib.index_ge r [0]
        obtain ⟨i, hi⟩ : ∃ i : Nat, Lib.index r [0] = i := ⟨(Lib.index r [0]).toNat, by omega⟩
        have h1 : Lib.index (c :: r) [0] = ((i + 1 : Nat) : Int) := by
          rw [Lib.index, if_neg hp, if_neg (by rw [hi]; simp), hi]; rfl
        rw [Lib.count_hit (by simp) hi, Nat.add_comm, Lib.replaceK_hit _ _ _ _ i hi] at ih
        rw [Lib.count_hit (by simp) h1, Nat.add_comm, Lib.replaceK_hit _ _ _ _ (i + 1) h1]
        rw [show (c :: r).drop (i + 1 + [(0 : UInt8)].length) = r.drop (i + [(0 : UInt8)].length) by simp, List.take_succ_cons]
        rw [← ih]
        simp
theorem esc_replace (l : List UInt8) : Lib.replaceAll l [0] [0, 255] = escL l := by
  have h : ([(0 : UInt8)] == [0, 255]) = false := by decide
  rw [Lib.replaceAll, Lib.replace, if_neg (by rw [h]; simp), Lib.replaceNum, if_pos (.inl (by decide)), esc_replaceK]

/-- The library's own number, whatever it holds. -/
def MaxAt (w : World) : Prop := ∃ m, w.cell? ⟨0, 0, none⟩ = some (.int .i64 m)
theorem MaxAt.below {w w' : World} (h : MaxAt w) (hb : Below w.heap.size w w') : MaxAt w' := by
  obtain ⟨m, hm⟩ := h
  exact ⟨m, (hb.cell (p := ⟨0, 0, none⟩) (block_lt_of_cell hm)).trans hm⟩
theorem MaxAt.drew {w : World} (h : MaxAt w) : MaxAt w.drew := h

theorem replace_calls (s : ByteArray) (w : World) (hs : s.size ≤ 1000000) (hm : MaxAt w) :
    Calls Tryd.prog 68 #[.string s, .string ⟨#[0]⟩, .string ⟨#[0, 255]⟩] w fun e w' => e = .returned (.string ⟨(escL s.toList).toArray⟩) ∧ Below w.heap.size w w' := by
  obtain ⟨m, hm⟩ := hm
  have hc := Lib.count_le s.data.toList [0]
  have hl : s.data.toList.length = s.size := by rw [Array.length_toList]; rfl
  refine (Tryd.strings_ReplaceAll s ⟨#[0]⟩ ⟨#[0, 255]⟩ m w (by omega) hm (by decide) ?_).mono ?_
  · show s.size + Lib.count s.data.toList [0] * 2 ≤ _
    omega
  · rintro e w' ⟨rfl, hb⟩
    refine ⟨?_, hb⟩
    rw [show (⟨#[0]⟩ : ByteArray).data.toList = [0] from rfl, show (⟨#[0, 255]⟩ : ByteArray).data.toList = [0, 255] from rfl, esc_replace, ByteArray.toList_eq]
theorem count_calls (s : ByteArray) (w : World) :
    Calls Tryd.prog 62 #[.string s, .string ⟨#[0]⟩] w fun e w' => e = .returned (.int .i64 (s.toList.count 0 : Nat)) ∧ w = w' := by
  refine (Tryd.strings_Count_one s 0 w).mono ?_
  rintro e w' ⟨rfl, rfl⟩
  rw [ByteArray.toList_eq]
  exact ⟨rfl, rfl⟩
end Go.Proofs.YtjohiehlnbgdaaaDoor

/- KeyPut -/
namespace Go.Proofs.YtjohiehlnbgdaaaDoor
open Go.RowKit
set_option linter.unusedVariables false

theorem key_size {v : Vd} (h : rightD v) : (keyV v).length = if v.k = 1 then 9 else if v.k = 2 then 1 + v.s.size + v.s.toList.count 0 + 2 else 2 := by
  rcases right_three h with ⟨u, _, rfl, e⟩ | ⟨t, _, rfl, e⟩ | ⟨b, rfl, e⟩
  · rw [e]; simp [numL_len]
  · rw [e, ← tl_len]; simp only [tl_mk]; simp [escL_len]; omega
  · rw [e]; simp

set_option maxHeartbeats 1000000 in
theorem sizeOf_calls (k i : Int) (s : ByteArray) (b : Bool) (w : World) (hr : rightD ⟨k, i, s, b⟩) :
    Calls Tryd.prog 51 #[.agg #[.int .i64 k, .int .i64 i, .string s, .bool b]] w fun e w' => e = .returned (.int .i64 ((keyV ⟨k, i, s, b⟩).length : Nat)) ∧ Below w.heap.size w w' := by
  have hsz := right_size hr.1
  simp only at hsz
  have hk := right_kind hr.1
  simp only at hk
  have hlen := key_size hr
  simp only at hlen
  rw [hlen]
  have HA := Lib.hid ((Below.refl w.heap.size w).alloc (Nat.le_refl _) (.cells #[.int .i64 k, .int .i64 i, .string s, .bool b] 34))
  have HB := Lib.hid (Boxed.new k i s b w 34)
  have HC := Lib.hid (fun w1 => count_calls s w1)
  have hcn : s.toList.count 0 ≤ 4096 := by have := List.count_le_length (l := s.toList) (a := (0 : UInt8)); rw [tl_len] at this; omega
  obtain ⟨n, hn⟩ : ∃ n, n = s.toList.count 0 := ⟨_, rfl⟩
  rw [← hn] at hcn HC ⊢
  clear hlen hn hr
  rcases hk with rfl | rfl | rfl
  · rw [if_pos rfl]
    go_enter Tryd.func51, Tryd.ntmps51
    go_wp2_with fail
    go_ret
    exact ⟨rfl, HA.out⟩
  · rw [if_neg (by decide), if_pos rfl]
    go_enter Tryd.func51, Tryd.ntmps51
    go_wp2_with fail
    go_region_held3 (fun w1 => w1.cell? ⟨w.heap.size, 0, none⟩ = some (.int .i64 2) ∧ w1.cell? ⟨w.heap.size, 1, none⟩ = some (.int .i64 i) ∧ w1.cell? ⟨w.heap.size, 2, none⟩ = some (.string s) ∧ w1.cell? ⟨w.heap.size, 3, none⟩ = some (.bool b)) (first | exact HB.out) (first
      | (go_at_call 62; refine (HC.out _).mono ?_; rintro e w4 ⟨rfl, rfl⟩))
    go_wp2_with fail
    go_ret
    have hsum : IntKind.i64.wrap (IntKind.i64.wrap (IntKind.i64.wrap (1 + (s.size : Int)) + (n : Int)) + 2) = ((1 + s.size + n + 2 : Nat) : Int) := by
      simp only [IntKind.wrap_i64]; push_cast; omega
    exact ⟨by rw [hsum]; rfl, HA.out.drew⟩
  · rw [if_neg (by decide), if_neg (by decide)]
    go_enter Tryd.func51, Tryd.ntmps51
    go_wp2_with fail
    go_ret
    exact ⟨rfl, HA.out⟩

theorem numL_get : ∀ (n u k : Nat), k < n → (numL n u)[k]? = some (UInt8.ofNat (u / 256 ^ (n - 1 - k)))
  | n + 1, u, 0, _ => by simp [numL]
  | n + 1, u, k + 1, h => by
    rw [numL, List.getElem?_cons_succ, numL_get n u k (by omega)]
    congr 4
    omega
theorem set_step (p q z : List UInt8) (k : Nat) (c : UInt8) (hq : q[k]? = some c) (hz : k < z.length) : (p ++ q.take k ++ z.drop k).set (p.length + k) c = p ++ q.take (k + 1) ++ z.drop (k + 1) := by
  have hk : k < q.length := (List.getElem?_eq_some_iff.1 hq).1
  have hc : q[k] = c := (List.getElem?_eq_some_iff.1 hq).2
  have hl : (p ++ q.take k).length = p.length + k := by simp; omega
  rw [List.set_append, if_neg (by rw [hl]; omega), hl, Nat.sub_self, List.drop_eq_getElem_cons hz, List.set_cons_zero, List.take_succ_eq_append_getElem hk, hc]
  simp
theorem num_step {g : Nat} {p z : List UInt8} {u k : Nat} {w : World} (h : Holds g (p ++ (numL 8 u).take k ++ z.drop k) w) (hk : k < 8) (hz : 8 ≤ z.length) :
    Holds g (p ++ (numL 8 u).take (k + 1) ++ z.drop (k + 1)) (w.setCell ⟨g, p.length + k, none⟩ (.int .u8 ((u / 256 ^ (7 - k) % 256 : Nat) : Int))) := by
  have h2 := h.set (p.length + k) (UInt8.ofNat (u / 256 ^ (7 - k)))
  rw [set_step p (numL 8 u) z k _ (by rw [numL_get 8 u k hk]) (by omega)] at h2
  rw [UInt8.toNat_ofNat'] at h2
  exact h2
theorem num_cell {g : Nat} {p z : List UInt8} {u k : Nat} {w : World} (h : Holds g (p ++ (numL 8 u).take k ++ z.drop k) w) (hk : k < 8) (hz : 8 ≤ z.length) : ∃ d : UInt8, w.cell? ⟨g, p.length + k, none⟩ = some (.int .u8 d.toNat) := by
  refine ⟨z[k], h.cell ?_⟩
  have hl : (p ++ (numL 8 u).take k).length = p.length + k := by simp [numL_len]; omega
  rw [List.getElem?_append_right (by rw [hl]; exact Nat.le_refl _), hl, Nat.sub_self, List.getElem?_drop]
  simp

set_option maxHeartbeats 2000000 in
theorem putNumber_calls (g len cap : Nat) (p z : List UInt8) (n : Int) (w : World) (h : Holds g (p ++ z) w) (hz : 8 ≤ z.length) (hlen : 8 ≤ len) (hl : len ≤ 1000000000) (hn : -9223372036854775808 ≤ n ∧ n ≤ 9223372036854775807) :
    Calls Tryd.prog 63 #[.slice (some ⟨g, p.length, none⟩) len cap, .int .i64 n] w fun e w' => e = .returned (.int .i64 8) ∧ Holds g (p ++ numL 8 (n + 9223372036854775808).toNat ++ z.drop 8) w' ∧ But g w w' := by
  obtain ⟨u, hu⟩ : ∃ u, u = (n + 9223372036854775808).toNat := ⟨_, rfl⟩
  rw [← hu]
  have hu2 : u < 18446744073709551616 := by omega
  have hwrap : IntKind.u64.wrap (IntKind.u64.wrap n + 9223372036854775808) = u := by
    rw [IntKind.wrap_u64, IntKind.wrap_u64]; omega
  obtain ⟨off, hoff⟩ : ∃ off, off = p.length := ⟨_, rfl⟩
  rw [← hoff]
  have HOff := Lib.hid hoff
  have H : Hid (Holds g (p ++ (numL 8 u).take 0 ++ z.drop 0) w) := Lib.hid (by simpa using h)
  have HE : Hid ((numL 8 u).take 8 = numL 8 u) := Lib.hid (List.take_of_length_le (by rw [numL_len]; exact Nat.le_refl _))
  have HZ := Lib.hid hz
  clear h hoff hu hn hz
  go_enter Tryd.func63, Tryd.ntmps63
  go_wp2_with fail
  clear hwrap
  go_loopw [10] (fun i wr => ∃ (k : Nat), k ≤ 8 ∧ i = .int .i64 k ∧ Hid (Holds g (p ++ (numL 8 u).take k ++ z.drop k) wr) ∧ But g w wr) (fun i _ => 8 - (intOf i).toNat)
  case atStart => exact ⟨0, by omega, rfl, H, But.refl _ _⟩
  case round =>
    clear H
    obtain ⟨k, hk, rfl, H, kb⟩ := hrel
    by_cases h8 : k < 8
    case neg =>
      obtain rfl : k = 8 := by omega
      go_wp2_with fail
      go_ret
      have := H.out
      rw [HE.out] at this
      exact ⟨rfl, this, kb⟩
    case pos =>
      obtain ⟨d, hd⟩ := num_cell H.out h8 HZ.out
      have hf := H.out.frozen (p.length + k)
      have HS := Lib.hid (num_step H.out h8 HZ.out)
      rw [← HOff.out] at hd hf HS
      have HF := Lib.hid hf
      have hk8 : k = 0 ∨ k = 1 ∨ k = 2 ∨ k = 3 ∨ k = 4 ∨ k = 5 ∨ k = 6 ∨ k = 7 := by omega
      clear hk h8 H hf
      rcases hk8 with rfl | rfl | rfl | rfl | rfl | rfl | rfl | rfl
      all_goals simp only [Nat.add_zero, Nat.reduceSub, Nat.reducePow, Nat.reduceAdd, Nat.pow_zero, Nat.div_one] at hd HF HS
      all_goals have hf := HF.out
      all_goals (go_wp2_with fail)
      · exact ⟨⟨1, by omega, rfl, Lib.hid (by have h := HS.out; rw [show ((u / 72057594037927936 % 256 : Nat) : Int) = (u : Int) / 72057594037927936 by omega] at h; exact h), kb.set _⟩, by simp [intOf]⟩
      · exact ⟨⟨2, by omega, rfl, Lib.hid (by have h := HS.out; rw [show ((u / 281474976710656 % 256 : Nat) : Int) = (u : Int) / 281474976710656 % 256 by omega] at h; exact h), kb.set _⟩, by simp [intOf]⟩
      · exact ⟨⟨3, by omega, rfl, Lib.hid (by have h := HS.out; rw [show ((u / 1099511627776 % 256 : Nat) : Int) = (u : Int) / 1099511627776 % 256 by omega] at h; exact h), kb.set _⟩, by simp [intOf]⟩
      · exact ⟨⟨4, by omega, rfl, Lib.hid (by have h := HS.out; rw [show ((u / 4294967296 % 256 : Nat) : Int) = (u : Int) / 4294967296 % 256 by omega] at h; exact h), kb.set _⟩, by simp [intOf]⟩
      · exact ⟨⟨5, by omega, rfl, Lib.hid (by have h := HS.out; rw [show ((u / 16777216 % 256 : Nat) : Int) = (u : Int) / 16777216 % 256 by omega] at h; exact h), kb.set _⟩, by simp [intOf]⟩
      · exact ⟨⟨6, by omega, rfl, Lib.hid (by have h := HS.out; rw [show ((u / 65536 % 256 : Nat) : Int) = (u : Int) / 65536 % 256 by omega] at h; exact h), kb.set _⟩, by simp [intOf]⟩
      · exact ⟨⟨7, by omega, rfl, Lib.hid (by have h := HS.out; rw [show ((u / 256 % 256 : Nat) : Int) = (u : Int) / 256 % 256 by omega] at h; exact h), kb.set _⟩, by simp [intOf]⟩
      · exact ⟨⟨8, by omega, rfl, Lib.hid (by have h := HS.out; rw [show ((u % 256 : Nat) : Int) = (u : Int) % 256 by omega] at h; exact h), kb.set _⟩, by simp [intOf]⟩

theorem copy_str {g off len cap : Nat} {p z : List UInt8} {r : ByteArray} {w1 : World} (h : Holds g (p ++ z) w1) (hoff : off = p.length) (hle : r.size ≤ len) (hz : r.size ≤ z.length) :
    ∃ w2, (Builtin.copy_ #[32, 9] 3 #[.slice (some ⟨g, off, none⟩) len cap, .string r]).run Tryd.prog w1 = .ok (.int .i64 r.size) w2 ∧ Holds g (p ++ r.data.toList ++ z.drop r.size) w2 ∧ But g w1 w2 := by
  subst hoff
  have hrs : r.size = r.data.toList.length := by rw [Array.length_toList]; rfl
  refine ⟨_, Lib.run_copy_row_string (P := Tryd.prog) w1 32 9 3 5 g p.length len cap r _ _ Tryd.underlying32 sizeByte h hle (by simp [Lib.byteCells]; omega), ?_, (But.refl _ _).row _⟩
  rw [hrs, splice_bytes p z _ (by omega)]
  exact h.row

set_option maxHeartbeats 2000000 in
theorem putText_calls (g len cap : Nat) (p z : List UInt8) (s : ByteArray) (w : World) (h : Holds g (p ++ z) w) (hz : (escL s.toList).length + 2 ≤ z.length) (hlen : (escL s.toList).length + 2 ≤ len) (hlc : len ≤ cap) (hl : len ≤ 1000000000) (hs : s.size ≤ 1000000) (hm : MaxAt w) :
    Calls Tryd.prog 64 #[.slice (some ⟨g, p.length, none⟩) len cap, .string s] w fun e w' => e = .returned (.int .i64 (((escL s.toList).length + 2 : Nat) : Int)) ∧ Holds g (p ++ (escL s.toList ++ [0, 1]) ++ z.drop ((escL s.toList).length + 2)) w' ∧ But g w w' := by
  obtain ⟨t, ht⟩ : ∃ t, t = escL s.toList := ⟨_, rfl⟩
  have HR := Lib.hid (replace_calls s w hs hm)
  rw [← ht] at hz hlen HR ⊢
  obtain ⟨r, hr⟩ : ∃ r : ByteArray, r = ⟨t.toArray⟩ := ⟨_, rfl⟩
  rw [← hr] at HR
  have hrd : r.data.toList = t := by rw [hr]
  have hrs : r.size = t.length := by rw [hr]; rfl
  have hr1 : r.size + 2 ≤ len := by omega
  have hne : ¬ cap = r.size := by omega
  obtain ⟨off, hoff⟩ : ∃ off, off = p.length := ⟨_, rfl⟩
  rw [← hoff]
  have HOff := Lib.hid hoff
  have H := Lib.hid h
  have HZ := Lib.hid hz
  have HRD := Lib.hid hrd
  have HRS := Lib.hid hrs
  clear h hoff hz hrd hrs hr ht hlen hm
  go_enter Tryd.func64, Tryd.ntmps64
  go_wp2_with fail
  refine HR.out.mono ?_
  rintro e w1 ⟨rfl, k1⟩
  have H1 := Lib.hid (H.out.below k1)
  obtain ⟨w2, hcp, h2, hb2⟩ := copy_str (cap := cap) H1.out HOff.out (r := r) (len := len) (by omega) (by have := HZ.out; have := HRS.out; omega)
  have k2 := (But.of k1).trans hb2
  have H2 : Hid (Holds g ((p ++ t) ++ z.drop t.length) w2) := Lib.hid (by rw [HRD.out, HRS.out] at h2; exact h2)
  obtain ⟨w3, hcp2, h3, hb3⟩ := copy_str (cap := cap - r.size) H2.out (off := off + r.size) (by have := HOff.out; have := HRS.out; simp; omega) (r := ⟨#[0, 1]⟩) (len := len - r.size) (by show 2 ≤ _; omega) (by show 2 ≤ _; have := HZ.out; rw [List.length_drop]; omega)
  have k3 := k2.trans hb3
  have H3 := Lib.hid h3
  have hs2 : (⟨#[0, 1]⟩ : ByteArray).size = 2 := rfl
  rw [hs2] at hcp2
  clear k1 H1 HR h2 h3 hb2 hb3 k2
  go_wp2_with fail
  go_ret
  refine ⟨by have := HRS.out; go_num, ?_, k3⟩
  have h3 := H3.out
  rw [hs2, List.drop_drop] at h3
  simpa using h3
end Go.Proofs.YtjohiehlnbgdaaaDoor

/- KeyPutV -/
namespace Go.Proofs.YtjohiehlnbgdaaaDoor
open Go.RowKit
set_option linter.unusedVariables false

theorem rep_cell {g : Nat} {p : List UInt8} {m : Nat} {w : World} (h : Holds g (p ++ List.replicate m 0) w) (j : Nat) (hj : j < m) : w.cell? ⟨g, p.length + j, none⟩ = some (.int .u8 0) := by
  have := h.cell (j := p.length + j) (c := 0) (by rw [List.getElem?_append_right (by omega), Nat.add_sub_cancel_left, List.getElem?_replicate, if_pos hj])
  simpa using this
theorem rep_set {g : Nat} {p : List UInt8} {m : Nat} {w : World} (h : Holds g (p ++ List.replicate (m + 1) 0) w) (c : UInt8) : Holds g ((p ++ [c]) ++ List.replicate m 0) (w.setCell ⟨g, p.length, none⟩ (.int .u8 c.toNat)) := by
  have := h.set p.length c
  rw [List.set_append, if_neg (by omega), Nat.sub_self, List.replicate_succ, List.set_cons_zero] at this
  simpa using this

/-- What put leaves behind its first store. -/
theorem put_first {g m : Nat} {p : List UInt8} {w : World} (h : Holds g (p ++ List.replicate (m + 1) 0) w) (o : Obj) (c : UInt8) :
    Holds g ((p ++ [c]) ++ List.replicate m 0) ((w.setCell ⟨g, p.length, none⟩ (.int .u8 c.toNat)).alloc o) ∧ But g w ((w.setCell ⟨g, p.length, none⟩ (.int .u8 c.toNat)).alloc o) :=
  ⟨(rep_set h c).alloc o, ((But.refl g w).set _).alloc o⟩
theorem Boxed.newSet (k i : Int) (s : ByteArray) (b : Bool) (w : World) (t : TypeId) (a : Addr) (x : Value) : Boxed w.heap.size k i s b ((w.setCell a x).alloc (.cells #[.int .i64 k, .int .i64 i, .string s, .bool b] t)) := by
  have h := Boxed.new k i s b (w.setCell a x) t
  rw [World.size_setCell] at h
  exact h

set_option maxHeartbeats 2000000 in
theorem put1_calls (g len m cap : Nat) (p : List UInt8) (i : Int) (w : World) (hlen : len = m + 9) (h : Holds g (p ++ List.replicate len 0) w) (hlc : len ≤ cap) (hl : len ≤ 1000000000) (hi : -9223372036854775808 ≤ i ∧ i ≤ 9223372036854775807) :
    Calls Tryd.prog 52 #[.slice (some ⟨g, p.length, none⟩) len cap, .agg #[.int .i64 1, .int .i64 i, .string ⟨#[]⟩, .bool false]] w fun e w' => e = .returned (.int .i64 9) ∧ Holds g (p ++ (1 :: numL 8 (i + 9223372036854775808).toNat) ++ List.replicate m 0) w' ∧ But g w w' := by
  have hg : g < w.heap.size := h.lt
  have hc := rep_cell h 0 (by omega)
  have hf := h.frozen p.length
  have hlen1 : len = (m + 8) + 1 := by omega
  rw [hlen1] at h
  have hP := put_first h (.cells #[.int .i64 1, .int .i64 i, .string ⟨#[]⟩, .bool false] 34) 1
  have HB := Lib.hid (Boxed.newSet 1 i ⟨#[]⟩ false w 34 ⟨g, p.length, none⟩ (.int .u8 (1 : UInt8).toNat))
  have HN := Lib.hid (fun w1 (hw : Holds g ((p ++ [1]) ++ List.replicate (m + 8) 0) w1) (_ : But g w w1) => putNumber_calls g (m + 8) (cap - 1) (p ++ [1]) (List.replicate (m + 8) 0) i w1 hw (by simp) (by omega) (by omega) hi)
  have e1 : (p ++ [(1 : UInt8)]).length = p.length + 1 := by simp
  rw [e1] at HN
  clear e1 hi
  rw [Nat.add_zero] at hc
  obtain ⟨off, hoff⟩ : ∃ off, off = p.length := ⟨_, rfl⟩
  rw [← hoff] at hc hf hP HB HN ⊢
  have HP := Lib.hid hP
  have HD : Hid (List.drop 8 (List.replicate (m + 8) (0 : UInt8)) = List.replicate m 0) := Lib.hid (by simp)
  have hc1 : ¬ cap = 1 := by omega
  have hb1 : (1 : Int) ≤ (len : Int) := by omega
  have hne : w.heap.size ≠ g := by omega
  have HNE := Lib.hid hne
  have u1 : ((1 : UInt8).toNat : Int) = 1 := rfl
  rw [u1] at HB HP
  have HLen1 : Hid (len - 1 = (m + 8)) := Lib.hid (by omega)
  rw [← HLen1.out] at HN HP HD
  clear hoff hP h u1 hlen hlen1 hne
  go_enter Tryd.func52, Tryd.ntmps52
  go_wp2_with fail
  go_region_held3 (fun w1 => w1.cell? ⟨w.heap.size, 0, none⟩ = some (.int .i64 1) ∧ w1.cell? ⟨w.heap.size, 1, none⟩ = some (.int .i64 i) ∧ w1.cell? ⟨w.heap.size, 2, none⟩ = some (.string ⟨#[]⟩) ∧ w1.cell? ⟨w.heap.size, 3, none⟩ = some (.bool false)) (first | exact HB2.out | exact HB.out) (first
    | (go_at_call 63; refine (HN.out _ HP.out.1.drew HP.out.2.drew).mono ?_; rintro e w4 ⟨rfl, k5, k6⟩; have HB2 := Lib.hid (k6.boxed HB.out.drew HNE.out); have HH := Lib.hid k5; have HW := Lib.hid (HP.out.2.drew.trans k6)))
  go_wp2_with fail
  go_ret
  refine ⟨rfl, ?_, HW.out⟩
  have h5 := HH.out
  rw [HD.out] at h5
  simpa using h5

set_option maxHeartbeats 2000000 in
theorem put2_calls (g len m cap : Nat) (p : List UInt8) (s : ByteArray) (w : World) (hlen : len = m + (1 + ((escL s.toList).length + 2))) (h : Holds g (p ++ List.replicate len 0) w) (hlc : len ≤ cap) (hl : len ≤ 1000000000) (hs : s.size ≤ 4096) (hm : MaxAt w) (hmx : g ≠ 0) :
    Calls Tryd.prog 52 #[.slice (some ⟨g, p.length, none⟩) len cap, .agg #[.int .i64 2, .int .i64 0, .string s, .bool false]] w fun e w' => e = .returned (.int .i64 ((1 + ((escL s.toList).length + 2) : Nat) : Int)) ∧ Holds g (p ++ (2 :: (escL s.toList ++ [0, 1])) ++ List.replicate m 0) w' ∧ But g w w' := by
  have hg : g < w.heap.size := h.lt
  have hc := rep_cell h 0 (by omega)
  have hf := h.frozen p.length
  have hlen1 : len = (m + ((escL s.toList).length + 2)) + 1 := by omega
  rw [hlen1] at h
  have hP := put_first h (.cells #[.int .i64 2, .int .i64 0, .string s, .bool false] 34) 2
  have HB := Lib.hid (Boxed.newSet 2 0 s false w 34 ⟨g, p.length, none⟩ (.int .u8 (2 : UInt8).toNat))
  have HN := Lib.hid (fun w1 (hw : Holds g ((p ++ [2]) ++ List.replicate (m + ((escL s.toList).length + 2)) 0) w1) (hb : But g w w1) => putText_calls g (m + ((escL s.toList).length + 2)) (cap - 1) (p ++ [2]) (List.replicate (m + ((escL s.toList).length + 2)) 0) s w1 hw (by simp) (by omega) (by omega) (by omega) (by omega) (by
    obtain ⟨x, hx⟩ := hm
    refine ⟨x, World.grownBy.cell hb hx ?_⟩
    intro e
    exact hmx (Option.some.inj e).symm))
  have e1 : (p ++ [(2 : UInt8)]).length = p.length + 1 := by simp
  rw [e1] at HN
  clear e1
  rw [Nat.add_zero] at hc
  obtain ⟨off, hoff⟩ : ∃ off, off = p.length := ⟨_, rfl⟩
  rw [← hoff] at hc hf hP HB HN ⊢
  have HP := Lib.hid hP
  have hel := escL_le s.toList
  rw [tl_len] at hel
  obtain ⟨n, hn⟩ : ∃ n, n = (escL s.toList).length := ⟨_, rfl⟩
  have HD : Hid (List.drop ((escL s.toList).length + 2) (List.replicate (m + ((escL s.toList).length + 2)) (0 : UInt8)) = List.replicate m 0) := Lib.hid (by simp)
  rw [← hn] at HN HD hlen hel hlen1 HP ⊢
  clear hn
  have hc1 : ¬ cap = 1 := by omega
  have hb1 : (1 : Int) ≤ (len : Int) := by omega
  have hne : w.heap.size ≠ g := by omega
  have HNE := Lib.hid hne
  have u1 : ((2 : UInt8).toNat : Int) = 2 := rfl
  rw [u1] at HB HP
  have HLen1 : Hid (len - 1 = (m + (n + 2))) := Lib.hid (by omega)
  rw [← HLen1.out] at HN HP HD
  clear hoff hP h u1 hlen hlen1 hne
  go_enter Tryd.func52, Tryd.ntmps52
  go_wp2_with fail
  go_region_held3 (fun w1 => w1.cell? ⟨w.heap.size, 0, none⟩ = some (.int .i64 2) ∧ w1.cell? ⟨w.heap.size, 1, none⟩ = some (.int .i64 0) ∧ w1.cell? ⟨w.heap.size, 2, none⟩ = some (.string s) ∧ w1.cell? ⟨w.heap.size, 3, none⟩ = some (.bool false)) (first | exact HB2.out | exact HB.out) (first
    | (go_at_call 64; refine (HN.out _ HP.out.1.drew HP.out.2.drew).mono ?_; rintro e w4 ⟨rfl, k5, k6⟩; have HB2 := Lib.hid (k6.boxed HB.out.drew HNE.out); have HH := Lib.hid k5; have HW := Lib.hid (HP.out.2.drew.trans k6)))
  go_wp2_with fail
  go_ret
  have hsum : IntKind.i64.wrap (1 + ((n : Int) + 2)) = ((1 + (n + 2) : Nat) : Int) := by
    simp only [IntKind.wrap_i64]; push_cast; omega
  refine ⟨by rw [hsum]; rfl, ?_, HW.out⟩
  have h5 := HH.out
  rw [HD.out] at h5
  simpa using h5

set_option maxHeartbeats 2000000 in
theorem put3_calls (g len m cap : Nat) (p : List UInt8) (b : Bool) (w : World) (hlen : len = m + 2) (h : Holds g (p ++ List.replicate len 0) w) (hlc : len ≤ cap) (hl : len ≤ 1000000000) :
    Calls Tryd.prog 52 #[.slice (some ⟨g, p.length, none⟩) len cap, .agg #[.int .i64 3, .int .i64 0, .string ⟨#[]⟩, .bool b]] w fun e w' => e = .returned (.int .i64 2) ∧ Holds g (p ++ [3, if b = true then 1 else 0] ++ List.replicate m 0) w' ∧ But g w w' := by
  have hg : g < w.heap.size := h.lt
  have hc := rep_cell h 0 (by omega)
  have hd := rep_cell h 1 (by omega)
  have hf := h.frozen p.length
  have hf2 := h.frozen (p.length + 1)
  have hlen1 : len = (m + 1) + 1 := by omega
  rw [hlen1] at h
  have HP := Lib.hid (rep_set h 3)
  have HQ := Lib.hid (rep_set (rep_set h 3) 1)
  have e1 : (p ++ [(3 : UInt8)]).length = p.length + 1 := by simp
  rw [e1] at HQ
  rw [Nat.add_zero] at hc
  obtain ⟨off, hoff⟩ : ∃ off, off = p.length := ⟨_, rfl⟩
  rw [← hoff] at hc hd hf hf2 HP HQ ⊢
  have hb1 : (1 : Int) < (len : Int) := by omega
  have u3 : ((3 : UInt8).toNat : Int) = 3 := rfl
  have u1 : ((1 : UInt8).toNat : Int) = 1 := rfl
  rw [u3] at HP HQ
  rw [u1] at HQ
  clear hoff h hlen hlen1 e1 u1 u3
  cases b
  · go_enter Tryd.func52, Tryd.ntmps52
    go_wp2_with fail
    go_ret
    refine ⟨rfl, ?_, ((But.refl g w).set _).alloc _⟩
    have h5 := HP.out.alloc (.cells #[.int .i64 3, .int .i64 0, .string ⟨#[]⟩, .bool false] 34)
    rw [List.replicate_succ] at h5
    simpa using h5
  · go_enter Tryd.func52, Tryd.ntmps52
    go_wp2_with fail
    go_ret
    refine ⟨rfl, ?_, (((But.refl g w).set _).set _).alloc _⟩
    have h5 := HQ.out.alloc (.cells #[.int .i64 3, .int .i64 0, .string ⟨#[]⟩, .bool true] 34)
    simpa using h5

theorem put_calls (g len m cap : Nat) (p : List UInt8) (v : Vd) (w : World) (hv : rightD v) (hlen : len = m + (keyV v).length) (h : Holds g (p ++ List.replicate len 0) w) (hlc : len ≤ cap) (hl : len ≤ 1000000000) (hm : MaxAt w) (hmx : g ≠ 0) :
    Calls Tryd.prog 52 #[.slice (some ⟨g, p.length, none⟩) len cap, .agg #[.int .i64 v.k, .int .i64 v.i, .string v.s, .bool v.b]] w fun e w' => e = .returned (.int .i64 ((keyV v).length : Nat)) ∧ Holds g (p ++ keyV v ++ List.replicate m 0) w' ∧ But g w w' := by
  rcases right_three hv with ⟨u, hu, rfl, e⟩ | ⟨t, ht, rfl, e⟩ | ⟨b, rfl, e⟩ <;> rw [e] at hlen ⊢
  · simp [numL_len] at hlen
    refine (put1_calls g len m cap p _ w hlen h hlc hl ⟨by simp only; omega, by simp only; omega⟩).mono ?_
    rintro e w' ⟨rfl, h1, h2⟩
    rw [show ((u : Int) - 9223372036854775808 + 9223372036854775808).toNat = u by omega] at h1
    exact ⟨by simp [numL_len], h1, h2⟩
  · have e2 : (2 :: (escL t ++ [0, 1])).length = 1 + ((escL t).length + 2) := by simp; omega
    rw [e2] at hlen ⊢
    have := put2_calls g len m cap p ⟨t.toArray⟩ w (by rw [tl_mk]; exact hlen) h hlc hl (by show t.length ≤ _; exact ht) hm hmx
    rw [tl_mk] at this
    exact this
  · exact put3_calls g len m cap p b w (by simpa using hlen) h hlc hl
end Go.Proofs.YtjohiehlnbgdaaaDoor

/- KeyOf -/
namespace Go.Proofs.YtjohiehlnbgdaaaDoor
open Go.RowKit
set_option linter.unusedVariables false

/-- A list of values in memory: none, or they lie in a row. -/
structure VIn (w : World) (a : Option Addr) (len : Nat) (L : List Vd) : Prop where
  leng : L.length = len
  small : len ≤ 9223372036854775807
  row : 0 < len → ∃ g off, a = some ⟨g, off, none⟩ ∧ VRow w g off L
  fits : ∀ n, n < L.length → (L.getD n default).s.size ≤ 9223372036854775807 ∧ -9223372036854775808 ≤ (L.getD n default).i ∧ (L.getD n default).i ≤ 9223372036854775807
theorem VIn.below {w w' : World} {a : Option Addr} {len : Nat} {L : List Vd} (h : VIn w a len L) (hb : Below w.heap.size w w') : VIn w' a len L :=
  ⟨h.leng, h.small, fun h0 => by obtain ⟨g, off, e, hr⟩ := h.row h0; exact ⟨g, off, e, hr.below hb⟩, h.fits⟩
/-- The value at a place. -/
theorem VIn.at' {w : World} {a : Option Addr} {len : Nat} {L : List Vd} (h : VIn w a len L) {n : Nat} (hn : n < len) : ∃ g off, a = some ⟨g, off, none⟩ ∧ Lies g (off + n * 4) (L.getD n default) w := by
  obtain ⟨g, off, e, hr⟩ := h.row (by omega)
  exact ⟨g, off, e, hr.at' n (by rw [h.leng]; exact hn)⟩
theorem Lies.boxed {g : Nat} {v : Vd} {w : World} (h : Boxed g v.k v.i v.s v.b w) : Lies g 0 v w := h
theorem VIn.one (v : Vd) (w : World) (t : TypeId) (hs : v.s.size ≤ 9223372036854775807) (hi : -9223372036854775808 ≤ v.i ∧ v.i ≤ 9223372036854775807) : VIn (w.alloc (.cells #[.int .i64 v.k, .int .i64 v.i, .string v.s, .bool v.b] t)) (some ⟨w.heap.size, 0, none⟩) 1 [v] :=
  ⟨rfl, by omega, fun _ => ⟨w.heap.size, 0, rfl, ⟨fun n hn => by
      obtain rfl : n = 0 := by simpa using hn
      exact Boxed.new v.k v.i v.s v.b w t, by simp⟩⟩, fun n hn => by
      obtain rfl : n = 0 := by simpa using hn
      exact ⟨hs, hi⟩⟩

theorem keys_next (L : List Vd) (n : Nat) (h : n < L.length) : keysL (L.take (n + 1)) = keysL (L.take n) ++ keyV (L.getD n default) := by
  rw [List.take_succ_eq_append_getElem h, keysL_app, keysL, keysL, List.append_nil]
  simp [List.getD, h]
theorem allD_at {L : List Vd} (h : allD L) {n : Nat} (hn : n < L.length) : rightD (L.getD n default) := by
  have : L.getD n default = L[n] := by simp [List.getD, hn]
  rw [this]
  exact h _ (List.getElem_mem hn)
theorem keys_max : ∀ {L : List Vd}, allD L → (keysL L).length ≤ 8195 * L.length
  | [], _ => by simp [keysL]
  | v :: L, h => by
    have h1 := key_max (h v (by simp))
    have h2 := keys_max (L := L) (fun u hu => h u (by simp [hu]))
    rw [keysL, List.length_append, List.length_cons]
    omega
theorem keys_part (L : List Vd) (n : Nat) : (keysL (L.take n)).length ≤ (keysL L).length := by
  have : keysL L = keysL (L.take n) ++ keysL (L.drop n) := by rw [← keysL_app, List.take_append_drop]
  rw [this, List.length_append]; omega

theorem make_bytes (K : Nat) (hK : K ≤ 819500000) (w : World) : (Instr.makeSlice 32 (.int .i64 (K : Int)) (.int .i64 (K : Int))).run Tryd.prog w = .ok (.slice (some ⟨w.heap.size, 0, none⟩) K K) (w.alloc (.cells (madeCells #[.int .u8 0] K) 5)) := by
  obtain ⟨i0, hi, hz0, hz1, hz2⟩ := info_parts infoU8
  have h := run_make w 32 5 i0 (.int .u8 0) Tryd.underlying32 hi hz0 .i64 .i64 (K : Int) (K : Int) (by omega) (by omega) (by rw [hz2]; omega) (by omega)
  rw [h, hz1]
  simp [Value.cells]

set_option maxHeartbeats 4000000 in
set_option maxRecDepth 100000 in
theorem ofYes_calls (a : Option Addr) (len cap : Nat) (L : List Vd) (w : World) (hv : VIn w a len L) (hall : allD L) (hlen : len ≤ 100000) (hm : MaxAt w) :
    Calls Tryd.prog 35 #[.slice a len cap] w fun e w' => (∃ g, e = .returned (.slice (some ⟨g, 0, none⟩) (keysL L).length (keysL L).length) ∧ w.heap.size ≤ g ∧ Holds g (keysL L) w') ∧ Below w.heap.size w w' := by
  have HV := Lib.hid hv
  have HAll := Lib.hid hall
  have HL := Lib.hid hv.leng
  have hK : (keysL L).length ≤ 819500000 := by
    have := keys_max hall
    rw [hv.leng] at this
    omega
  have hM := fun w1 (hb : Below w.heap.size w w1) => hm.below hb
  have HM := Lib.hid hM
  have hmg : 0 < w.heap.size := by obtain ⟨m, hm⟩ := hm; exact block_lt_of_cell hm
  have HMg := Lib.hid hmg
  have HR := Lib.hid (fun (v : Vd) (h : rightD v) w1 => vRight_calls v.k v.i v.s v.b w1 (by have := right_size h.1; omega))
  have HS := Lib.hid (fun (v : Vd) (h : rightD v) w1 => sizeOf_calls v.k v.i v.s v.b w1 h)
  obtain ⟨K, hKe⟩ : ∃ K, K = (keysL L).length := ⟨_, rfl⟩
  rw [← hKe] at hK ⊢
  have HK := Lib.hid hKe
  clear hv hall hm hM hmg hKe
  go_enter Tryd.func35, Tryd.ntmps35
  go_wp2_with fail
  go_loopw [3, 12] (fun z i wr => ∃ (n : Nat), n ≤ len ∧ i = .int .i64 n ∧ z = .int .i64 ((keysL (L.take n)).length : Nat) ∧ Hid (Below w.heap.size w wr)) (fun _ i _ => len - (intOf i).toNat)
  case atStart => exact ⟨0, Nat.zero_le _, rfl, rfl, Lib.hid (Below.refl _ _)⟩
  case round =>
    obtain ⟨n, hn, rfl, rfl, HB⟩ := hrel
    by_cases h : n < len
    case pos =>
      obtain ⟨g0, off0, rfl, hE⟩ := (HV.out.below HB.out).at' h
      have hrt := allD_at HAll.out (n := n) (by rw [HL.out]; exact h)
      have HNx := Lib.hid (keys_next L n (by rw [HL.out]; exact h))
      have HKm : Hid ((keysL (L.take (n + 1))).length ≤ K) := Lib.hid (by rw [HK.out]; exact keys_part L (n + 1))
      obtain ⟨v, hv⟩ : ∃ v, v = L.getD n default := ⟨_, rfl⟩
      rw [← hv] at hE hrt HNx
      obtain ⟨c0, c1, c2, c3⟩ := hE
      have h1 := HR.out v hrt
      have h2 := HS.out v hrt
      rw [hrt.1] at h1
      have H1 := Lib.hid h1
      have H2 := Lib.hid h2
      have HBV := Lib.hid (Boxed.new v.k v.i v.s v.b wr 34)
      obtain ⟨z, hz⟩ : ∃ z, z = (keysL (L.take n)).length := ⟨_, rfl⟩
      obtain ⟨y, hy⟩ : ∃ y, y = (keyV v).length := ⟨_, rfl⟩
      have hzy : (keysL (L.take (n + 1))).length = z + y := by rw [HNx.out, List.length_append, hz, hy]
      have HZY := Lib.hid hzy
      have hzk : z + y ≤ K := by rw [← hzy]; exact HKm.out
      rw [← hz]
      have ev : (⟨v.k, v.i, v.s, v.b⟩ : Vd) = v := rfl
      rw [ev, ← hy] at H2
      have HSz : Hid (wr.heap.size < (wr.alloc (.cells #[.int .i64 v.k, .int .i64 v.i, .string v.s, .bool v.b] 34)).heap.size) := Lib.hid (by simp)
      clear hv hrt h1 h2 hz hy hzy ev
      go_wp2_with fail
      refine (H1.out _).mono ?_
      rintro e w1 ⟨rfl, k1⟩
      obtain ⟨b0, b1, b2, b3⟩ := HBV.out.below k1 HSz.out
      have HB1 := Lib.hid ((HB.out.alloc HB.out.size (.cells #[.int .i64 v.k, .int .i64 v.i, .string v.s, .bool v.b] 34)).trans (k1.mono (by have := HB.out.size; simp; omega)))
      clear c0 c1 c2 c3 k1
      go_wp2_with fail
      refine (H2.out _).mono ?_
      rintro e w2 ⟨rfl, k2⟩
      have HB2 := Lib.hid (HB1.out.trans (k2.mono HB1.out.size))
      clear b0 b1 b2 b3 k2
      go_wp2_with fail
      go_roundw
      case rel => exact ⟨n + 1, by omega, by go_num, by rw [HZY.out]; go_num, HB2⟩
      case measure => simp [intOf]; omega
    case neg =>
      obtain rfl : n = len := by omega
      have HKn : Hid ((keysL (L.take n)).length = K) := Lib.hid (by rw [HK.out, List.take_of_length_le (by rw [HL.out]; exact Nat.le_refl _)])
      rw [HKn.out]
      have hmk := make_bytes K hK wr
      obtain ⟨g, hg⟩ : ∃ g, g = wr.heap.size := ⟨_, rfl⟩
      have H0 := Lib.hid (Holds.made wr K)
      have HB1 := Lib.hid (HB.out.alloc HB.out.size (.cells (madeCells #[.int .u8 0] K) 5))
      have HGw : Hid (w.heap.size ≤ g) := Lib.hid (by rw [hg]; exact HB.out.size)
      rw [← hg] at hmk H0
      have HPut := Lib.hid (fun (m : Nat) (p : List UInt8) (v : Vd) w1 (hv : rightD v) (len : Nat) (hlen : len = m + (keyV v).length) (h : Holds g (p ++ List.replicate len 0) w1) (hl : len ≤ 819500000) (hb : Below w.heap.size w w1) => put_calls g len m len p v w1 hv hlen h (Nat.le_refl _) (by omega) (HM.out _ hb) (by have := HMg.out; have := HGw.out; omega))
      clear hg HR HS HB HM
      go_wp2_with fail
      go_loopw [7, 28] (fun z i w3 => ∃ (n' : Nat), n' ≤ n ∧ i = .int .i64 n' ∧ z = .int .i64 ((keysL (L.take n')).length : Nat) ∧ Hid (Holds g (keysL (L.take n') ++ List.replicate (K - (keysL (L.take n')).length) 0) w3) ∧ Hid (Below w.heap.size w w3)) (fun _ i _ => n - (intOf i).toNat)
      case atStart => exact ⟨0, Nat.zero_le _, rfl, rfl, Lib.hid (by simpa [keysL] using H0.out), HB1⟩
      case round =>
        clear H0 HB1 h hn hmk
        obtain ⟨n', hn, rfl, rfl, H, HB⟩ := hrel
        by_cases h : n' < n
        case neg =>
          obtain rfl : n' = n := by omega
          go_wp2_with fail
          go_ret
          refine ⟨⟨g, rfl, HGw.out, ?_⟩, HB.out⟩
          have h5 := H.out
          rw [HKn.out, Nat.sub_self, List.take_of_length_le (by rw [HL.out]; exact Nat.le_refl _)] at h5
          simpa using h5
        case pos =>
          obtain ⟨g0, off0, rfl, hE⟩ := (HV.out.below HB.out).at' h
          have hrt := allD_at HAll.out (n := n') (by rw [HL.out]; exact h)
          have HNx := Lib.hid (keys_next L n' (by rw [HL.out]; exact h))
          have HKm : Hid ((keysL (L.take (n' + 1))).length ≤ K) := Lib.hid (by rw [HK.out]; exact keys_part L (n' + 1))
          obtain ⟨v, hv⟩ : ∃ v, v = L.getD n' default := ⟨_, rfl⟩
          rw [← hv] at hE hrt HNx
          obtain ⟨c0, c1, c2, c3⟩ := hE
          have HBV := Lib.hid (Boxed.new v.k v.i v.s v.b wr 34)
          have hgl : g < wr.heap.size := H.out.lt
          have HGl := Lib.hid hgl
          have hy2 := key_pos hrt
          obtain ⟨p, hp⟩ : ∃ p, p = keysL (L.take n') := ⟨_, rfl⟩
          rw [← hp] at H HNx ⊢
          obtain ⟨z, hz⟩ : ∃ z, z = p.length := ⟨_, rfl⟩
          obtain ⟨y, hy⟩ : ∃ y, y = (keyV v).length := ⟨_, rfl⟩
          have hzy : (keysL (L.take (n' + 1))).length = z + y := by rw [HNx.out, List.length_append, hz, hy]
          have HZY := Lib.hid hzy
          have hzk : z + y ≤ K := by rw [← hzy]; exact HKm.out
          have HP := Lib.hid (fun w1 (h : Holds g (p ++ List.replicate (K - z) 0) w1) (hb : Below w.heap.size w w1) => HPut.out (K - z - y) p v w1 hrt (K - z) (by rw [← hy]; omega) h (by omega) hb)
          rw [← hy] at HP hy2
          rw [← hz] at HP H ⊢
          have hne : ¬ K = z := by omega
          have i1 : (0 : Int) ≤ (z : Int) := by omega
          have i2 : (z : Int) ≤ (K : Int) := by omega
          have hwr : IntKind.i64.wrap ((z : Int) + (y : Int)) = (z : Int) + (y : Int) := by rw [IntKind.wrap_i64]; omega
          have HA := Lib.hid (HB.out.alloc HB.out.size (.cells #[.int .i64 v.k, .int .i64 v.i, .string v.s, .bool v.b] 34))
          have HH := Lib.hid (H.out.alloc (.cells #[.int .i64 v.k, .int .i64 v.i, .string v.s, .bool v.b] 34))
          have HSz : Hid (w.heap.size ≤ (wr.alloc (.cells #[.int .i64 v.k, .int .i64 v.i, .string v.s, .bool v.b] 34)).heap.size) := Lib.hid HA.out.size
          clear hv hp hz hy hzy hrt hgl
          go_wp2_with fail
          go_region_held3 (fun w1 => w1.cell? ⟨wr.heap.size, 0, none⟩ = some (.int .i64 v.k) ∧ w1.cell? ⟨wr.heap.size, 1, none⟩ = some (.int .i64 v.i) ∧ w1.cell? ⟨wr.heap.size, 2, none⟩ = some (.string v.s) ∧ w1.cell? ⟨wr.heap.size, 3, none⟩ = some (.bool v.b)) (first | exact HB5.out | exact HBV.out) (first
            | (go_at_call 52; refine (HP.out _ HH.out.drew HA.out.drew).mono ?_; rintro e w4 ⟨rfl, k5, k6⟩; have HB5 := Lib.hid (k6.boxed HBV.out.drew (by have := HGl.out; omega)); have HH5 := Lib.hid k5; have HW := Lib.hid (k6.to HA.out.drew HSz.out HGw.out); clear k5 k6))
          go_wp2_with fail
          go_roundw
          case rel => exact ⟨n' + 1, by omega, by go_num, by rw [HZY.out]; go_num, Lib.hid (by rw [HZY.out, HNx.out, show K - (z + y) = K - z - y by omega]; exact HH5.out), HW⟩
          case measure => simp [intOf]; omega
end Go.Proofs.YtjohiehlnbgdaaaDoor

/- KeyRow -/
namespace Go.Proofs.YtjohiehlnbgdaaaDoor
open Go.RowKit
set_option linter.unusedVariables false

theorem ownsRow_below {B : Nat} {t : TypeId} {k : Nat} {v : Value} {n : Nat} {xs : List Value} {w w' : World} (h : w.ownsRow B t k v n xs) (hb : Below w.heap.size w w') : w'.ownsRow B t k v n xs := by
  obtain ⟨hl, hown⟩ := h
  refine ⟨hl, ?_⟩
  rcases hown with hn | ⟨g, cap, cur, rfl, h1, hg, rest⟩
  · exact .inl hn
  · have hglt : g < w.heap.size := (Array.getElem?_eq_some_iff.1 hg).1
    exact .inr ⟨g, cap, cur, rfl, h1, by rw [hb.block g hglt]; exact hg, rest⟩
theorem new_cell (w : World) (v : Value) (t : TypeId) : (w.alloc (.cells #[v] t)).cell? ⟨w.heap.size, 0, none⟩ = some v := by
  rw [World.cell?_alloc_at (hn := rfl)]; rfl
theorem ownsRow_drewN {B : Nat} {t : TypeId} {k : Nat} {v : Value} {n : Nat} {xs : List Value} {w : World} (h : w.ownsRow B t k v n xs) (m : Nat) : (w.drewN m).ownsRow B t k v n xs := h
/-- The bytes that the call has gathered, as a text. -/
theorem owned_text {B : Nat} {v : Value} {t : List UInt8} {w : World} (h : w.ownsRow B 5 1 v t.length (Lib.byteCells t)) :
    (convert 32 9 v).run Tryd.prog w = .ok (.string ⟨t.toArray⟩) w := by
  obtain ⟨hl, hown⟩ := h
  rcases hown with ⟨rfl, h0⟩ | ⟨g, cap, cur, rfl, h1, hg, hcap, hm, hsz, htk⟩
  · have : t = [] := List.length_eq_zero_iff.1 h0
    subst this
    rw [run_convert_bytes_string w 32 9 5 none 0 0 Tryd.underlying32 Tryd.underlying5 Tryd.underlying9]
    simp [Conv.bytesToString]
    rfl
  · refine run_convert_bytes_back w 32 9 5 ⟨g, 0, none⟩ cap t Tryd.underlying32 Tryd.underlying5 Tryd.underlying9 fun j hj => ?_
    have hadd : (⟨g, 0, none⟩ : Addr).add j = ⟨g, j, none⟩ := by unfold Addr.add; split <;> simp_all
    rw [hadd, cell_of_row w g j cur 5 (0, 0) hg]
    have h2 : (Lib.byteCells t)[j]? = some (.int .u8 (t[j].toNat : Int)) := by simp [Lib.byteCells, hj]
    rw [← htk, Nat.mul_one, List.getElem?_take, if_pos hj] at h2
    simpa using h2
theorem owned_len {B : Nat} {v : Value} {n : Nat} {xs : List Value} {w : World} {t : TypeId} {k : Nat} (h : w.ownsRow B t k v n xs) : ∃ a c, v = .slice a n c := by
  obtain ⟨_, hown⟩ := h
  rcases hown with ⟨rfl, rfl⟩ | ⟨g, cap, cur, rfl, _⟩
  · exact ⟨none, 0, rfl⟩
  · exact ⟨_, cap, rfl⟩
end Go.Proofs.YtjohiehlnbgdaaaDoor

/- KeyOwn -/
namespace Go.Proofs.YtjohiehlnbgdaaaDoor
open Go.RowKit
set_option linter.unusedVariables false

theorem own_base {B B' : Nat} {t : TypeId} {k : Nat} {v : Value} {n : Nat} {xs : List Value} {w : World} (h : w.ownsRow B t k v n xs) (hb : B' ≤ B) : w.ownsRow B' t k v n xs := by
  obtain ⟨hl, hown⟩ := h
  refine ⟨hl, ?_⟩
  rcases hown with hn | ⟨g, cap, cur, rfl, h1, rest⟩
  · exact .inl hn
  · exact .inr ⟨g, cap, cur, rfl, Nat.le_trans hb h1, rest⟩
/-- A slice that has just been built is the call's own. -/
theorem own_new {B : Nat} (w : World) (x : Int) (c : UInt8) (hx : x = c.toNat) (hB : B ≤ w.heap.size) : (w.alloc (.cells #[.int .u8 x] 5)).ownsRow B 5 1 (.slice (some ⟨w.heap.size, 0, none⟩) 1 1) [c].length (Lib.byteCells [c]) := by
  subst hx
  exact ⟨rfl, .inr ⟨w.heap.size, 1, #[.int .u8 c.toNat], rfl, hB, heap_alloc_new w _, Nat.le_refl _, by unfold maxLen; omega, rfl, rfl⟩⟩
theorem new_byte (w : World) (x : Int) (c : UInt8) (hx : x = c.toNat) (g : Nat) (hg : g = w.heap.size) : ∀ j u, (Lib.byteCells [c])[j]? = some u → (w.alloc (.cells #[.int .u8 x] 5)).cell? ((⟨g, 0, none⟩ : Addr).add j) = some u := by
  subst hx hg
  intro j u hj
  have hadd : (⟨w.heap.size, 0, none⟩ : Addr).add j = ⟨w.heap.size, j, none⟩ := by unfold Addr.add; split <;> simp_all
  rw [hadd, World.cell?_alloc_at (hn := rfl)]
  simpa [Lib.byteCells] using hj
theorem new_byte2 (w : World) (x y : Int) (c d : UInt8) (hx : x = c.toNat) (hy : y = d.toNat) (g : Nat) (hg : g = w.heap.size) : ∀ j u, (Lib.byteCells [c, d])[j]? = some u → (w.alloc (.cells #[.int .u8 x, .int .u8 y] 5)).cell? ((⟨g, 0, none⟩ : Addr).add j) = some u := by
  subst hx hy hg
  intro j u hj
  have hadd : (⟨w.heap.size, 0, none⟩ : Addr).add j = ⟨w.heap.size, j, none⟩ := by unfold Addr.add; split <;> simp_all
  rw [hadd, World.cell?_alloc_at (hn := rfl)]
  simpa [Lib.byteCells] using hj
theorem owned_cells {B : Nat} {v : Value} {t : List UInt8} {w : World} {g cap : Nat} (h : w.ownsRow B 5 1 v t.length (Lib.byteCells t)) (hv : v = .slice (some ⟨g, 0, none⟩) t.length cap) : ∀ j u, (Lib.byteCells t)[j]? = some u → w.cell? ((⟨g, 0, none⟩ : Addr).add j) = some u := by
  subst hv
  obtain ⟨hl, hown⟩ := h
  rcases hown with ⟨e, _⟩ | ⟨g', cap', cur, e, h1, hg, hcap, hm, hsz, htk⟩
  · cases e
  · cases e
    intro j u hj
    have hadd : (⟨g, 0, none⟩ : Addr).add j = ⟨g, j, none⟩ := by unfold Addr.add; split <;> simp_all
    have hlt : j < t.length := by have := (List.getElem?_eq_some_iff.1 hj).1; simpa [Lib.byteCells] using this
    rw [hadd, cell_of_row w g j cur 5 (0, 0) hg]
    rw [← htk, Nat.mul_one, List.getElem?_take, if_pos hlt] at hj
    simpa using hj
theorem byteCells_one (t : List UInt8) : ∀ u ∈ Lib.byteCells t, u.oneCell' = true := by
  intro u hu
  obtain ⟨x, _, rfl⟩ := List.mem_map.1 hu
  rfl
/-- append, of bytes that lie somewhere, to bytes of the call's own. -/
theorem wpList_append_bytes {w : World} {ops : Array Oper} {rest : List Oper} {o : Oper} {a : Act} {Q : Exit → Act → World → Prop} (hgd : o.guard = none) (s x : Operand)
    (ho : o.op = .call { callee := .builtin .append, args := #[s, x], argTypes := #[32, 32] }) (B : Nat) (v : Value) (t : List UInt8) (hs : a.eval s = v) (hown : w.ownsRow B 5 1 v t.length (Lib.byteCells t))
    (ad : Addr) (m c : Nat) (news : List UInt8) (hx : a.eval x = .slice (some ad) m c) (hl : news.length = m) (hnews : ∀ j u, (Lib.byteCells news)[j]? = some u → w.cell? (ad.add j) = some u) (hsz : t.length + m ≤ 1000000000) (hbase : B ≤ w.heap.size) (A : Nat) (w0 : World) (hb : Below A w0 w) (hA : A ≤ B) (r : List UInt8) (hr : r = t ++ news)
    (h : ∀ v' w', Hid (w'.ownsRow B 5 1 v' r.length (Lib.byteCells r)) → Hid (Below A w0 w') → wpList Tryd.prog ops Q rest (a.put o.dst v') w') : wpList Tryd.prog ops Q (o :: rest) a w := by
  subst hr
  obtain ⟨i0, hi, hz0, hz1, hz2⟩ := info_parts infoU8
  refine wpList_append_own _ hgd s x 32 ho B 5 i0 (.int .u8 0) 1 1 Tryd.underlying32 hi hz0 hz1 hz2 rfl (by decide) v t.length (Lib.byteCells t) hs hown ad m c (Lib.byteCells news) hx (by rw [Lib.byteCells_length, hl, Nat.mul_one]) hnews (byteCells_one _) (by unfold maxLen; omega) (by omega) hbase ?_
  intro v' w' h1 h2 _
  refine h v' w' (Lib.hid ?_) (Lib.hid (hb.grown h2 (Nat.le_trans hA hbase) (fun k hk => Nat.le_trans hA (hown.lt k hk).1)))
  rw [List.length_append, hl]
  have : Lib.byteCells (t ++ news) = Lib.byteCells t ++ Lib.byteCells news := by simp [Lib.byteCells]
  rw [this]
  exact h1

/-- A value in a block of the call's own, below which, and it, the world is as it was. -/
def BxB (w : World) (v : Vd) (wr : World) : Prop := Below (w.heap.size + 1) (w.alloc (.cells #[.int .i64 v.k, .int .i64 v.i, .string v.s, .bool v.b] 34)) wr
theorem BxB.new (w : World) (v : Vd) : BxB w v (w.alloc (.cells #[.int .i64 v.k, .int .i64 v.i, .string v.s, .bool v.b] 34)) := Below.refl _ _
theorem BxB.boxed {w wr : World} {v : Vd} (h : BxB w v wr) : Boxed w.heap.size v.k v.i v.s v.b wr := (Boxed.new _ _ _ _ _ _).below h (by omega)
theorem BxB.to {w wr : World} {v : Vd} (h : BxB w v wr) : Below w.heap.size w wr := ((Below.refl w.heap.size w).alloc (Nat.le_refl _) _).trans (h.mono (by omega))
theorem BxB.size {w wr : World} {v : Vd} (h : BxB w v wr) : w.heap.size + 1 ≤ wr.heap.size := by
  have := Below.size h
  simpa using this
end Go.Proofs.YtjohiehlnbgdaaaDoor

/- KeyRefKey -/
namespace Go.Proofs.YtjohiehlnbgdaaaDoor
open Go.RowKit
set_option linter.unusedVariables false

/-- Bytes of the call's own, as its answer. -/
def OwnPost (l : List UInt8) (B : Nat) (w : World) (e : Ending) (w' : World) : Prop :=
  ∃ o, e = .returned o ∧ w'.ownsRow B 5 1 o l.length (Lib.byteCells l) ∧ Below B w w'

set_option maxHeartbeats 1000000 in
theorem refKey3_calls (b : Bool) (w : World) :
    Calls Tryd.prog 19 #[.agg #[.int .i64 3, .int .i64 0, .string ⟨#[]⟩, .bool b]] w (OwnPost [3, if b = true then 1 else 0] w.heap.size w) := by
  cases b
  · have HX1 : Hid (BxB w ⟨3, 0, ⟨#[]⟩, false⟩ ((w.alloc (.cells #[.int .i64 3, .int .i64 0, .string ⟨#[]⟩, .bool false] 34)).alloc (.cells #[.int .u8 3] 5))) := Lib.hid (Below.alloc (BxB.new w ⟨3, 0, ⟨#[]⟩, false⟩) (by simp) _)
    obtain ⟨q, hq⟩ : ∃ q : List UInt8, q = [3] := ⟨_, rfl⟩
    have HQ := Lib.hid hq
    have HO : Hid (((w.alloc (.cells #[.int .i64 3, .int .i64 0, .string ⟨#[]⟩, .bool false] 34)).alloc (.cells #[.int .u8 3] 5)).ownsRow (w.heap.size + 1) 5 1 (.slice (some ⟨w.heap.size + 1, 0, none⟩) 1 1) q.length (Lib.byteCells q)) := Lib.hid (by
      have h := own_new (B := w.heap.size + 1) (w.alloc (.cells #[.int .i64 3, .int .i64 0, .string ⟨#[]⟩, .bool false] 34)) 3 3 rfl (by simp)
      rw [hq]
      simpa using h)
    clear hq
    obtain ⟨r, hr⟩ : ∃ r, r = q ++ [0] := ⟨_, rfl⟩
    have HR := Lib.hid hr
    have hq1 : q.length = 1 := by rw [HQ.out]; rfl
    clear hr
    go_enter Tryd.func19, Tryd.ntmps19
    go_wp2_with (at_builtin; refine wpList_append_bytes rfl _ _ rfl (w.heap.size + 1) _ q rfl (HO.out.alloc _) _ 1 1 [0] rfl rfl (new_byte _ _ 0 rfl _ (by simp)) (by omega) (by simp <;> omega) (w.heap.size + 1) (w.alloc (.cells #[.int .i64 3, .int .i64 0, .string ⟨#[]⟩, .bool false] 34)) (Below.alloc HX1.out (by simp <;> omega) _) (Nat.le_refl _) r HR.out ?_)
    intro v' w2 HO2 HB2
    go_wp2_with fail
    go_ret
    have h5 := HO2.out
    rw [HR.out, HQ.out] at h5
    exact ⟨_, rfl, own_base h5 (by omega), BxB.to (v := ⟨3, 0, ⟨#[]⟩, false⟩) HB2.out⟩
  · have HX1 : Hid (BxB w ⟨3, 0, ⟨#[]⟩, true⟩ ((w.alloc (.cells #[.int .i64 3, .int .i64 0, .string ⟨#[]⟩, .bool true] 34)).alloc (.cells #[.int .u8 3] 5))) := Lib.hid (Below.alloc (BxB.new w ⟨3, 0, ⟨#[]⟩, true⟩) (by simp) _)
    obtain ⟨q, hq⟩ : ∃ q : List UInt8, q = [3] := ⟨_, rfl⟩
    have HQ := Lib.hid hq
    have HO : Hid (((w.alloc (.cells #[.int .i64 3, .int .i64 0, .string ⟨#[]⟩, .bool true] 34)).alloc (.cells #[.int .u8 3] 5)).ownsRow (w.heap.size + 1) 5 1 (.slice (some ⟨w.heap.size + 1, 0, none⟩) 1 1) q.length (Lib.byteCells q)) := Lib.hid (by
      have h := own_new (B := w.heap.size + 1) (w.alloc (.cells #[.int .i64 3, .int .i64 0, .string ⟨#[]⟩, .bool true] 34)) 3 3 rfl (by simp)
      rw [hq]
      simpa using h)
    clear hq
    obtain ⟨r, hr⟩ : ∃ r, r = q ++ [1] := ⟨_, rfl⟩
    have HR := Lib.hid hr
    have hq1 : q.length = 1 := by rw [HQ.out]; rfl
    clear hr
    go_enter Tryd.func19, Tryd.ntmps19
    go_wp2_with (at_builtin; refine wpList_append_bytes rfl _ _ rfl (w.heap.size + 1) _ q rfl (HO.out.alloc _) _ 1 1 [1] rfl rfl (new_byte _ _ 1 rfl _ (by simp)) (by omega) (by simp <;> omega) (w.heap.size + 1) (w.alloc (.cells #[.int .i64 3, .int .i64 0, .string ⟨#[]⟩, .bool true] 34)) (Below.alloc HX1.out (by simp <;> omega) _) (Nat.le_refl _) r HR.out ?_)
    intro v' w2 HO2 HB2
    go_wp2_with fail
    go_ret
    have h5 := HO2.out
    rw [HR.out, HQ.out] at h5
    exact ⟨_, rfl, own_base h5 (by omega), BxB.to (v := ⟨3, 0, ⟨#[]⟩, true⟩) HB2.out⟩

set_option maxHeartbeats 4000000 in
set_option maxRecDepth 100000 in
theorem refKey2_calls (s : ByteArray) (w : World) (hs : s.size ≤ 4096) :
    Calls Tryd.prog 19 #[.agg #[.int .i64 2, .int .i64 0, .string s, .bool false]] w (OwnPost (2 :: (escL s.toList ++ [0, 1])) w.heap.size w) := by
  obtain ⟨l, hl⟩ : ∃ l, l = s.toList := ⟨_, rfl⟩
  have hln : l.length = s.size := by rw [hl, tl_len]
  rw [← hl]
  have HL := Lib.hid hl
  have HLN := Lib.hid hln
  clear hl hln
  have HX1 : Hid (BxB w ⟨2, 0, s, false⟩ ((w.alloc (.cells #[.int .i64 2, .int .i64 0, .string s, .bool false] 34)).alloc (.cells #[.int .u8 2] 5))) := Lib.hid (Below.alloc (BxB.new w ⟨2, 0, s, false⟩) (by simp) _)
  obtain ⟨q, hq⟩ : ∃ q : List UInt8, q = [2] := ⟨_, rfl⟩
  have HQ := Lib.hid hq
  have HO : Hid (((w.alloc (.cells #[.int .i64 2, .int .i64 0, .string s, .bool false] 34)).alloc (.cells #[.int .u8 2] 5)).ownsRow (w.heap.size + 1) 5 1 (.slice (some ⟨w.heap.size + 1, 0, none⟩) 1 1) q.length (Lib.byteCells q)) := Lib.hid (by
    have h := own_new (B := w.heap.size + 1) (w.alloc (.cells #[.int .i64 2, .int .i64 0, .string s, .bool false] 34)) 2 2 rfl (by simp)
    rw [hq]
    simpa using h)
  clear hq
  go_enter Tryd.func19, Tryd.ntmps19
  go_wp2_with fail
  go_loopw [3, 4] (fun o i wr => ∃ (k : Nat) (q : List UInt8), k ≤ s.size ∧ i = .int .i64 k ∧ Hid (q = 2 :: escL (l.take k)) ∧ Hid (wr.ownsRow (w.heap.size + 1) 5 1 o q.length (Lib.byteCells q)) ∧ Hid (BxB w ⟨2, 0, s, false⟩ wr)) (fun _ i _ => s.size - (intOf i).toNat)
  case atStart => exact ⟨0, q, Nat.zero_le _, rfl, Lib.hid (by rw [HQ.out]; rfl), HO, HX1⟩
  case round =>
    clear HO HX1 HQ
    obtain ⟨k, q, hk, rfl, HQ, HO, HX⟩ := hrel
    obtain ⟨oa, oc, rfl⟩ := owned_len HO.out
    obtain ⟨x0, x1, x2, x3⟩ := HX.out.boxed
    simp only at x0 x1 x2 x3
    have htl : q.length ≤ 10000 := by
      have h1 := escL_le (l.take k)
      rw [List.length_take, HLN.out] at h1
      rw [HQ.out, List.length_cons]
      omega
    by_cases h : k < s.size
    case neg =>
      have HE : Hid (l.take k = l) := Lib.hid (List.take_of_length_le (by rw [HLN.out]; omega))
      have t1 : decide (k < s.size) = false := by simpa using h
      obtain ⟨r, hr⟩ : ∃ r, r = q ++ [0, 1] := ⟨_, rfl⟩
      have HR := Lib.hid hr
      clear hr
      go_wp2_with (at_builtin; refine wpList_append_bytes rfl _ _ rfl (w.heap.size + 1) _ q rfl (HO.out.alloc _) _ 2 2 [0, 1] rfl rfl (new_byte2 _ _ _ 0 1 rfl rfl _ (by simp)) (by omega) (by have := HX.out.size; simp <;> omega) (w.heap.size + 1) (w.alloc (.cells #[.int .i64 2, .int .i64 0, .string s, .bool false] 34)) (Below.alloc HX.out HX.out.size _) (Nat.le_refl _) r HR.out ?_)
      intro v' w2 HO2 HB2
      go_wp2_with fail
      go_ret
      have h5 := HO2.out
      rw [HR.out, HQ.out, HE.out] at h5
      exact ⟨_, rfl, own_base h5 (by omega), BxB.to (v := ⟨2, 0, s, false⟩) HB2.out⟩
    case pos =>
      have hkl : k < l.length := by rw [HLN.out]; exact h
      have t1 : decide (k < s.size) = true := by simpa using h
      have hlk : l[k] = s[k] := by have := HL.out; subst this; exact tl_at s k h
      have HNx : Hid (l.take (k + 1) = l.take k ++ [s[k]]) := Lib.hid (by rw [List.take_succ_eq_append_getElem hkl, hlk])
      obtain ⟨r, hr⟩ : ∃ r, r = q ++ [s[k]] := ⟨_, rfl⟩
      have HR := Lib.hid hr
      have hrl : r.length ≤ 20000 := by rw [hr, List.length_append, List.length_singleton]; omega
      clear hlk hkl hr
      go_wp2_with (at_builtin; refine wpList_append_bytes rfl _ _ rfl (w.heap.size + 1) _ q rfl (HO.out.alloc _) _ 1 1 [s[k]] rfl rfl (new_byte _ _ s[k] rfl _ (by simp)) (by omega) (by have := HX.out.size; simp <;> omega) (w.heap.size + 1) (w.alloc (.cells #[.int .i64 2, .int .i64 0, .string s, .bool false] 34)) (Below.alloc HX.out HX.out.size _) (Nat.le_refl _) r HR.out ?_)
      intro v' w2 HO2 HB2
      have HX2 : Hid (BxB w ⟨2, 0, s, false⟩ w2) := HB2
      clear HO HX x0 x1 x2 x3 HB2
      obtain ⟨oa, oc, rfl⟩ := owned_len HO2.out
      obtain ⟨x0, x1, x2, x3⟩ := HX2.out.boxed
      simp only at x0 x1 x2 x3
      by_cases hz : s[k] = 0
      · have t3 : ((s[k].toNat : Int) == 0) = true := by rw [hz]; rfl
        obtain ⟨r2, hr2⟩ : ∃ r2, r2 = r ++ [255] := ⟨_, rfl⟩
        have HR2 := Lib.hid hr2
        have HE : Hid (r2 = 2 :: escL (l.take (k + 1))) := Lib.hid (by rw [hr2, HR.out, HQ.out, HNx.out, escL_app, hz, escL_zero]; simp [escL])
        clear hz hr2
        go_wp2_with (at_builtin; refine wpList_append_bytes rfl _ _ rfl (w.heap.size + 1) _ r rfl (HO2.out.alloc _) _ 1 1 [255] rfl rfl (new_byte _ _ 255 rfl _ (by simp)) (by omega) (by have := HX2.out.size; simp <;> omega) (w.heap.size + 1) (w.alloc (.cells #[.int .i64 2, .int .i64 0, .string s, .bool false] 34)) (Below.alloc HX2.out HX2.out.size _) (Nat.le_refl _) r2 HR2.out ?_)
        intro v' w3 HO3 HB3
        clear HO2 HX2
        go_wp2_with fail
        go_roundw
        case rel => exact ⟨k + 1, r2, by omega, by go_num, HE, HO3, HB3⟩
        case measure => simp [intOf]; omega
      · have t3 : ((s[k].toNat : Int) == 0) = false := by
          rw [beq_eq_false_iff_ne]; intro e; exact hz (UInt8.toNat_inj.1 (by show s[k].toNat = 0; omega))
        have HE : Hid (r = 2 :: escL (l.take (k + 1))) := Lib.hid (by rw [HR.out, HQ.out, HNx.out, escL_app, escL_else hz]; simp [escL])
        clear hz
        go_wp2_with fail
        go_roundw
        case rel => exact ⟨k + 1, r, by omega, by go_num, HE, HO2, HX2⟩
        case measure => simp [intOf]; omega

set_option maxHeartbeats 4000000 in
set_option maxRecDepth 100000 in
theorem refKey1_calls (i0 : Int) (w : World) (hi : -9223372036854775808 ≤ i0 ∧ i0 ≤ 9223372036854775807) :
    Calls Tryd.prog 19 #[.agg #[.int .i64 1, .int .i64 i0, .string ⟨#[]⟩, .bool false]] w (OwnPost (1 :: numL 8 (i0 + 9223372036854775808).toNat) w.heap.size w) := by
  obtain ⟨u, hu⟩ : ∃ u, u = (i0 + 9223372036854775808).toNat := ⟨_, rfl⟩
  rw [← hu]
  have hu2 : u < 18446744073709551616 := by omega
  have hwrap : IntKind.u64.wrap (IntKind.u64.wrap i0 + 9223372036854775808) = u := by
    rw [IntKind.wrap_u64, IntKind.wrap_u64]; omega
  have HE : Hid ((numL 8 u).take 8 = numL 8 u) := Lib.hid (List.take_of_length_le (by rw [numL_len]; exact Nat.le_refl _))
  have HX1 : Hid (BxB w ⟨1, i0, ⟨#[]⟩, false⟩ ((w.alloc (.cells #[.int .i64 1, .int .i64 i0, .string ⟨#[]⟩, .bool false] 34)).alloc (.cells #[.int .u8 1] 5))) := Lib.hid (Below.alloc (BxB.new w ⟨1, i0, ⟨#[]⟩, false⟩) (by simp) _)
  obtain ⟨q, hq⟩ : ∃ q : List UInt8, q = [1] := ⟨_, rfl⟩
  have HQ := Lib.hid hq
  have HO : Hid (((w.alloc (.cells #[.int .i64 1, .int .i64 i0, .string ⟨#[]⟩, .bool false] 34)).alloc (.cells #[.int .u8 1] 5)).ownsRow (w.heap.size + 1) 5 1 (.slice (some ⟨w.heap.size + 1, 0, none⟩) 1 1) q.length (Lib.byteCells q)) := Lib.hid (by
    have h := own_new (B := w.heap.size + 1) (w.alloc (.cells #[.int .i64 1, .int .i64 i0, .string ⟨#[]⟩, .bool false] 34)) 1 1 rfl (by simp)
    rw [hq]
    simpa using h)
  clear hq
  clear hu hi
  go_enter Tryd.func19, Tryd.ntmps19
  go_wp2_with fail
  clear hwrap
  go_loopw [3, 6, 7] (fun o d i wr => ∃ (k : Nat) (q : List UInt8), k ≤ 8 ∧ i = .int .i64 k ∧ d = .int .u64 ((72057594037927936 / 256 ^ k : Nat) : Int) ∧ Hid (q = 1 :: (numL 8 u).take k) ∧ Hid (wr.ownsRow (w.heap.size + 1) 5 1 o q.length (Lib.byteCells q)) ∧ Hid (BxB w ⟨1, i0, ⟨#[]⟩, false⟩ wr)) (fun _ _ i _ => 8 - (intOf i).toNat)
  case atStart => exact ⟨0, q, Nat.zero_le _, rfl, rfl, Lib.hid (by rw [HQ.out]; rfl), HO, HX1⟩
  case round =>
    clear HO HX1 HQ
    obtain ⟨k, q, hk, rfl, rfl, HQ, HO, HX⟩ := hrel
    have htl : q.length ≤ 10000 := by
      rw [HQ.out, List.length_cons, List.length_take, numL_len]
      omega
    by_cases h8 : k < 8
    case neg =>
      obtain rfl : k = 8 := by omega
      go_wp2_with fail
      go_ret
      refine ⟨_, rfl, ?_, BxB.to (v := ⟨1, i0, ⟨#[]⟩, false⟩) HX.out⟩
      have h6 := HO.out
      rw [HQ.out, HE.out] at h6
      exact own_base h6 (by omega)
    case pos =>
      obtain ⟨r, hr⟩ : ∃ r, r = q ++ [UInt8.ofNat (u / 256 ^ (7 - k))] := ⟨_, rfl⟩
      have HR := Lib.hid hr
      have HQ2 : Hid (r = 1 :: (numL 8 u).take (k + 1)) := Lib.hid (by
        have hg := numL_get 8 u k h8
        have hlt : k < (numL 8 u).length := by rw [numL_len]; exact h8
        rw [List.getElem?_eq_getElem hlt] at hg
        have hg := Option.some.inj hg
        rw [hr, HQ.out, List.take_succ_eq_append_getElem hlt, hg]
        rfl)
      have hk8 : k = 0 ∨ k = 1 ∨ k = 2 ∨ k = 3 ∨ k = 4 ∨ k = 5 ∨ k = 6 ∨ k = 7 := by omega
      clear hk h8 hr
      rcases hk8 with rfl | rfl | rfl | rfl | rfl | rfl | rfl | rfl
      · have hx : ((u / 72057594037927936 % 256 : Nat) : Int) = ((UInt8.ofNat (u / 256 ^ (7 - 0))).toNat : Int) := by rw [UInt8.toNat_ofNat']
        simp only [Nat.reducePow, Nat.reduceDiv, Nat.reduceSub] at hx HR ⊢
        go_wp2_with (at_builtin; refine wpList_append_bytes rfl _ _ rfl (w.heap.size + 1) _ q rfl (HO.out.alloc _) _ 1 1 [UInt8.ofNat (u / 72057594037927936)] rfl rfl (new_byte _ _ _ (by rw [← hx]; omega) _ (by simp)) (by omega) (by have := HX.out.size; simp <;> omega) (w.heap.size + 1) (w.alloc (.cells #[.int .i64 1, .int .i64 i0, .string ⟨#[]⟩, .bool false] 34)) (Below.alloc HX.out HX.out.size _) (Nat.le_refl _) r HR.out ?_)
        intro v' w3 HO3 HB3
        go_wp2_with fail
        go_roundw
        case rel => exact ⟨1, r, by omega, rfl, rfl, HQ2, HO3, HB3⟩
        case measure => simp [intOf]
      · have hx : ((u / 281474976710656 % 256 : Nat) : Int) = ((UInt8.ofNat (u / 256 ^ (7 - 1))).toNat : Int) := by rw [UInt8.toNat_ofNat']
        simp only [Nat.reducePow, Nat.reduceDiv, Nat.reduceSub] at hx HR ⊢
        go_wp2_with (at_builtin; refine wpList_append_bytes rfl _ _ rfl (w.heap.size + 1) _ q rfl (HO.out.alloc _) _ 1 1 [UInt8.ofNat (u / 281474976710656)] rfl rfl (new_byte _ _ _ (by rw [← hx]; omega) _ (by simp)) (by omega) (by have := HX.out.size; simp <;> omega) (w.heap.size + 1) (w.alloc (.cells #[.int .i64 1, .int .i64 i0, .string ⟨#[]⟩, .bool false] 34)) (Below.alloc HX.out HX.out.size _) (Nat.le_refl _) r HR.out ?_)
        intro v' w3 HO3 HB3
        go_wp2_with fail
        go_roundw
        case rel => exact ⟨2, r, by omega, rfl, rfl, HQ2, HO3, HB3⟩
        case measure => simp [intOf]
      · have hx : ((u / 1099511627776 % 256 : Nat) : Int) = ((UInt8.ofNat (u / 256 ^ (7 - 2))).toNat : Int) := by rw [UInt8.toNat_ofNat']
        simp only [Nat.reducePow, Nat.reduceDiv, Nat.reduceSub] at hx HR ⊢
        go_wp2_with (at_builtin; refine wpList_append_bytes rfl _ _ rfl (w.heap.size + 1) _ q rfl (HO.out.alloc _) _ 1 1 [UInt8.ofNat (u / 1099511627776)] rfl rfl (new_byte _ _ _ (by rw [← hx]; omega) _ (by simp)) (by omega) (by have := HX.out.size; simp <;> omega) (w.heap.size + 1) (w.alloc (.cells #[.int .i64 1, .int .i64 i0, .string ⟨#[]⟩, .bool false] 34)) (Below.alloc HX.out HX.out.size _) (Nat.le_refl _) r HR.out ?_)
        intro v' w3 HO3 HB3
        go_wp2_with fail
        go_roundw
        case rel => exact ⟨3, r, by omega, rfl, rfl, HQ2, HO3, HB3⟩
        case measure => simp [intOf]
      · have hx : ((u / 4294967296 % 256 : Nat) : Int) = ((UInt8.ofNat (u / 256 ^ (7 - 3))).toNat : Int) := by rw [UInt8.toNat_ofNat']
        simp only [Nat.reducePow, Nat.reduceDiv, Nat.reduceSub] at hx HR ⊢
        go_wp2_with (at_builtin; refine wpList_append_bytes rfl _ _ rfl (w.heap.size + 1) _ q rfl (HO.out.alloc _) _ 1 1 [UInt8.ofNat (u / 4294967296)] rfl rfl (new_byte _ _ _ (by rw [← hx]; omega) _ (by simp)) (by omega) (by have := HX.out.size; simp <;> omega) (w.heap.size + 1) (w.alloc (.cells #[.int .i64 1, .int .i64 i0, .string ⟨#[]⟩, .bool false] 34)) (Below.alloc HX.out HX.out.size _) (Nat.le_refl _) r HR.out ?_)
        intro v' w3 HO3 HB3
        go_wp2_with fail
        go_roundw
        case rel => exact ⟨4, r, by omega, rfl, rfl, HQ2, HO3, HB3⟩
        case measure => simp [intOf]
      · have hx : ((u / 16777216 % 256 : Nat) : Int) = ((UInt8.ofNat (u / 256 ^ (7 - 4))).toNat : Int) := by rw [UInt8.toNat_ofNat']
        simp only [Nat.reducePow, Nat.reduceDiv, Nat.reduceSub] at hx HR ⊢
        go_wp2_with (at_builtin; refine wpList_append_bytes rfl _ _ rfl (w.heap.size + 1) _ q rfl (HO.out.alloc _) _ 1 1 [UInt8.ofNat (u / 16777216)] rfl rfl (new_byte _ _ _ (by rw [← hx]; omega) _ (by simp)) (by omega) (by have := HX.out.size; simp <;> omega) (w.heap.size + 1) (w.alloc (.cells #[.int .i64 1, .int .i64 i0, .string ⟨#[]⟩, .bool false] 34)) (Below.alloc HX.out HX.out.size _) (Nat.le_refl _) r HR.out ?_)
        intro v' w3 HO3 HB3
        go_wp2_with fail
        go_roundw
        case rel => exact ⟨5, r, by omega, rfl, rfl, HQ2, HO3, HB3⟩
        case measure => simp [intOf]
      · have hx : ((u / 65536 % 256 : Nat) : Int) = ((UInt8.ofNat (u / 256 ^ (7 - 5))).toNat : Int) := by rw [UInt8.toNat_ofNat']
        simp only [Nat.reducePow, Nat.reduceDiv, Nat.reduceSub] at hx HR ⊢
        go_wp2_with (at_builtin; refine wpList_append_bytes rfl _ _ rfl (w.heap.size + 1) _ q rfl (HO.out.alloc _) _ 1 1 [UInt8.ofNat (u / 65536)] rfl rfl (new_byte _ _ _ (by rw [← hx]; omega) _ (by simp)) (by omega) (by have := HX.out.size; simp <;> omega) (w.heap.size + 1) (w.alloc (.cells #[.int .i64 1, .int .i64 i0, .string ⟨#[]⟩, .bool false] 34)) (Below.alloc HX.out HX.out.size _) (Nat.le_refl _) r HR.out ?_)
        intro v' w3 HO3 HB3
        go_wp2_with fail
        go_roundw
        case rel => exact ⟨6, r, by omega, rfl, rfl, HQ2, HO3, HB3⟩
        case measure => simp [intOf]
      · have hx : ((u / 256 % 256 : Nat) : Int) = ((UInt8.ofNat (u / 256 ^ (7 - 6))).toNat : Int) := by rw [UInt8.toNat_ofNat']
        simp only [Nat.reducePow, Nat.reduceDiv, Nat.reduceSub] at hx HR ⊢
        go_wp2_with (at_builtin; refine wpList_append_bytes rfl _ _ rfl (w.heap.size + 1) _ q rfl (HO.out.alloc _) _ 1 1 [UInt8.ofNat (u / 256)] rfl rfl (new_byte _ _ _ (by rw [← hx]; omega) _ (by simp)) (by omega) (by have := HX.out.size; simp <;> omega) (w.heap.size + 1) (w.alloc (.cells #[.int .i64 1, .int .i64 i0, .string ⟨#[]⟩, .bool false] 34)) (Below.alloc HX.out HX.out.size _) (Nat.le_refl _) r HR.out ?_)
        intro v' w3 HO3 HB3
        go_wp2_with fail
        go_roundw
        case rel => exact ⟨7, r, by omega, rfl, rfl, HQ2, HO3, HB3⟩
        case measure => simp [intOf]
      · have hx : ((u / 1 % 256 : Nat) : Int) = ((UInt8.ofNat (u / 256 ^ (7 - 7))).toNat : Int) := by rw [UInt8.toNat_ofNat']
        simp only [Nat.reducePow, Nat.reduceDiv, Nat.reduceSub] at hx HR ⊢
        go_wp2_with (at_builtin; refine wpList_append_bytes rfl _ _ rfl (w.heap.size + 1) _ q rfl (HO.out.alloc _) _ 1 1 [UInt8.ofNat (u / 1)] rfl rfl (new_byte _ _ _ (by rw [← hx]; omega) _ (by simp)) (by omega) (by have := HX.out.size; simp <;> omega) (w.heap.size + 1) (w.alloc (.cells #[.int .i64 1, .int .i64 i0, .string ⟨#[]⟩, .bool false] 34)) (Below.alloc HX.out HX.out.size _) (Nat.le_refl _) r HR.out ?_)
        intro v' w3 HO3 HB3
        go_wp2_with fail
        go_roundw
        case rel => exact ⟨8, r, by omega, rfl, rfl, HQ2, HO3, HB3⟩
        case measure => simp [intOf]

theorem refKey_calls (v : Vd) (w : World) (hv : rightD v) :
    Calls Tryd.prog 19 #[.agg #[.int .i64 v.k, .int .i64 v.i, .string v.s, .bool v.b]] w (OwnPost (keyV v) w.heap.size w) := by
  rcases right_three hv with ⟨u, hu, rfl, e⟩ | ⟨t, ht, rfl, e⟩ | ⟨b, rfl, e⟩ <;> rw [e]
  · have h := refKey1_calls ((u : Int) - 9223372036854775808) w ⟨by omega, by omega⟩
    rw [show ((u : Int) - 9223372036854775808 + 9223372036854775808).toNat = u by omega] at h
    exact h
  · have h := refKey2_calls ⟨t.toArray⟩ w (by show t.length ≤ _; exact ht)
    rw [tl_mk] at h
    exact h
  · exact refKey3_calls b w
end Go.Proofs.YtjohiehlnbgdaaaDoor
