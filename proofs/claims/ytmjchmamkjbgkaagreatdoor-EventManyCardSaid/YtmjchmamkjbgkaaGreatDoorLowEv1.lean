/- Contracts of a lower layer, several texts in one. -/
import Derived.Test.YtmjchmamkjbgkaaGreatDoorLowEv0
import Derived.Test.YtmjchmamkjbgkaaGreatDoorValData
import Derived.Test.YtmjchmamkjbgkaaGreatDoorLowSc1
import Derived.Test.YtmjchmamkjbgkaaGreatDoorCsvLineMath
import Derived.Test.YtmjchmamkjbgkaaGreatDoorCsvOwn
import Derived.Deep.RegionHeld3
import Derived.OwnWalk
import Derived.Deep.CutRange
import Derived.BigQuiet
import Derived.Shelf.Abstract
/- EvMath -/
namespace Go.Proofs.YtmjchmamkjbgkaaGreatDoor
open Go.RowKit
set_option linter.unusedVariables false

/-- An event: its name, and its arguments. -/
abbrev Ev := ByteArray × List Vd
theorem pe_cases (l : List UInt8) : pe l = 0 ∨ pe l = 4 ∨ pe l = 5 := by
  unfold pe
  split
  · split
    · exact .inl rfl
    · exact .inr (.inr rfl)
  · exact .inr (.inl rfl)
def peN (l : List UInt8) : Nat := (pe l).toNat
theorem pe_nat (l : List UInt8) : pe l = (peN l : Int) := by
  unfold peN
  rcases pe_cases l with h | h | h <;> rw [h] <;> rfl
/-- The value of a kind that a field stands for, and what is wrong. -/
def argV (k : Int) (f : List UInt8) : Vd × Nat :=
  if k = 2 then (if 4096 < f.length then (none0, 3) else (⟨2, 0, ⟨f.toArray⟩, false⟩, 0))
  else if k = 3 then (if f = tru then (⟨3, 0, ⟨#[]⟩, true⟩, 0) else if f = fls then (⟨3, 0, ⟨#[]⟩, false⟩, 0) else (none0, 4))
  else if peN f = 0 then (⟨1, pn f, ⟨#[]⟩, false⟩, 0) else (none0, peN f)
theorem noKind_three {k : Int} (h : noKind k = false) : k = 1 ∨ k = 2 ∨ k = 3 := by
  unfold noKind at h
  simp at h
  omega
theorem none0_fits : none0.s.size ≤ 9223372036854775807 ∧ -9223372036854775808 ≤ none0.i ∧ none0.i ≤ 9223372036854775807 := by decide
theorem argV_err (k : Int) (f : List UInt8) (h : (argV k f).2 ≠ 0) : (argV k f).1 = none0 := by
  unfold argV at h ⊢
  split
  · split
    · rfl
    · rename_i h1 h2; rw [if_pos h1, if_neg h2] at h; exact absurd rfl h
  · rename_i h1
    rw [if_neg h1] at h
    split
    · rename_i h2
      rw [if_pos h2] at h
      split
      · rename_i h3; rw [if_pos h3] at h; exact absurd rfl h
      · rename_i h3
        rw [if_neg h3] at h
        split
        · rename_i h4; rw [if_pos h4] at h; exact absurd rfl h
        · rfl
    · rename_i h2
      rw [if_neg h2] at h
      split
      · rename_i h3; rw [if_pos h3] at h; exact absurd rfl h
      · rfl
/-- What a field of a kind stands for may be, is of that kind, and its text is the field. -/
def fieldE (v : Vd) : List UInt8 := if v.k = 2 then v.s.data.toList else valText v.k v.i v.s v.b
theorem arg_good {k : Int} (hk : k = 1 ∨ k = 2 ∨ k = 3) {f : List UInt8} (h : (argV k f).2 = 0) : rightD (argV k f).1 ∧ (argV k f).1.k = k ∧ fieldE (argV k f).1 = f := by
  rcases hk with rfl | rfl | rfl
  · unfold argV at h ⊢
    rw [if_neg (by decide), if_neg (by decide)] at h ⊢
    by_cases hp : peN f = 0
    · rw [if_pos hp]
      have hp' : pe f = 0 := by rw [pe_nat, hp]; rfl
      obtain ⟨h1, h2⟩ := pe_zero hp'
      have hr : rightB 1 (pn f) ⟨#[]⟩ false = true := by simp [rightB]
      refine ⟨⟨hr, h2⟩, rfl, ?_⟩
      show (if (1 : Int) = 2 then _ else valText 1 (pn f) ⟨#[]⟩ false) = f
      rw [if_neg (by decide)]
      unfold valText
      rw [if_pos hr, if_pos rfl]
      exact h1
    · rw [if_neg hp] at h
      exact absurd h hp
  · unfold argV at h ⊢
    rw [if_pos rfl] at h ⊢
    by_cases hl : 4096 < f.length
    · rw [if_pos hl] at h; cases h
    · rw [if_neg hl]
      exact ⟨right_text (by omega), rfl, rfl⟩
  · unfold argV at h ⊢
    rw [if_neg (by decide), if_pos rfl] at h ⊢
    have hr : ∀ b, rightB 3 0 ⟨#[]⟩ b = true := fun b => by simp [rightB]
    have ht : ∀ b, fieldE ⟨3, 0, ⟨#[]⟩, b⟩ = if b = true then tru else fls := fun b => by
      show (if (3 : Int) = 2 then _ else valText 3 0 ⟨#[]⟩ b) = _
      rw [if_neg (by decide)]
      unfold valText
      rw [if_pos (hr b), if_neg (by decide), if_neg (by decide)]
    by_cases h1 : f = tru
    · rw [if_pos h1]
      exact ⟨right_bool true, rfl, by rw [ht, h1]; rfl⟩
    · rw [if_neg h1] at h ⊢
      by_cases h2 : f = fls
      · rw [if_pos h2]
        exact ⟨right_bool false, rfl, by rw [ht, h2]; rfl⟩
      · rw [if_neg h2] at h; cases h
/-- .. and a value that may be is what its field stands for. -/
theorem arg_back {v : Vd} (h : rightD v) : argV v.k (fieldE v) = (v, 0) := by
  obtain ⟨k, i, s, b⟩ := v
  obtain ⟨h, hi⟩ := h
  simp only at h hi
  have hsz := right_size h
  rcases right_cases h with ⟨rfl, e, rfl⟩ | ⟨rfl, rfl, rfl⟩ | ⟨rfl, rfl, e⟩
  · obtain rfl := tl_nil e
    have ht : fieldE ⟨1, i, ⟨#[]⟩, false⟩ = Lib.itoa i := by
      show (if (1 : Int) = 2 then _ else valText 1 i ⟨#[]⟩ false) = _
      rw [if_neg (by decide)]
      unfold valText
      rw [if_pos h, if_pos rfl]
    have hp : peN (Lib.itoa i) = 0 := by unfold peN; rw [pe_itoa i hi]; rfl
    rw [ht]
    show argV 1 (Lib.itoa i) = _
    unfold argV
    rw [if_neg (by decide), if_neg (by decide), if_pos hp, pn_itoa i hi]
  · show argV 2 s.data.toList = _
    unfold argV
    have : s.data.toList.length ≤ 4096 := by rw [← sc_size]; exact hsz
    rw [if_pos rfl, if_neg (by omega)]
  · obtain rfl := tl_nil e
    have ht : fieldE ⟨3, 0, ⟨#[]⟩, b⟩ = if b = true then tru else fls := by
      show (if (3 : Int) = 2 then _ else valText 3 0 ⟨#[]⟩ b) = _
      rw [if_neg (by decide)]
      unfold valText
      rw [if_pos h, if_neg (by decide), if_neg (by decide)]
    rw [ht]
    show argV 3 _ = _
    unfold argV
    rw [if_neg (by decide), if_pos rfl]
    cases b
    · rw [if_neg (by decide), if_pos (by decide)]
    · rw [if_pos (by decide)]

/-- The arguments that fields stand for; or what is wrong, and with which field. -/
def readL : List Int → List (List UInt8) → Nat → Except (Nat × Nat) (List Vd)
  | [], [], _ => .ok []
  | k :: ks, f :: fs, c => if (argV k f).2 = 0 then (match readL ks fs (c + 1) with | .ok A => .ok ((argV k f).1 :: A) | .error e => .error e) else .error ((argV k f).2, c)
  | [], _ :: _, c => .error (12, c)
  | _ :: _, [], c => .error (12, c)
/-- A row's event; or what is wrong, and with which field. -/
def ofL (L : List Dc) : List (List UInt8) → Except (Nat × Nat) Ev
  | [] => .error (12, 1)
  | x :: fs => match findL L ⟨x.toArray⟩ with
    | none => .error (11, 1)
    | some i => match readL (ksAt L i) fs 2 with
      | .ok A => .ok (⟨x.toArray⟩, A)
      | .error e => .error e
/-- So far, all is right. -/
def readX (ks : List Int) (fs : List (List UInt8)) (n : Nat) (A : List Vd) : Prop :=
  A.length = n ∧ n ≤ ks.length ∧ n ≤ fs.length ∧ readL ks fs 2 = match readL (ks.drop n) (fs.drop n) (2 + n) with | .ok B => .ok (A ++ B) | .error e => .error e
theorem readX_zero (ks : List Int) (fs : List (List UInt8)) : readX ks fs 0 [] := by
  refine ⟨rfl, Nat.zero_le _, Nat.zero_le _, ?_⟩
  rw [List.drop_zero, List.drop_zero]
  cases readL ks fs 2 <;> rfl
theorem ks_drop {ks : List Int} {n : Nat} (h : n < ks.length) : ks.drop n = ks.getD n 0 :: ks.drop (n + 1) := by
  rw [List.drop_eq_getElem_cons h]; simp [List.getD, h]
theorem fs_drop {fs : List (List UInt8)} {n : Nat} (h : n < fs.length) : fs.drop n = fs.getD n [] :: fs.drop (n + 1) := by
  rw [List.drop_eq_getElem_cons h]; simp [List.getD, h]
theorem readX_more {ks : List Int} {fs : List (List UInt8)} {n : Nat} {A : List Vd} (h : readX ks fs n A) (hk : n < ks.length) (hf : n < fs.length) (e : (argV (ks.getD n 0) (fs.getD n [])).2 = 0) :
    readX ks fs (n + 1) (A ++ [(argV (ks.getD n 0) (fs.getD n [])).1]) := by
  obtain ⟨h1, h2, h3, h4⟩ := h
  refine ⟨by rw [List.length_append, h1]; rfl, hk, hf, ?_⟩
  rw [h4, ks_drop hk, fs_drop hf, readL, if_pos e, show 2 + n + 1 = 2 + (n + 1) by omega]
  cases readL (ks.drop (n + 1)) (fs.drop (n + 1)) (2 + (n + 1)) <;> simp
theorem readX_bad {ks : List Int} {fs : List (List UInt8)} {n : Nat} {A : List Vd} (h : readX ks fs n A) (hk : n < ks.length) (hf : n < fs.length) (e : (argV (ks.getD n 0) (fs.getD n [])).2 ≠ 0) :
    readL ks fs 2 = .error ((argV (ks.getD n 0) (fs.getD n [])).2, n + 2) := by
  obtain ⟨h1, h2, h3, h4⟩ := h
  rw [h4, ks_drop hk, fs_drop hf, readL, if_neg e, Nat.add_comm 2 n]
theorem readX_end {ks : List Int} {fs : List (List UInt8)} {n : Nat} {A : List Vd} (h : readX ks fs n A) (hk : n = ks.length) (hf : n = fs.length) : readL ks fs 2 = .ok A := by
  obtain ⟨h1, h2, h3, h4⟩ := h
  rw [h4, List.drop_eq_nil_iff.2 (by omega), List.drop_eq_nil_iff.2 (by omega), readL]
  simp
theorem readX_count {ks : List Int} {fs : List (List UInt8)} {n : Nat} {A : List Vd} (h : readX ks fs n A) (hn : (n = ks.length ∧ n < fs.length) ∨ (n = fs.length ∧ n < ks.length)) : readL ks fs 2 = .error (12, n + 2) := by
  obtain ⟨h1, h2, h3, h4⟩ := h
  rcases hn with ⟨e, hl⟩ | ⟨e, hl⟩
  · rw [h4, List.drop_eq_nil_iff.2 (show ks.length ≤ n by omega), fs_drop hl, readL, Nat.add_comm 2 n]
  · rw [h4, List.drop_eq_nil_iff.2 (show fs.length ≤ n by omega), ks_drop hl, readL, Nat.add_comm 2 n]
theorem of_nil (L : List Dc) : ofL L [] = .error (12, 1) := rfl
theorem of_noname {L : List Dc} {x : List UInt8} {fs : List (List UInt8)} (h : findL L ⟨x.toArray⟩ = none) : ofL L (x :: fs) = .error (11, 1) := by rw [ofL, h]
theorem of_wrong {L : List Dc} {x : List UInt8} {fs : List (List UInt8)} {i : Nat} {e : Nat × Nat} (h : findL L ⟨x.toArray⟩ = some i) (h2 : readL (ksAt L i) fs 2 = .error e) : ofL L (x :: fs) = .error e := by rw [ofL, h]; simp only; rw [h2]
theorem of_good {L : List Dc} {x : List UInt8} {fs : List (List UInt8)} {i : Nat} {A : List Vd} (h : findL L ⟨x.toArray⟩ = some i) (h2 : readL (ksAt L i) fs 2 = .ok A) : ofL L (x :: fs) = .ok (⟨x.toArray⟩, A) := by rw [ofL, h]; simp only; rw [h2]
theorem find_lt {L : List Dc} {x : ByteArray} {i : Nat} (h : findL L x = some i) : i < L.length ∧ nmAt L i = x := by
  unfold findL firstN at h
  rw [List.find?_range_eq_some] at h
  exact ⟨by simpa using h.2.1, isT_iff.1 h.1⟩
theorem read_errs : ∀ (ks : List Int) (fs : List (List UInt8)) (c : Nat) (e : Nat × Nat), readL ks fs c = .error e → e.1 ≠ 0 ∧ c ≤ e.2 ∧ e.2 ≤ c + fs.length ∧ e.1 ≤ 20
  | [], [], c, e, h => by simp [readL] at h
  | k :: ks, f :: fs, c, e, h => by
    rw [readL] at h
    by_cases h0 : (argV k f).2 = 0
    · rw [if_pos h0] at h
      cases h1 : readL ks fs (c + 1) with
      | ok A => rw [h1] at h; cases h
      | error e1 =>
        rw [h1] at h
        cases h
        have := read_errs ks fs (c + 1) e h1
        rw [List.length_cons]
        refine ⟨this.1, by omega, by omega, this.2.2.2⟩
    · rw [if_neg h0] at h
      cases h
      refine ⟨h0, Nat.le_refl _, by simp, ?_⟩
      simp only
      unfold argV
      split
      · split <;> simp
      · split
        · split
          · simp
          · split <;> simp
        · split
          · simp
          · have := pe_nat f
            have h2 := pe_cases f
            simp only; omega
  | [], f :: fs, c, e, h => by
    rw [readL] at h; cases h
    exact ⟨Nat.succ_ne_zero 11, Nat.le_refl _, by simp, by simp⟩
  | k :: ks, [], c, e, h => by
    rw [readL] at h; cases h
    exact ⟨Nat.succ_ne_zero 11, Nat.le_refl _, by simp, by simp⟩
theorem of_errs {L : List Dc} {row : List (List UInt8)} {e : Nat × Nat} (h : ofL L row = .error e) : e.1 ≠ 0 ∧ 1 ≤ e.2 ∧ e.2 ≤ row.length + 1 ∧ e.1 ≤ 20 := by
  cases row with
  | nil => rw [of_nil] at h; cases h; decide
  | cons x fs =>
    cases hf : findL L ⟨x.toArray⟩ with
    | none => rw [of_noname hf] at h; cases h; refine ⟨by decide, Nat.le_refl _, by simp, by decide⟩
    | some i =>
      cases hr : readL (ksAt L i) fs 2 with
      | ok A => rw [of_good hf hr] at h; cases h
      | error e1 =>
        rw [of_wrong hf hr] at h; cases h
        have := read_errs _ _ _ _ hr
        rw [List.length_cons]
        exact ⟨this.1, by omega, by omega, this.2.2.2⟩

/-- Whether arguments are of kinds, and an event is of a schema. -/
def rightA : List Int → List Vd → Bool
  | [], [] => true
  | k :: ks, v :: A => (decide (v.k = k) && rightB v.k v.i v.s v.b) && rightA ks A
  | [], _ :: _ => false
  | _ :: _, [] => false
def rightE (L : List Dc) (e : Ev) : Bool := match findL L e.1 with
  | none => false
  | some i => rightA (ksAt L i) e.2
/-- An event as a row. -/
def rowE (e : Ev) : List (List UInt8) := e.1.data.toList :: e.2.map fieldE
theorem read_good : ∀ (ks : List Int) (fs : List (List UInt8)) (c : Nat) (A : List Vd), (∀ k ∈ ks, noKind k = false) → readL ks fs c = .ok A → rightA ks A = true ∧ A.map fieldE = fs ∧ allD A
  | [], [], c, A, _, h => by
    rw [readL] at h; cases h
    exact ⟨rfl, rfl, fun v hv => by simp at hv⟩
  | k :: ks, f :: fs, c, A, hk, h => by
    rw [readL] at h
    by_cases h0 : (argV k f).2 = 0
    · rw [if_pos h0] at h
      cases h1 : readL ks fs (c + 1) with
      | error e => rw [h1] at h; cases h
      | ok B =>
        rw [h1] at h
        cases h
        obtain ⟨g1, g2, g3⟩ := arg_good (noKind_three (hk k (by simp))) h0
        obtain ⟨i1, i2, i3⟩ := read_good ks fs (c + 1) B (fun k' hk' => hk k' (by simp [hk'])) h1
        refine ⟨?_, ?_, ?_⟩
        · rw [rightA, i1, g2, decide_eq_true rfl]
          have := g1.1
          rw [g2] at this
          rw [this]; rfl
        · rw [List.map_cons, g3, i2]
        · intro v hv
          rcases List.mem_cons.1 hv with rfl | hv
          · exact g1
          · exact i3 v hv
    · rw [if_neg h0] at h; cases h
  | [], f :: fs, c, A, _, h => by rw [readL] at h; cases h
  | k :: ks, [], c, A, _, h => by rw [readL] at h; cases h
theorem read_back : ∀ (ks : List Int) (A : List Vd) (c : Nat), (∀ n, n < A.length → -9223372036854775808 ≤ (A.getD n default).i ∧ (A.getD n default).i ≤ 9223372036854775807) → rightA ks A = true → readL ks (A.map fieldE) c = .ok A
  | [], [], c, _, _ => rfl
  | k :: ks, v :: A, c, hi, h => by
    rw [rightA, Bool.and_eq_true, Bool.and_eq_true, decide_eq_true_eq] at h
    obtain ⟨⟨rfl, h1⟩, h2⟩ := h
    have := arg_back (v := v) ⟨h1, hi 0 (by simp)⟩
    rw [List.map_cons, readL, this, if_pos rfl, read_back ks A (c + 1) (fun n hn => hi (n + 1) (by simpa using hn)) h2]
  | [], v :: A, c, _, h => by rw [rightA] at h; cases h
  | k :: ks, [], c, _, h => by rw [rightA] at h; cases h
/-- Whether nothing is wrong with the kinds of a schema. -/
def kindsR (L : List Dc) : Prop := ∀ n, n < L.length → ∀ k ∈ ksAt L n, noKind k = false
theorem of_right {L : List Dc} {row : List (List UInt8)} {e : Ev} (hL : kindsR L) (h : ofL L row = .ok e) : rightE L e = true ∧ rowE e = row ∧ allD e.2 := by
  cases row with
  | nil => rw [of_nil] at h; cases h
  | cons x fs =>
    cases hf : findL L ⟨x.toArray⟩ with
    | none => rw [of_noname hf] at h; cases h
    | some i =>
      cases hr : readL (ksAt L i) fs 2 with
      | error e1 => rw [of_wrong hf hr] at h; cases h
      | ok A =>
        rw [of_good hf hr] at h; cases h
        obtain ⟨h1, h2, h3⟩ := read_good _ _ _ _ (hL i (find_lt hf).1) hr
        refine ⟨by rw [rightE, hf]; exact h1, ?_, h3⟩
        show x :: A.map fieldE = _
        rw [h2]
theorem of_back {L : List Dc} {e : Ev} (hi : ∀ n, n < e.2.length → -9223372036854775808 ≤ (e.2.getD n default).i ∧ (e.2.getD n default).i ≤ 9223372036854775807) (h : rightE L e = true) : ofL L (rowE e) = .ok e := by
  unfold rightE at h
  cases hf : findL L e.1 with
  | none => rw [hf] at h; cases h
  | some i =>
    rw [hf] at h
    exact of_good (x := e.1.data.toList) hf (read_back _ _ _ hi h)
theorem right_args {L : List Dc} {e : Ev} (h : rightE L e = true) : ∃ i, findL L e.1 = some i ∧ rightA (ksAt L i) e.2 = true := by
  unfold rightE at h
  cases hf : findL L e.1 with
  | none => rw [hf] at h; cases h
  | some i => rw [hf] at h; exact ⟨i, rfl, h⟩
theorem rightA_len : ∀ {ks : List Int} {A : List Vd}, rightA ks A = true → ks.length = A.length ∧ ∀ n, n < A.length → rightB (A.getD n default).k (A.getD n default).i (A.getD n default).s (A.getD n default).b = true
  | [], [], _ => ⟨rfl, fun n hn => by simp at hn⟩
  | k :: ks, v :: A, h => by
    rw [rightA, Bool.and_eq_true, Bool.and_eq_true] at h
    obtain ⟨h1, h2⟩ := rightA_len h.2
    refine ⟨by simp [h1], fun n hn => ?_⟩
    cases n with
    | zero => exact h.1.2
    | succ n => exact h2 n (by simpa using hn)
  | [], v :: A, h => by rw [rightA] at h; cases h
  | k :: ks, [], h => by rw [rightA] at h; cases h
/-- Arguments from a place on. -/
theorem A_drop {A : List Vd} {n : Nat} (h : n < A.length) : A.drop n = A.getD n default :: A.drop (n + 1) := by
  rw [List.drop_eq_getElem_cons h]; simp [List.getD, h]
theorem rightA_ne : ∀ {ks : List Int} {A : List Vd}, ks.length ≠ A.length → rightA ks A = false
  | [], [], h => absurd rfl h
  | k :: ks, v :: A, h => by rw [rightA, rightA_ne (by simpa using h), Bool.and_false]
  | [], v :: A, _ => rfl
  | k :: ks, [], _ => rfl
def rightTo (ks : List Int) (A : List Vd) (n : Nat) : Prop := rightA ks A = rightA (ks.drop n) (A.drop n)
theorem rightTo_zero (ks : List Int) (A : List Vd) : rightTo ks A 0 := rfl
theorem rightTo_step {ks : List Int} {A : List Vd} {n : Nat} (h : rightTo ks A n) (hk : n < ks.length) (hA : n < A.length) :
    rightA ks A = ((decide ((A.getD n default).k = ks.getD n 0) && rightB (A.getD n default).k (A.getD n default).i (A.getD n default).s (A.getD n default).b) && rightA (ks.drop (n + 1)) (A.drop (n + 1))) := by
  unfold rightTo at h
  rw [h, ks_drop hk, A_drop hA, rightA]
theorem rightTo_end {ks : List Int} {A : List Vd} {n : Nat} (h : rightTo ks A n) (hk : n = ks.length) (hA : n = A.length) : rightA ks A = true := by
  unfold rightTo at h
  rw [h, List.drop_eq_nil_iff.2 (by omega), List.drop_eq_nil_iff.2 (by omega)]; rfl

/-- Whether two events are the same. -/
def sameE (x y : Ev) : Bool := isT x.1 y.1 && sameL x.2 y.2
theorem sameE_iff {x y : Ev} : sameE x y = true ↔ x = y := by
  unfold sameE
  rw [Bool.and_eq_true, isT_iff, sameL_iff]
  exact ⟨fun h => Prod.ext h.1 h.2, fun h => by rw [h]; exact ⟨rfl, rfl⟩⟩
theorem sameE_refl (x : Ev) : sameE x x = true := sameE_iff.2 rfl
theorem sameL_ne {A B : List Vd} (h : A.length ≠ B.length) : sameL A B = false := by
  cases hs : sameL A B
  · rfl
  · exact absurd (congrArg List.length ((sameL_iff A B).1 hs)) h
def sameTo (A B : List Vd) (n : Nat) : Prop := sameL A B = sameL (A.drop n) (B.drop n)
theorem sameTo_zero (A B : List Vd) : sameTo A B 0 := rfl
theorem sameTo_step {A B : List Vd} {n : Nat} (h : sameTo A B n) (hA : n < A.length) (hB : n < B.length) : sameL A B = (eqD (A.getD n default) (B.getD n default) && sameL (A.drop (n + 1)) (B.drop (n + 1))) := by
  unfold sameTo at h
  rw [h, A_drop hA, A_drop hB, sameL]
theorem sameTo_end {A B : List Vd} {n : Nat} (h : sameTo A B n) (hA : n = A.length) (hB : n = B.length) : sameL A B = true := by
  unfold sameTo at h
  rw [h, List.drop_eq_nil_iff.2 (by omega), List.drop_eq_nil_iff.2 (by omega)]; rfl

/-- An event's text, up to an argument, and the whole. -/
def vtL (v : Vd) : List UInt8 := valText v.k v.i v.s v.b
def argsN (A : List Vd) : Nat → List UInt8
  | 0 => []
  | n + 1 => if n = 0 then vtL (A.getD 0 default) else argsN A n ++ [44, 32] ++ vtL (A.getD n default)
def etN (e : Ev) (n : Nat) : List UInt8 := e.1.data.toList ++ [40] ++ argsN e.2 n
def etL (e : Ev) : List UInt8 := etN e e.2.length ++ [41]
theorem args_join : ∀ (A : List Vd) (n : Nat), n ≤ A.length → argsN A n = Lib.join ((A.take n).map vtL) [44, 32]
  | A, 0, _ => rfl
  | A, n + 1, h => by
    have ih := args_join A n (by omega)
    have ht : A.take (n + 1) = A.take n ++ [A.getD n default] := by
      rw [List.take_succ_eq_append_getElem (by omega)]
      simp [List.getD, show n < A.length by omega]
    rw [argsN]
    by_cases h0 : n = 0
    · subst h0
      rw [if_pos rfl, ht]
      simp [Lib.join_one]
    · rw [if_neg h0, ih, ht]
      cases hA : A.take n with
      | nil =>
        have := congrArg List.length hA
        rw [List.length_take, List.length_nil] at this
        omega
      | cons y r =>
        rw [List.cons_append, List.map_cons, List.map_cons, List.map_append, Lib.join_cons, Lib.join_cons, Lib.joinTail, Lib.joinTail]
        simp
theorem args_len : ∀ (A : List Vd) (n M : Nat), n ≤ A.length → (∀ j, j < A.length → (vtL (A.getD j default)).length ≤ M) → (argsN A n).length ≤ (M + 2) * n
  | A, 0, M, _, _ => by simp [argsN]
  | A, n + 1, M, h, hM => by
    have ih := args_len A n M (by omega) hM
    have h1 := hM n (by omega)
    rw [argsN]
    rw [Nat.mul_add, Nat.mul_one]
    split
    · rename_i h0
      subst h0
      omega
    · simp only [List.length_append, List.length_cons, List.length_nil]
      omega
end Go.Proofs.YtmjchmamkjbgkaaGreatDoor

/- EvVin -/
namespace Go.Proofs.YtmjchmamkjbgkaaGreatDoor
open Go.RowKit
set_option linter.unusedVariables false

/-- The place of a slice is a block of values. -/
def VObj (w : World) (a : Option Addr) : Prop := ∀ g off, a = some ⟨g, off, none⟩ → CBlk w g 44
theorem VObj.below {w w' : World} {a : Option Addr} (h : VObj w a) (hb : Below w.heap.size w w') : VObj w' a := fun g off e => (h g off e).below hb
theorem own_vo {B : Nat} {o : Value} {L : List Vd} {w : World} (h : w.ownsRow B 44 4 o L.length (cellsV L)) (hall : ∀ n, n < L.length → (L.getD n default).s.size ≤ 9223372036854775807 ∧ -9223372036854775808 ≤ (L.getD n default).i ∧ (L.getD n default).i ≤ 9223372036854775807) :
    ∃ a cap, o = .slice a L.length cap ∧ VIn w a L.length L ∧ VObj w a := by
  obtain ⟨a, cap, e, h2⟩ := own_vin h hall
  refine ⟨a, cap, e, h2, fun g off ea => ?_⟩
  subst e
  exact CBlk.row h (by rw [ea]; rfl)
theorem VIn.nil {w : World} {a : Option Addr} : VIn w a 0 [] := ⟨rfl, by omega, fun h => by omega, fun n hn => by simp at hn⟩
theorem VObj.nil {w : World} : VObj w none := fun g off e => by cases e
/-- A list of values keeps over a change of other blocks. -/
theorem VIn.kept {w w' : World} {a : Option Addr} {len : Nat} {L : List Vd} (h : VIn w a len L) (hsz : w.heap.size ≤ w'.heap.size) (hg : ∀ g off, a = some ⟨g, off, none⟩ → g < w.heap.size → w'.heap[g]? = w.heap[g]?) : VIn w' a len L :=
  ⟨h.leng, h.small, fun h0 => by
    obtain ⟨g, off, e, hr⟩ := h.row h0
    have hl := hr.lt
    have hb := hg g off e hl
    have key : ∀ o, w'.cell? ⟨g, o, none⟩ = w.cell? ⟨g, o, none⟩ := fun o => World.cell?_of_block (a := ⟨g, o, none⟩) hb
    refine ⟨g, off, e, ⟨fun n hn => ?_, Nat.lt_of_lt_of_le hl hsz⟩⟩
    obtain ⟨h0, h1, h2, h3⟩ := hr.at' n hn
    exact ⟨(key _).trans h0, (key _).trans h1, (key _).trans h2, (key _).trans h3⟩, h.fits⟩
theorem CBlk.same {w w' : World} {g : Nat} {t : TypeId} (h : CBlk w g t) (e : w'.heap[g]? = w.heap[g]?) : CBlk w' g t := by
  obtain ⟨cs, f, e1⟩ := h
  exact ⟨cs, f, e.trans e1⟩
/-- Values keep over a change of blocks of other types. -/
theorem VObj.grown {w w' : World} {a : Option Addr} {u : TypeId} {r : Nat} (h : VObj w a) (hr : CBlk w r u) (hne : 44 ≠ u) (hg : w.grownBy w' (some r)) : VObj w' a := fun g off e =>
  (h g off e).grown hg (fun k => (h g off e).ne hr hne (Option.some.inj k))
theorem VIn.grown {w w' : World} {a : Option Addr} {len : Nat} {L : List Vd} {u : TypeId} {r : Nat} (h : VIn w a len L) (ho : VObj w a) (hr : CBlk w r u) (hne : 44 ≠ u) (hg : w.grownBy w' (some r)) : VIn w' a len L :=
  h.kept hg.size (fun g off e hl => hg.block g hl (fun k => (ho g off e).ne hr hne (Option.some.inj k)))

/-- An event's name and arguments at a place of a list. -/
def enAt (EE : List Ev) (n : Nat) : ByteArray := (EE.getD n default).1
def eaAt (EE : List Ev) (n : Nat) : List Vd := (EE.getD n default).2
/-- Events in memory; q: they lie in blocks that the call has made. -/
structure EvIn (w : World) (a : Option Addr) (len : Nat) (EE : List Ev) (q : Prop) : Prop where
  leng : EE.length = len
  small : len ≤ 9223372036854775807
  at' : ∀ n, n < len → ∃ g off b c, a = some ⟨g, off, none⟩ ∧ g < w.heap.size ∧ w.cell? ⟨g, off + n * 2, none⟩ = some (.string (enAt EE n)) ∧ w.cell? ⟨g, off + n * 2 + 1, none⟩ = some (.slice b (eaAt EE n).length c) ∧ VIn w b (eaAt EE n).length (eaAt EE n) ∧ (enAt EE n).size ≤ 9223372036854775807 ∧ (q → CBlk w g 29 ∧ VObj w b)
theorem EvIn.below {w w' : World} {a : Option Addr} {len : Nat} {EE : List Ev} {q : Prop} (h : EvIn w a len EE q) (hb : Below w.heap.size w w') : EvIn w' a len EE q :=
  ⟨h.leng, h.small, fun n hn => by
    obtain ⟨g, off, b, c, e, hg, h1, h2, h3, h4, h5⟩ := h.at' n hn
    exact ⟨g, off, b, c, e, Nat.lt_of_lt_of_le hg hb.size, (hb.cell (p := ⟨g, off + n * 2, none⟩) hg).trans h1, (hb.cell (p := ⟨g, off + n * 2 + 1, none⟩) hg).trans h2, h3.below hb, h4, fun k => ⟨(h5 k).1.below hb, (h5 k).2.below hb⟩⟩⟩
/-- Whether a list of events lies apart from blocks. -/
theorem EvIn.kept {w w' : World} {a : Option Addr} {len : Nat} {EE : List Ev} (h : EvIn w a len EE True) (hsz : w.heap.size ≤ w'.heap.size) (hg : ∀ g, CBlk w g 29 ∨ CBlk w g 44 → w'.heap[g]? = w.heap[g]?) : EvIn w' a len EE True :=
  ⟨h.leng, h.small, fun n hn => by
    obtain ⟨g, off, b, c, e, hl, h1, h2, h3, h4, h5⟩ := h.at' n hn
    obtain ⟨k1, k2⟩ := h5 trivial
    have hb := hg g (.inl k1)
    have key : ∀ o, w'.cell? ⟨g, o, none⟩ = w.cell? ⟨g, o, none⟩ := fun o => World.cell?_of_block (a := ⟨g, o, none⟩) hb
    exact ⟨g, off, b, c, e, Nat.lt_of_lt_of_le hl hsz, (key _).trans h1, (key _).trans h2, h3.kept hsz (fun g' off' e' _ => hg g' (.inr (k2 g' off' e'))), h4, fun _ => ⟨k1.same hb, fun g' off' e' => (k2 g' off' e').same (hg g' (.inr (k2 g' off' e')))⟩⟩⟩
/-- The cells of events that a call gathers: names, and slices that stand for arguments. -/
def cellsE : List Ev → List Value → List Value
  | e :: EE, u :: us => .string e.1 :: u :: cellsE EE us
  | _, _ => []
theorem cellsE_snoc : ∀ (EE : List Ev) (us : List Value) (e : Ev) (u : Value), us.length = EE.length → cellsE (EE ++ [e]) (us ++ [u]) = cellsE EE us ++ [.string e.1, u]
  | [], [], e, u, _ => rfl
  | x :: EE, v :: us, e, u, h => by
    have := cellsE_snoc EE us e u (by simpa using h)
    simp [cellsE, this]
  | [], v :: us, e, u, h => by simp at h
  | x :: EE, [], e, u, h => by simp at h
theorem cellsE_len : ∀ (EE : List Ev) (us : List Value), us.length = EE.length → (cellsE EE us).length = EE.length * 2
  | [], [], _ => rfl
  | x :: EE, v :: us, h => by
    have := cellsE_len EE us (by simpa using h)
    simp [cellsE, this]; omega
  | [], v :: us, h => by simp at h
  | x :: EE, [], h => by simp at h
theorem cellsE_at : ∀ (EE : List Ev) (us : List Value) (n : Nat) (u : Value), us[n]? = some u → n < EE.length → (cellsE EE us)[n * 2]? = some (.string (enAt EE n)) ∧ (cellsE EE us)[n * 2 + 1]? = some u
  | e :: EE, v :: us, 0, u, h, _ => by
    simp at h
    subst h
    exact ⟨rfl, rfl⟩
  | e :: EE, v :: us, n + 1, u, h, hn => by
    have := cellsE_at EE us n u (by simpa using h) (by simpa using hn)
    simp only [cellsE]
    rw [show (n + 1) * 2 = n * 2 + 2 by omega]
    simpa [enAt] using this
  | [], us, n, u, h, hn => by simp at hn
  | e :: EE, [], n, u, h, _ => by simp at h
/-- What the gathered slices stand for. -/
structure Es (w : World) (us : List Value) (EE : List Ev) : Prop where
  leng : us.length = EE.length
  at' : ∀ n, n < EE.length → ∃ a c, us[n]? = some (.slice a (eaAt EE n).length c) ∧ VIn w a (eaAt EE n).length (eaAt EE n) ∧ VObj w a
  names : ∀ n, n < EE.length → (enAt EE n).size ≤ 9223372036854775807
theorem Es.nil (w : World) : Es w [] [] := ⟨rfl, fun n hn => by simp at hn, fun n hn => by simp at hn⟩
theorem Es.below {w w' : World} {us : List Value} {EE : List Ev} (h : Es w us EE) (hb : Below w.heap.size w w') : Es w' us EE := ⟨h.leng, fun n hn => by
  obtain ⟨a, c, e, h1, h2⟩ := h.at' n hn
  exact ⟨a, c, e, h1.below hb, h2.below hb⟩, h.names⟩
theorem Es.kept {w w' : World} {us : List Value} {EE : List Ev} (h : Es w us EE) (hsz : w.heap.size ≤ w'.heap.size) (hg : ∀ g, CBlk w g 44 → w'.heap[g]? = w.heap[g]?) : Es w' us EE := ⟨h.leng, fun n hn => by
  obtain ⟨a, c, e, h1, h2⟩ := h.at' n hn
  exact ⟨a, c, e, h1.kept hsz (fun g off e' _ => hg g (h2 g off e')), fun g off e' => (h2 g off e').same (hg g (h2 g off e'))⟩, h.names⟩
theorem Es.snoc {w : World} {us : List Value} {EE : List Ev} {a : Option Addr} {c : Nat} {x : ByteArray} {A : List Vd} (h : Es w us EE) (h1 : VIn w a A.length A) (h2 : VObj w a) (h3 : x.size ≤ 9223372036854775807) : Es w (us ++ [.slice a A.length c]) (EE ++ [(x, A)]) :=
  ⟨by simp [h.leng], fun n hn => by
    by_cases e : n < EE.length
    · obtain ⟨a', c', e1, h1', h2'⟩ := h.at' n e
      have e2 : eaAt (EE ++ [(x, A)]) n = eaAt EE n := by unfold eaAt; simp [List.getD, List.getElem?_append_left e]
      rw [e2]
      exact ⟨a', c', by rw [List.getElem?_append_left (by rw [h.leng]; exact e)]; exact e1, h1', h2'⟩
    · have en : n = EE.length := by simp at hn; omega
      subst en
      have e2 : eaAt (EE ++ [(x, A)]) EE.length = A := by unfold eaAt; simp [List.getD]
      rw [e2]
      exact ⟨a, c, by rw [← h.leng]; simp, h1, h2⟩, fun n hn => by
    by_cases e : n < EE.length
    · have e2 : enAt (EE ++ [(x, A)]) n = enAt EE n := by unfold enAt; simp [List.getD, List.getElem?_append_left e]
      rw [e2]; exact h.names n e
    · have en : n = EE.length := by simp at hn; omega
      subst en
      have e2 : enAt (EE ++ [(x, A)]) EE.length = x := by unfold enAt; simp [List.getD]
      rw [e2]; exact h3⟩
theorem infoE : (Tryz.prog.info? 29).map (fun i => (i.zero, i.size, i.bytes)) = some (some (.agg #[.string ⟨#[]⟩, .slice none 0 0]), 2, 40) := by kernel_rfl
theorem own_evin {B : Nat} {o : Value} {EE : List Ev} {us : List Value} {w : World} (h : w.ownsRow B 29 2 o EE.length (cellsE EE us)) (hv : Es w us EE) : ∃ a cap, o = .slice a EE.length cap ∧ EvIn w a EE.length EE True := by
  have h0 := h
  obtain ⟨hl, hown⟩ := h
  rcases hown with ⟨rfl, hz⟩ | ⟨g, cap, cur, rfl, h1, hg, hcap, hm, hsz, htk⟩
  · exact ⟨none, 0, by rw [hz], ⟨rfl, by omega, fun n h => by omega⟩⟩
  · refine ⟨_, cap, rfl, ⟨rfl, by unfold maxLen at hm; omega, fun n hn => ?_⟩⟩
    obtain ⟨a, c, e, v1, v2⟩ := hv.at' n hn
    obtain ⟨c0, c1⟩ := cellsE_at EE us n _ e hn
    have key : ∀ j v, j < EE.length * 2 → (cellsE EE us)[j]? = some v → w.cell? ⟨g, j, none⟩ = some v := fun j v hj hv => by
      rw [cell_of_row w g j cur _ (0, 0) hg]
      rw [← htk, List.getElem?_take, if_pos hj] at hv
      simpa using hv
    refine ⟨g, 0, a, c, rfl, (Array.getElem?_eq_some_iff.1 hg).1, ?_, ?_, v1, hv.names n hn, fun _ => ⟨CBlk.row h0 rfl, v2⟩⟩
    · rw [Nat.zero_add]; exact key _ _ (by omega) c0
    · rw [Nat.zero_add]; exact key _ _ (by omega) c1
end Go.Proofs.YtmjchmamkjbgkaaGreatDoor

/- EvArg -/
namespace Go.Proofs.YtmjchmamkjbgkaaGreatDoor
open Go.RowKit
set_option linter.unusedVariables false

/-- A value as the model has it. -/
def vdV (v : Vd) : Value := .agg #[.int .i64 v.k, .int .i64 v.i, .string v.s, .bool v.b]
theorem pe_form {l : List UInt8} (h : peN l = 0) : formB l = true := by
  have hp : pe l = 0 := by rw [pe_nat, h]; rfl
  unfold pe at hp
  by_cases hf : formB l = true
  · exact hf
  · rw [if_neg hf] at hp; omega
theorem parsed_int {l : List UInt8} (h : peN l = 0) : parsedV l = ⟨1, pn l, [], false, 0⟩ := by
  have hf := pe_form h
  refine parsed_yes (fun e => ?_) (fun e => ?_) (form_head hf) (by rw [pe_nat, h]; rfl)
  · rw [e] at hf; revert hf; decide
  · rw [e] at hf; revert hf; decide
theorem strV_kind (o : Option (List UInt8)) : (strV o).k ≠ 3 := by
  unfold strV
  split
  · split <;> simp
  · simp
theorem parsed_kind {l : List UInt8} (h1 : l ≠ tru) (h2 : l ≠ fls) : (parsedV l).k ≠ 3 := by
  by_cases hh : l.head? = some 34
  · rw [parsed_str hh]; exact strV_kind _
  · by_cases hp : pe l = 0
    · rw [parsed_yes h1 h2 hh hp]; simp
    · rw [parsed_no h1 h2 hh hp]; simp
theorem argV_text_no {f : List UInt8} (h : 4096 < f.length) : argV 2 f = (none0, 3) := by rw [argV, if_pos rfl, if_pos h]
theorem argV_text {f : List UInt8} (h : ¬ 4096 < f.length) : argV 2 f = (⟨2, 0, ⟨f.toArray⟩, false⟩, 0) := by rw [argV, if_pos rfl, if_neg h]
theorem argV_tru : argV 3 tru = (⟨3, 0, ⟨#[]⟩, true⟩, 0) := by rw [argV, if_neg (by decide), if_pos rfl, if_pos rfl]
theorem argV_fls : argV 3 fls = (⟨3, 0, ⟨#[]⟩, false⟩, 0) := by rw [argV, if_neg (by decide), if_pos rfl, if_neg (by decide), if_pos rfl]
theorem argV_else {f : List UInt8} (h1 : f ≠ tru) (h2 : f ≠ fls) : argV 3 f = (none0, 4) := by rw [argV, if_neg (by decide), if_pos rfl, if_neg h1, if_neg h2]
theorem argV_num {f : List UInt8} (h : peN f = 0) : argV 1 f = (⟨1, pn f, ⟨#[]⟩, false⟩, 0) := by rw [argV, if_neg (by decide), if_neg (by decide), if_pos h]
theorem argV_nonum {f : List UInt8} (h : peN f ≠ 0) : argV 1 f = (none0, peN f) := by rw [argV, if_neg (by decide), if_neg (by decide), if_neg h]
theorem ea_mk (s : ByteArray) : (⟨s.data.toList.toArray⟩ : ByteArray) = s := rfl

set_option maxHeartbeats 2000000 in
theorem readArg2_calls (s : ByteArray) (w : World) (hs : s.size ≤ 4294967296) :
    Calls Tryz.prog 70 #[.int .i64 2, .string s] w fun e w' => e = .returned (.tuple #[vdV (argV 2 s.data.toList).1, .int .i64 ((argV 2 s.data.toList).2 : Nat)]) ∧ Below w.heap.size w w' := by
  have HS := Lib.hid (fun w1 => vStr_calls s w1)
  have HR := fun w1 => vRight_calls 2 0 s false w1 (by omega)
  have HA := Lib.hid (fun o => (Below.refl w.heap.size w).alloc (Nat.le_refl _) o)
  have HF := Lib.hid (Free4.new #[.int .i64 0, .int .i64 0, .string ⟨#[]⟩, .bool false] w 44)
  have HB := Lib.hid (Boxed.new 0 0 ⟨#[]⟩ false w 44)
  by_cases h : 4096 < s.size
  · rw [argV_text_no (by rw [← sc_size]; exact h)]
    rw [show rightB 2 0 s false = false by rw [right2, decide_eq_false (by omega), Bool.and_false]] at HR
    have HR := Lib.hid HR
    clear h
    go_enter Tryz.func70, Tryz.ntmps70
    go_wp2_with fail
    refine (HS.out _).mono ?_
    rintro e w1 ⟨rfl, k1⟩
    have hK := (HA.out (.cells #[.int .i64 0, .int .i64 0, .string ⟨#[]⟩, .bool false] 44)).trans (k1.mono (by simp))
    have HK := Lib.hid (hK.alloc hK.size (.cells #[.int .i64 2, .int .i64 0, .string s, .bool false] 44))
    have HF1 := Lib.hid ((HF.out.below k1 (by simp)).below ((Below.refl w1.heap.size w1).alloc (Nat.le_refl _) (.cells #[.int .i64 2, .int .i64 0, .string s, .bool false] 44)) (Nat.lt_of_lt_of_le (by simp) k1.size))
    have HB1 := Lib.hid ((HB.out.below k1 (by simp)).below ((Below.refl w1.heap.size w1).alloc (Nat.le_refl _) (.cells #[.int .i64 2, .int .i64 0, .string s, .bool false] 44)) (Nat.lt_of_lt_of_le (by simp) k1.size))
    have HZ := Lib.hid (show w.heap.size < (w1.alloc (.cells #[.int .i64 2, .int .i64 0, .string s, .bool false] 44)).heap.size by have := k1.size; simp at this ⊢; omega)
    clear hK k1
    go_wp2_with fail
    refine (HR.out _).mono ?_
    rintro e w2 ⟨rfl, k2⟩
    obtain ⟨c0, c1, c2, c3⟩ := HB1.out.below k2 HZ.out
    obtain ⟨f0, f1, f2, f3⟩ := HF1.out.below k2 HZ.out
    have HK2 := Lib.hid (HK.out.trans (k2.mono HK.out.size))
    clear k2
    go_wp2_with fail
    (try simp only [Exit.inBlock, Exit.then])
    refine bodyPost_ret (v := .tuple #[.agg #[.int .i64 0, .int .i64 0, .string ⟨#[]⟩, .bool false], .int .i64 3]) ?_ rfl ⟨rfl, ?_⟩
    · rw [results_cell_tmp rfl]
      go_simp
    · repeat' (first | exact HK2.out | refine Below.setCell ?_ (by simp) _ | refine Below.alloc ?_ (by have := HK2.out.size; simp; omega) _)
  · rw [argV_text (by rw [← sc_size]; exact h), ea_mk]
    rw [show rightB 2 0 s false = true by rw [right2, decide_eq_true (by omega), Bool.and_true, eqB_iff]; exact ⟨rfl, rfl, rfl, rfl⟩] at HR
    have HR := Lib.hid HR
    clear h
    go_enter Tryz.func70, Tryz.ntmps70
    go_wp2_with fail
    refine (HS.out _).mono ?_
    rintro e w1 ⟨rfl, k1⟩
    have hK := (HA.out (.cells #[.int .i64 0, .int .i64 0, .string ⟨#[]⟩, .bool false] 44)).trans (k1.mono (by simp))
    have HK := Lib.hid (hK.alloc hK.size (.cells #[.int .i64 2, .int .i64 0, .string s, .bool false] 44))
    have HF1 := Lib.hid ((HF.out.below k1 (by simp)).below ((Below.refl w1.heap.size w1).alloc (Nat.le_refl _) (.cells #[.int .i64 2, .int .i64 0, .string s, .bool false] 44)) (Nat.lt_of_lt_of_le (by simp) k1.size))
    have HB1 := Lib.hid ((HB.out.below k1 (by simp)).below ((Below.refl w1.heap.size w1).alloc (Nat.le_refl _) (.cells #[.int .i64 2, .int .i64 0, .string s, .bool false] 44)) (Nat.lt_of_lt_of_le (by simp) k1.size))
    have HN1 := Lib.hid (Boxed.new 2 0 s false w1 44)
    have HZ := Lib.hid (show w.heap.size < (w1.alloc (.cells #[.int .i64 2, .int .i64 0, .string s, .bool false] 44)).heap.size by have := k1.size; simp at this ⊢; omega)
    have hz1 : w.heap.size < w1.heap.size := by have := k1.size; simp at this; omega
    clear hK k1
    go_wp2_with fail
    refine (HR.out _).mono ?_
    rintro e w2 ⟨rfl, k2⟩
    obtain ⟨c0, c1, c2, c3⟩ := HB1.out.below k2 HZ.out
    obtain ⟨f0, f1, f2, f3⟩ := HF1.out.below k2 HZ.out
    obtain ⟨d0, d1, d2, d3⟩ := HN1.out.below k2 (by simp)
    have HK2 := Lib.hid (HK.out.trans (k2.mono HK.out.size))
    clear k2
    go_wp2_with fail
    (try simp only [Exit.inBlock, Exit.then])
    refine bodyPost_ret (v := .tuple #[.agg #[.int .i64 2, .int .i64 0, .string s, .bool false], .int .i64 0]) ?_ rfl ⟨rfl, ?_⟩
    · rw [results_cell_tmp rfl]
      go_simp
    · repeat' (first | exact HK2.out | refine Below.setCell ?_ (by simp) _ | refine Below.alloc ?_ (by have := HK2.out.size; simp; omega) _)

/-- What value.Parse told, in a block of its own, is the answer where it is of the kind. -/
structure ArgAt (w : World) (B : Nat) (W : World) : Prop where
  below : Below w.heap.size w W
  lt : w.heap.size < W.heap.size
  free : Free4 w.heap.size W
  boxed : Boxed w.heap.size 0 0 ⟨#[]⟩ false W
theorem ArgAt.new (w : World) : ArgAt w w.heap.size (w.alloc (.cells #[.int .i64 0, .int .i64 0, .string ⟨#[]⟩, .bool false] 44)) :=
  ⟨(Below.refl _ _).alloc (Nat.le_refl _) _, by simp, Free4.new _ w _, Boxed.new 0 0 ⟨#[]⟩ false w _⟩
theorem ArgAt.step {w W W' : World} {B : Nat} (h : ArgAt w B W) (k : Below W.heap.size W W') : ArgAt w B W' :=
  ⟨h.below.trans (k.mono h.below.size), Nat.lt_of_lt_of_le h.lt k.size, h.free.below k h.lt, h.boxed.below k h.lt⟩

set_option maxHeartbeats 2000000 in
theorem readArg1_calls (s : ByteArray) (w : World) (hs : s.size ≤ 4294967296) (hL : Laid w) :
    Calls Tryz.prog 70 #[.int .i64 1, .string s] w fun e w' => e = .returned (.tuple #[vdV (argV 1 s.data.toList).1, .int .i64 ((argV 1 s.data.toList).2 : Nat)]) ∧ Below w.heap.size w w' := by
  have hA := ArgAt.new w
  have hL1 := hL.below ((Below.refl w.heap.size w).alloc (Nat.le_refl _) (.cells #[.int .i64 0, .int .i64 0, .string ⟨#[]⟩, .bool false] 44))
  obtain ⟨ea, hea⟩ := hL1.1.2
  have HP := parse_calls s ea _ (by omega) hea
  rw [pe_nat] at HP
  by_cases h : peN s.data.toList = 0
  · rw [argV_num h]
    rw [h] at HP
    have hp := parsed_int h
    have HV := fun w1 (h : Laid w1) => vParse_calls s w1 hs h
    rw [hp] at HV
    have HV := Lib.hid HV
    have HP := Lib.hid HP
    have HL := Lib.hid (fun w1 k => hL1.below (w' := w1) k)
    have HA := Lib.hid hA
    clear h hp hA hL hL1 hea hs
    generalize pn s.data.toList = n at HP HV ⊢
    go_enter Tryz.func70, Tryz.ntmps70
    go_wp2_with fail
    refine HP.out.mono ?_
    rintro e w1 ⟨rfl, k1⟩
    have HA1 := Lib.hid (HA.out.step k1)
    have HL1 := Lib.hid (HL.out w1 k1)
    clear k1
    go_wp2_with fail
    refine (HV.out w1 HL1.out).mono ?_
    rintro e w2 ⟨he, k2⟩
    simp only [PVal.val] at he
    subst he
    have hA2 := HA1.out.step k2
    obtain ⟨c0, c1, c2, c3⟩ := hA2.boxed
    obtain ⟨f0, f1, f2, f3⟩ := hA2.free
    have HK2 := Lib.hid hA2.below
    have hz : w.heap.size < w2.heap.size := (HA1.out.step k2).lt
    clear k2 hA2
    go_wp2_with fail
    (try simp only [Exit.inBlock, Exit.then])
    refine bodyPost_ret (v := .tuple #[.agg #[.int .i64 1, .int .i64 n, .string ⟨#[]⟩, .bool false], .int .i64 0]) ?_ rfl ⟨rfl, ?_⟩
    · rw [results_cell_tmp rfl]
      go_simp
    · repeat' (first | exact HK2.out | refine Below.setCell ?_ (by simp) _ | refine Below.alloc ?_ (by have := HK2.out.size; simp; omega) _)
  · rw [argV_nonum h]
    have t1 : (((peN s.data.toList : Nat) : Int) != 0) = true := by simpa using h
    have HP := Lib.hid HP
    have HA := Lib.hid hA
    clear h hA hL hL1 hea hs
    generalize pn s.data.toList = n at HP
    generalize peN s.data.toList = er at HP t1 ⊢
    go_enter Tryz.func70, Tryz.ntmps70
    go_wp2_with fail
    refine HP.out.mono ?_
    rintro e w1 ⟨rfl, k1⟩
    have hA1 := HA.out.step k1
    obtain ⟨c0, c1, c2, c3⟩ := hA1.boxed
    obtain ⟨f0, f1, f2, f3⟩ := hA1.free
    have HK := Lib.hid hA1.below
    clear k1 hA1
    go_wp2_with fail
    (try simp only [Exit.inBlock, Exit.then])
    refine bodyPost_ret (v := .tuple #[.agg #[.int .i64 0, .int .i64 0, .string ⟨#[]⟩, .bool false], .int .i64 er]) ?_ rfl ⟨rfl, ?_⟩
    · rw [results_cell_tmp rfl]
      go_simp
    · repeat' (first | exact HK.out | refine Below.setCell ?_ (by simp) _)

set_option maxHeartbeats 2000000 in
theorem readArg3_calls (s : ByteArray) (w : World) (hs : s.size ≤ 4294967296) (hL : Laid w) :
    Calls Tryz.prog 70 #[.int .i64 3, .string s] w fun e w' => e = .returned (.tuple #[vdV (argV 3 s.data.toList).1, .int .i64 ((argV 3 s.data.toList).2 : Nat)]) ∧ Below w.heap.size w w' := by
  have hA := ArgAt.new w
  have hL1 := hL.below ((Below.refl w.heap.size w).alloc (Nat.le_refl _) (.cells #[.int .i64 0, .int .i64 0, .string ⟨#[]⟩, .bool false] 44))
  have HV := vParse_calls s _ hs hL1
  by_cases h : s.data.toList = tru ∨ s.data.toList = fls
  · obtain ⟨b, hb1, hb2⟩ : ∃ b, parsedV s.data.toList = ⟨3, 0, [], b, 0⟩ ∧ argV 3 s.data.toList = (⟨3, 0, ⟨#[]⟩, b⟩, 0) := by
      rcases h with h | h
      · exact ⟨true, by rw [h]; exact parsed_tru, by rw [h]; exact argV_tru⟩
      · exact ⟨false, by rw [h]; exact parsed_fls, by rw [h]; exact argV_fls⟩
    rw [hb1] at HV
    rw [hb2]
    have HV := Lib.hid HV
    have HA := Lib.hid hA
    clear h hb1 hb2 hA hL hL1 hs
    go_enter Tryz.func70, Tryz.ntmps70
    go_wp2_with fail
    refine HV.out.mono ?_
    rintro e w2 ⟨he, k2⟩
    simp only [PVal.val] at he
    subst he
    have hA2 := HA.out.step k2
    obtain ⟨c0, c1, c2, c3⟩ := hA2.boxed
    obtain ⟨f0, f1, f2, f3⟩ := hA2.free
    have HK2 := Lib.hid hA2.below
    have hz : w.heap.size < w2.heap.size := (HA.out.step k2).lt
    clear k2 hA2
    go_wp2_with fail
    (try simp only [Exit.inBlock, Exit.then])
    refine bodyPost_ret (v := .tuple #[.agg #[.int .i64 3, .int .i64 0, .string ⟨#[]⟩, .bool b], .int .i64 0]) ?_ rfl ⟨rfl, ?_⟩
    · rw [results_cell_tmp rfl]
      go_simp
    · repeat' (first | exact HK2.out | refine Below.setCell ?_ (by simp) _ | refine Below.alloc ?_ (by have := HK2.out.size; simp; omega) _)
  · rw [argV_else (fun e => h (.inl e)) (fun e => h (.inr e))]
    have hk := parsed_kind (fun e => h (.inl e)) (fun e => h (.inr e))
    obtain ⟨k, i, T, b, er, hP⟩ : ∃ k i T b er, parsedV s.data.toList = ⟨k, i, T, b, er⟩ := ⟨_, _, _, _, _, rfl⟩
    rw [hP] at HV hk
    have t1 : (k == 3) = false := by simpa using hk
    have HV := Lib.hid HV
    have HA := Lib.hid hA
    clear h hk hP hA hL hL1 hs
    go_enter Tryz.func70, Tryz.ntmps70
    go_wp2_with fail
    refine HV.out.mono ?_
    rintro e w2 ⟨he, k2⟩
    simp only [PVal.val] at he
    subst he
    have hA2 := HA.out.step k2
    obtain ⟨c0, c1, c2, c3⟩ := hA2.boxed
    obtain ⟨f0, f1, f2, f3⟩ := hA2.free
    have HK2 := Lib.hid hA2.below
    have hz : w.heap.size < w2.heap.size := (HA.out.step k2).lt
    clear k2 hA2
    go_wp2_with fail
    (try simp only [Exit.inBlock, Exit.then])
    refine bodyPost_ret (v := .tuple #[.agg #[.int .i64 0, .int .i64 0, .string ⟨#[]⟩, .bool false], .int .i64 4]) ?_ rfl ⟨rfl, ?_⟩
    · rw [results_cell_tmp rfl]
      go_simp
    · repeat' (first | exact HK2.out | refine Below.setCell ?_ (by simp) _ | refine Below.alloc ?_ (by have := HK2.out.size; simp; omega) _)

theorem readArg_calls (k : Int) (s : ByteArray) (w : World) (hk : noKind k = false) (hs : s.size ≤ 4294967296) (hL : Laid w) :
    Calls Tryz.prog 70 #[.int .i64 k, .string s] w fun e w' => e = .returned (.tuple #[vdV (argV k s.data.toList).1, .int .i64 ((argV k s.data.toList).2 : Nat)]) ∧ Below w.heap.size w w' := by
  rcases noKind_three hk with rfl | rfl | rfl
  · exact readArg1_calls s w hs hL
  · exact readArg2_calls s w hs
  · exact readArg3_calls s w hs hL

set_option maxHeartbeats 2000000 in
theorem refArg_calls (k : Int) (s : ByteArray) (w : World) (hk : noKind k = false) (hs : s.size ≤ 9223372036854775807) :
    Calls Tryz.prog 32 #[.int .i64 k, .string s] w fun e w' => e = .returned (.tuple #[vdV (argV k s.data.toList).1, .int .i64 ((argV k s.data.toList).2 : Nat)]) ∧ Below w.heap.size w w' := by
  rcases noKind_three hk with rfl | rfl | rfl
  · have HN := fun w1 => refNumber_calls s w1 hs
    rw [pe_nat] at HN
    by_cases h : peN s.data.toList = 0
    · rw [argV_num h]
      rw [h] at HN
      have HN := Lib.hid HN
      clear h
      generalize pn s.data.toList = n at HN ⊢
      go_enter Tryz.func32, Tryz.ntmps32
      go_wp2_with fail
      refine (HN.out _).mono ?_
      rintro e w1 ⟨rfl, rfl⟩
      go_wp2_with fail
      (try simp only [Exit.inBlock, Exit.then])
      refine bodyPost_ret (v := .tuple #[.agg #[.int .i64 1, .int .i64 n, .string ⟨#[]⟩, .bool false], .int .i64 0]) ?_ rfl ⟨rfl, ?_⟩
      · rw [results_cell_tmp rfl]
        go_simp
      · repeat' (first | exact Below.refl _ _ | refine Below.alloc ?_ (by simp <;> omega) _ | refine Below.setCell ?_ (by simp) _)
    · rw [argV_nonum h]
      have t1 : (((peN s.data.toList : Nat) : Int) != 0) = true := by simpa using h
      have HN := Lib.hid HN
      clear h
      generalize pn s.data.toList = n at HN
      generalize peN s.data.toList = er at HN t1 ⊢
      go_enter Tryz.func32, Tryz.ntmps32
      go_wp2_with fail
      refine (HN.out _).mono ?_
      rintro e w1 ⟨rfl, rfl⟩
      go_wp2_with fail
      (try simp only [Exit.inBlock, Exit.then])
      refine bodyPost_ret (v := .tuple #[.agg #[.int .i64 0, .int .i64 0, .string ⟨#[]⟩, .bool false], .int .i64 er]) ?_ rfl ⟨rfl, ?_⟩
      · rw [results_cell_tmp rfl]
        go_simp
      · repeat' (first | exact Below.refl _ _ | refine Below.alloc ?_ (by simp <;> omega) _ | refine Below.setCell ?_ (by simp) _)
  · by_cases h : 4096 < s.size
    · rw [argV_text_no (by rw [← sc_size]; exact h)]
      have t1 : decide ((4096 : Int) < (s.size : Int)) = true := by simp; omega
      clear h
      go_enter Tryz.func32, Tryz.ntmps32
      go_wp2_with fail
      (try simp only [Exit.inBlock, Exit.then])
      refine bodyPost_ret (v := .tuple #[.agg #[.int .i64 0, .int .i64 0, .string ⟨#[]⟩, .bool false], .int .i64 3]) ?_ rfl ⟨rfl, ?_⟩
      · rw [results_cell_tmp rfl]
        go_simp
      · repeat' (first | exact Below.refl _ _ | refine Below.alloc ?_ (by simp <;> omega) _ | refine Below.setCell ?_ (by simp) _)
    · rw [argV_text (by rw [← sc_size]; exact h), ea_mk]
      have t1 : decide ((4096 : Int) < (s.size : Int)) = false := by simp; omega
      clear h
      go_enter Tryz.func32, Tryz.ntmps32
      go_wp2_with fail
      (try simp only [Exit.inBlock, Exit.then])
      refine bodyPost_ret (v := .tuple #[.agg #[.int .i64 2, .int .i64 0, .string s, .bool false], .int .i64 0]) ?_ rfl ⟨rfl, ?_⟩
      · rw [results_cell_tmp rfl]
        go_simp
      · repeat' (first | exact Below.refl _ _ | refine Below.alloc ?_ (by simp <;> omega) _ | refine Below.setCell ?_ (by simp) _)
  · have e1 : (s.toList == [116, 114, 117, 101]) = decide (s.data.toList = tru) := by
      rw [sc_tl, Bool.eq_iff_iff, beq_iff_eq, decide_eq_true_eq]; rfl
    have e2 : (s.toList == [102, 97, 108, 115, 101]) = decide (s.data.toList = fls) := by
      rw [sc_tl, Bool.eq_iff_iff, beq_iff_eq, decide_eq_true_eq]; rfl
    by_cases h1 : s.data.toList = tru
    · have HV : Hid (argV 3 s.data.toList = (⟨3, 0, ⟨#[]⟩, true⟩, 0)) := Lib.hid (by rw [h1]; exact argV_tru)
      rw [decide_eq_true h1] at e1
      clear h1 e2
      rw [HV.out]
      go_enter Tryz.func32, Tryz.ntmps32
      go_wp2_with fail
      (try simp only [Exit.inBlock, Exit.then])
      refine bodyPost_ret (v := .tuple #[.agg #[.int .i64 3, .int .i64 0, .string ⟨#[]⟩, .bool true], .int .i64 0]) ?_ rfl ⟨rfl, ?_⟩
      · rw [results_cell_tmp rfl]
        go_simp
      · repeat' (first | exact Below.refl _ _ | refine Below.alloc ?_ (by simp <;> omega) _ | refine Below.setCell ?_ (by simp) _)
    · rw [decide_eq_false h1] at e1
      by_cases h2 : s.data.toList = fls
      · have HV : Hid (argV 3 s.data.toList = (⟨3, 0, ⟨#[]⟩, false⟩, 0)) := Lib.hid (by rw [h2]; exact argV_fls)
        rw [decide_eq_true h2] at e2
        clear h1 h2
        rw [HV.out]
        go_enter Tryz.func32, Tryz.ntmps32
        go_wp2_with fail
        (try simp only [Exit.inBlock, Exit.then])
        refine bodyPost_ret (v := .tuple #[.agg #[.int .i64 3, .int .i64 0, .string ⟨#[]⟩, .bool false], .int .i64 0]) ?_ rfl ⟨rfl, ?_⟩
        · rw [results_cell_tmp rfl]
          go_simp
        · repeat' (first | exact Below.refl _ _ | refine Below.alloc ?_ (by simp <;> omega) _ | refine Below.setCell ?_ (by simp) _)
      · have HV : Hid (argV 3 s.data.toList = (none0, 4)) := Lib.hid (argV_else h1 h2)
        rw [decide_eq_false h2] at e2
        clear h1 h2
        rw [HV.out]
        go_enter Tryz.func32, Tryz.ntmps32
        go_wp2_with fail
        (try simp only [Exit.inBlock, Exit.then])
        refine bodyPost_ret (v := .tuple #[.agg #[.int .i64 0, .int .i64 0, .string ⟨#[]⟩, .bool false], .int .i64 4]) ?_ rfl ⟨rfl, ?_⟩
        · rw [results_cell_tmp rfl]
          go_simp
        · repeat' (first | exact Below.refl _ _ | refine Below.alloc ?_ (by simp <;> omega) _ | refine Below.setCell ?_ (by simp) _)
end Go.Proofs.YtmjchmamkjbgkaaGreatDoor

/- EvArgs -/
namespace Go.Proofs.YtmjchmamkjbgkaaGreatDoor
open Go.RowKit
set_option linter.unusedVariables false

/-- An error of a field lies at a place. -/
def ErrAt (w : World) (B : Nat) (v : Value) (e c : Nat) : Prop := ∃ g, v = .iface 76 (.pointer (some ⟨g, 0, none⟩)) ∧ B ≤ g ∧ w.heap[g]? = some (.cells #[.int .i64 (c : Nat), .iface 30 (.int .i64 (e : Nat))] 81 (0, 0))
theorem ErrAt.below {w w' : World} {B : Nat} {v : Value} {e c : Nat} (h : ErrAt w B v e c) (hb : Below w.heap.size w w') : ErrAt w' B v e c := by
  obtain ⟨g, h1, h2, h3⟩ := h
  exact ⟨g, h1, h2, (hb.block g (Array.getElem?_eq_some_iff.1 h3).1).trans h3⟩
/-- What readArgs answers. -/
def ArgsPost (x : Except (Nat × Nat) (List Vd)) (w : World) (e : Ending) (w' : World) : Prop :=
  (match x with
   | .ok A => ∃ a cap, e = .returned (.tuple #[.slice a A.length cap, .nilIface]) ∧ VIn w' a A.length A ∧ VObj w' a
   | .error (er, c) => ∃ v, e = .returned (.tuple #[.slice none 0 0, v]) ∧ ErrAt w' w.heap.size v er c) ∧ Below w.heap.size w w'
theorem err_new (w : World) (x y : Int) (c er : Nat) (hx : x = (c : Int)) (hy : y = (er : Int)) : (w.alloc (.cells #[.int .i64 x, .iface 30 (.int .i64 y)] 81)).heap[w.heap.size]? = some (.cells #[.int .i64 (c : Nat), .iface 30 (.int .i64 (er : Nat))] 81 (0, 0)) := by
  subst hx hy
  exact heap_alloc_new _ _
theorem args_ok {x : Except (Nat × Nat) (List Vd)} {A : List Vd} {w w' : World} {e : Ending} (hx : x = .ok A) (h : ∃ a cap, e = .returned (.tuple #[.slice a A.length cap, .nilIface]) ∧ VIn w' a A.length A ∧ VObj w' a) (hb : Below w.heap.size w w') : ArgsPost x w e w' := by
  subst hx; exact ⟨h, hb⟩
theorem args_no {x : Except (Nat × Nat) (List Vd)} {er c : Nat} {w w' : World} {e : Ending} (hx : x = .error (er, c)) (h : ∃ v, e = .returned (.tuple #[.slice none 0 0, v]) ∧ ErrAt w' w.heap.size v er c) (hb : Below w.heap.size w w') : ArgsPost x w e w' := by
  subst hx; exact ⟨h, hb⟩
theorem argsFit {A : List Vd} (h : allD A) : ∀ n, n < A.length → (A.getD n default).s.size ≤ 9223372036854775807 ∧ -9223372036854775808 ≤ (A.getD n default).i ∧ (A.getD n default).i ≤ 9223372036854775807 := by
  intro n hn
  have hm : A.getD n default = A[n] := by simp [List.getD, hn]
  have := h (A[n]) (List.getElem_mem hn)
  rw [hm]
  exact ⟨by have := right_size this.1; omega, this.2⟩
theorem ev_new4 (w : World) (a b c d : Value) (t : TypeId) : ∀ j u, [a, b, c, d][j]? = some u → (w.alloc (.cells #[a, b, c, d] t)).cell? ((⟨w.heap.size, 0, none⟩ : Addr).add j) = some u := by
  intro j u hj
  have hadd : (⟨w.heap.size, 0, none⟩ : Addr).add j = ⟨w.heap.size, j, none⟩ := by unfold Addr.add; split <;> simp_all
  rw [hadd, World.cell?_alloc_at (hn := rfl)]
  simpa using hj

set_option maxHeartbeats 4000000 in
set_option maxRecDepth 100000 in
theorem readArgs_calls (ka : Option Addr) (klen kcap : Nat) (V : List Int) (fa : Option Addr) (flen fcap : Nat) (fs : List (List UInt8)) (w : World) (hk : KIn w ka klen V) (hf : TIn w fa flen fs) (hV : ∀ k ∈ V, noKind k = false) (hs : ∀ f ∈ fs, f.length ≤ 4294967296) (hl : klen ≤ 1000000000) (hL : Laid w) :
    Calls Tryz.prog 49 #[.slice ka klen kcap, .slice fa flen fcap] w (ArgsPost (readL V fs 2) w) := by
  have HK := Lib.hid hk
  have HF := Lib.hid hf
  have HKl := Lib.hid hk.leng
  have HFl := Lib.hid hf.leng
  have hksm := hk.small
  have hfsm := hf.small
  have HX0 := Lib.hid (readX_zero V fs)
  have HL := Lib.hid (fun w1 k => hL.below (w' := w1) k)
  have HA := Lib.hid (fun (k : Int) (f : List UInt8) w1 (hk : noKind k = false) (hf : f.length ≤ 4294967296) (hL : Laid w1) => readArg_calls k ⟨f.toArray⟩ w1 hk hf hL)
  have HV : Hid (∀ n, n < V.length → noKind (V.getD n 0) = false) := Lib.hid (fun n hn => hV _ (by simp [List.getD, hn]))
  have HSz : Hid (∀ n, n < fs.length → (fs.getD n []).length ≤ 4294967296) := Lib.hid (fun n hn => hs _ (by simp [List.getD, hn]))
  obtain ⟨i0, hi, hz0, hz1, hz2⟩ := cs_parts infoV
  have HI := Lib.hid hi
  have HZ0 := Lib.hid hz0
  have HZ1 := Lib.hid hz1
  have HZ2 := Lib.hid hz2
  clear hk hf hV hs hL hi hz0 hz1 hz2
  obtain ⟨m, hm⟩ : ∃ m : Nat, m = min klen flen := ⟨_, rfl⟩
  have hmi : min (klen : Int) (flen : Int) = (m : Int) := by omega
  have hm1 : m ≤ klen := by omega
  have hm2 : m ≤ flen := by omega
  go_enter Tryz.func49, Tryz.ntmps49
  go_wp2_with fail
  go_loopw [6, 15] (fun o i wr => ∃ (n : Nat) (A : List Vd), n ≤ m ∧ i = .int .i64 n ∧ A.length = n ∧ Hid (readX V fs n A) ∧ Hid (allD A) ∧ Hid (wr.ownsRow w.heap.size 44 4 o A.length (cellsV A)) ∧ Hid (Below w.heap.size w wr)) (fun _ i _ => m - (intOf i).toNat)
  case atStart => exact ⟨0, [], Nat.zero_le _, rfl, rfl, HX0, Lib.hid (fun v hv => by simp at hv), Lib.hid (World.ownsRow_nil _ _ _ _), Lib.hid (Below.refl _ _)⟩
  case round =>
    obtain ⟨n, A, hn, rfl, hAn, HX, HD, HO, HB⟩ := hrel
    subst hAn
    obtain ⟨n, hn2⟩ : ∃ n, n = A.length := ⟨_, rfl⟩
    rw [← hn2] at hn HX HO ⊢
    have HAn := Lib.hid hn2
    obtain ⟨oa, oc, rfl⟩ := cs_own HO.out
    clear hn2
    by_cases hlt : n < m
    case neg =>
      have hnm : n = m := by omega
      obtain ⟨a2, c2, e2, h3, h4⟩ := own_vo (by rw [← HAn.out]; exact HO.out) (argsFit HD.out)
      rw [← HAn.out] at e2
      cases e2
      by_cases hkf : klen = flen
      · have HE := Lib.hid (readX_end HX.out (by rw [HKl.out]; omega) (by rw [HFl.out]; omega))
        have t1 : ((klen : Int) != (flen : Int)) = false := by simp; omega
        have HR := Lib.hid (And.intro h3 h4)
        clear h3 h4 HX HO hmi
        go_wp2_with fail
        go_ret2
        exact args_ok HE.out ⟨oa, oc, by rw [← HAn.out]; rfl, HR.out⟩ HB.out
      · have HE := Lib.hid (readX_count HX.out (by rw [HKl.out, HFl.out]; omega))
        have t1 : ((klen : Int) != (flen : Int)) = true := by simp; omega
        have hc2 : (2 : Int) + (n : Int) = ((n + 2 : Nat) : Int) := by omega
        have i6 : IntKind.i64.wrap ((2 : Int) + (n : Int)) = (2 : Int) + (n : Int) := by rw [IntKind.wrap_i64]; omega
        clear h3 h4 HX HO hmi
        go_wp2_with fail
        go_ret2
        exact args_no HE.out ⟨_, rfl, wr.heap.size, rfl, HB.out.size, err_new _ _ _ _ _ (by omega) rfl⟩ (HB.out.alloc HB.out.size _)
    case pos =>
      obtain ⟨gk, ofk, rfl, hgk, hck⟩ := (HK.out.below HB.out).at' n (by omega)
      obtain ⟨gf, off, rfl, hcf⟩ := HF.out.at' HB.out (show n < flen by omega)
      have HKN := Lib.hid (HV.out n (by rw [HKl.out]; omega))
      have HFN := Lib.hid (HSz.out n (by rw [HFl.out]; omega))
      have HMo := Lib.hid (fun e => readX_more HX.out (by rw [HKl.out]; omega) (by rw [HFl.out]; omega) e)
      have HBa := Lib.hid (fun e => readX_bad HX.out (by rw [HKl.out]; omega) (by rw [HFl.out]; omega) e)
      generalize V.getD n 0 = k at hck HKN HMo HBa
      obtain ⟨f, hfe⟩ : ∃ f, f = fs.getD n [] := ⟨_, rfl⟩
      rw [← hfe] at hcf HFN HMo HBa
      have H1 := Lib.hid (fun w1 hL => HA.out k f w1 HKN.out HFN.out hL)
      have HG := Lib.hid (fun e => arg_good (noKind_three HKN.out) (f := f) e)
      have HE := Lib.hid (fun e => argV_err k f e)
      obtain ⟨⟨⟨vk, vi, vs, vb⟩, er⟩, hv⟩ : ∃ p, p = argV k f := ⟨_, rfl⟩
      rw [← hv] at H1 HMo HBa HG HE
      obtain ⟨F, hF⟩ : ∃ F : ByteArray, F = ⟨f.toArray⟩ := ⟨_, rfl⟩
      rw [← hF] at hcf H1
      simp only [vdV] at H1
      clear hv hF hfe
      have hgf : gf < wr.heap.size := block_lt_of_cell hcf
      have HS : Hid (∀ w1, Below wr.heap.size wr w1 → (w1.cell? ⟨gk, ofk + n, none⟩ = some (.int .i64 (k)) ∧ w1.cell? ⟨gf, off + n, none⟩ = some (.string F))) := Lib.hid (fun w1 h => ⟨(h.cell (p := ⟨gk, ofk + n, none⟩) hgk).trans hck, (h.cell (p := ⟨gf, off + n, none⟩) hgf).trans hcf⟩)
      have HLa : Hid (∀ w1, Below wr.heap.size wr w1 → Laid w1) := Lib.hid (fun w1 h => HL.out w1 (HB.out.trans (h.mono HB.out.size)))
      have HD1 := Lib.hid ((Below.refl wr.heap.size wr).drew)
      have HD2 := Lib.hid (((Below.refl wr.heap.size wr).alloc (Nat.le_refl _) (.cells #[.int .i64 0, .int .i64 0, .string ⟨#[]⟩, .bool false] 44)).drew)
      have i1 : (0 : Int) ≤ (n : Int) := by omega
      have i2 : (n : Int) < (klen : Int) := by omega
      have i3 : (n : Int) < (flen : Int) := by omega
      have i4 : n < klen := by omega
      have i5 : n < flen := by omega
      have HBx := Lib.hid (Boxed.new 0 0 ⟨#[]⟩ false wr 44)
      have HFx := Lib.hid (Free4.new #[.int .i64 0, .int .i64 0, .string ⟨#[]⟩, .bool false] wr 44)
      go_upto_region 5 with fail
      go_cut [8, 9, 15] from 15 to 43 (fun p er' i' wx => er' = .int .i64 (er : Nat) ∧ i' = .int .i64 n ∧ ∃ P, p = .pointer (some ⟨P, 0, none⟩) ∧ wr.heap.size ≤ P ∧ P < wx.heap.size ∧ Hid (Boxed P vk vi vs vb wx) ∧ Hid (Below wr.heap.size wr wx))
      case first =>
        go_region_held3 (fun wx => wx.cell? ⟨gk, ofk + n, none⟩ = some (.int .i64 (k)) ∧ wx.cell? ⟨gf, off + n, none⟩ = some (.string F)) (first | exact HS.out _ HD1.out | exact HS.out _ HD2.out | exact HS.out _ HB4.out | exact HS.out _ HB5.out | exact HS.out _ HB6.out) (first
          | (go_at_call 70; refine (H1.out _ (HLa.out _ HD1.out)).mono ?_; rintro e w4 ⟨rfl, k4⟩; have HB4 := Lib.hid (HD1.out.trans (k4.mono HD1.out.size)); have HB5 := Lib.hid (HB4.out.alloc HB4.out.size (.cells #[.int .i64 0, .int .i64 0, .string ⟨#[]⟩, .bool false] 44)); have HB6 := Lib.hid (HB4.out.alloc HB4.out.size (.cells #[.int .i64 vk, .int .i64 vi, .string vs, .bool vb] 44)))
          | (go_at_call 70; refine (H1.out _ (HLa.out _ HD2.out)).mono ?_; rintro e w4 ⟨rfl, k4⟩; have HB4 := Lib.hid (HD2.out.trans (k4.mono HD2.out.size)); obtain ⟨c0, c1, c2, c3⟩ := (HBx.out.drew).below k4 (by simp); have HX4 := Lib.hid ((HBx.out.drew).below k4 (by simp)); have HB6 := Lib.hid (below_set4 HB4.out (Nat.le_refl _) (.int .i64 vk) (.int .i64 vi) (.string vs) (.bool vb)); have HS4 := Lib.hid (show wr.heap.size < w4.heap.size from Nat.lt_of_lt_of_le (by simp) k4.size); obtain ⟨f0, f1, f2, f3⟩ := (show Free4 wr.heap.size (wr.alloc (.cells #[.int .i64 0, .int .i64 0, .string ⟨#[]⟩, .bool false] 44)).drew from HFx.out).below k4 (by simp)))
        all_goals (go_wp2_with fail)
        all_goals go_meet
        all_goals first
          | exact ⟨rfl, rfl, w4.heap.size, rfl, HB4.out.size, by simp, Lib.hid (Boxed.new vk vi vs vb w4 44), HB6⟩
          | exact ⟨rfl, rfl, wr.heap.size, rfl, Nat.le_refl _, by rw [size_set4]; exact HS4.out, Lib.hid (HX4.out.set vk vi vs vb), HB6⟩
      case rest =>
        obtain ⟨rfl, rfl, P, rfl, hP0, hP1, HBP, HBW⟩ := hcut
        have HB1 := Lib.hid (HB.out.trans (HBW.out.mono HB.out.size))
        have HO1 := Lib.hid (cs_ownBelow HO.out HBW.out)
        by_cases h0 : er = 0
        · subst h0
          have HMo2 := Lib.hid (HMo.out rfl)
          have hg := HG.out rfl
          have HD2 : Hid (allD (A ++ [⟨vk, vi, vs, vb⟩])) := Lib.hid (fun v hv => by
            rcases List.mem_append.1 hv with h | h
            · exact HD.out v h
            · rw [List.mem_singleton] at h; subst h; exact hg.1)
          obtain ⟨c0, c1, c2, c3⟩ := HBP.out
          clear hg HMo HBa HG HE HBP HB HO
          go_wp2_with (at_builtin; refine wpList_append_own _ rfl _ _ 27 rfl w.heap.size 44 i0 (.agg #[.int .i64 0, .int .i64 0, .string ⟨#[]⟩, .bool false]) 4 40 Tryz.underlying27 HI.out HZ0.out HZ1.out HZ2.out rfl (by decide) _ _ _ rfl (HO1.out.alloc _) _ 1 1 [.int .i64 vk, .int .i64 vi, .string vs, .bool vb] rfl rfl ?c1 ?c2 ?c3 ?c4 ?c5 ?_)
          case c2 => exact ⟨rfl, rfl, rfl, rfl⟩
          case c3 => unfold maxLen; omega
          case c4 => omega
          case c5 => have := HB1.out.size; simp; omega
          intro v' w2 hown' hgrow _
          have k5 := (HB1.out.alloc HB1.out.size _).grown hgrow (by have := HB1.out.size; simp; omega) (fun k hk => (HO1.out.lt k hk).1)
          have HO2 : Hid (w2.ownsRow w.heap.size 44 4 v' (A ++ [(⟨vk, vi, vs, vb⟩ : Vd)]).length (cellsV (A ++ [⟨vk, vi, vs, vb⟩]))) := Lib.hid (by rw [cellsV_app, List.length_append, ← HAn.out]; exact hown')
          have HB2 := Lib.hid k5
          clear hown' hgrow k5 HO1 HB1
          go_wp2_with fail
          go_roundw
          case rel => exact ⟨n + 1, A ++ [⟨vk, vi, vs, vb⟩], by omega, by go_num, by rw [List.length_append, ← HAn.out]; rfl, HMo2, HD2, HO2, HB2⟩
          case measure => simp [intOf]; omega
        · have t1 : ((er : Int) != 0) = true := by simpa using h0
          have HV := Lib.hid (HBa.out h0)
          have hc2 : (2 : Int) + (n : Int) = ((n + 2 : Nat) : Int) := by omega
          have i6 : IntKind.i64.wrap ((2 : Int) + (n : Int)) = (2 : Int) + (n : Int) := by rw [IntKind.wrap_i64]; omega
          clear h0 HMo HBa HG HE
          go_wp2_with fail
          go_ret2
          exact args_no HV.out ⟨_, rfl, wc.heap.size, rfl, HB1.out.size, err_new _ _ _ _ _ (by omega) rfl⟩ (HB1.out.alloc HB1.out.size _)
end Go.Proofs.YtmjchmamkjbgkaaGreatDoor

/- EvRow -/
namespace Go.Proofs.YtmjchmamkjbgkaaGreatDoor
open Go.RowKit
set_option linter.unusedVariables false

theorem cs_gtrans2 {a b c : World} {r : Option Nat} (h : a.grownBy b r) (k : b.grownBy c r) : a.grownBy c r :=
  ⟨k.os.trans h.os, k.tape.trans h.tape, k.output.trans h.output, Nat.le_trans h.size k.size, fun i hi hne => (k.block i (Nat.lt_of_lt_of_le hi h.size) hne).trans (h.block i hi hne)⟩
/-- A schema with which nothing is wrong, as far as events need it. -/
def SchOk (L : List Dc) : Prop := kindsR L ∧ ∀ n, n < L.length → (ksAt L n).length ≤ 8 ∧ (nmAt L n).size ≤ 32
/-- An event as the model has it. -/
def evV (x : ByteArray) (a : Option Addr) (len cap : Nat) : Value := .agg #[.string x, .slice a len cap]
/-- What is told of a row. -/
def RowRes (x : Except (Nat × Nat) Ev) (w : World) (e : Ending) (w' : World) : Prop :=
  (match x with
   | .ok y => ∃ a cap, e = .returned (.tuple #[.agg #[.string y.1, .slice a y.2.length cap], .nilIface]) ∧ VIn w' a y.2.length y.2 ∧ VObj w' a
   | .error (er, c) => ∃ v, e = .returned (.tuple #[.agg #[.string ⟨#[]⟩, .slice none 0 0], v]) ∧ ErrAt w' w.heap.size v er c) ∧ Below w.heap.size w w'
theorem row_ok {x : Except (Nat × Nat) Ev} {y : ByteArray} {A : List Vd} {w w' : World} {e : Ending} (hx : x = .ok (y, A)) (h : ∃ a cap, e = .returned (.tuple #[.agg #[.string y, .slice a A.length cap], .nilIface]) ∧ VIn w' a A.length A ∧ VObj w' a) (hb : Below w.heap.size w w') : RowRes x w e w' := by
  subst hx; exact ⟨h, hb⟩
theorem row_no {x : Except (Nat × Nat) Ev} {er c : Nat} {w w' : World} {e : Ending} (hx : x = .error (er, c)) (h : ∃ v, e = .returned (.tuple #[.agg #[.string ⟨#[]⟩, .slice none 0 0], v]) ∧ ErrAt w' w.heap.size v er c) (hb : Below w.heap.size w w') : RowRes x w e w' := by
  subst hx; exact ⟨h, hb⟩
theorem find_parts {L : List Dc} {x : ByteArray} {i : Nat} (h : findL L x = some i) : findI L x = i ∧ findB L x = true := by
  rw [findI, findB, h]; exact ⟨rfl, rfl⟩
theorem find_not {L : List Dc} {x : ByteArray} (h : findL L x = none) : findI L x = 0 ∧ findB L x = false := by
  rw [findI, findB, h]; exact ⟨rfl, rfl⟩
theorem TIn.tail {w : World} {g off len : Nat} {x : List UInt8} {fs : List (List UInt8)} (h : TIn w (some ⟨g, off, none⟩) len (x :: fs)) : TIn w (some ⟨g, off + 1, none⟩) (len - 1) fs :=
  ⟨by have := h.leng; simp at this; omega, by have := h.small; omega, fun h0 => by
    obtain ⟨g', off', e, hg, hr⟩ := h.row (by omega)
    cases e
    refine ⟨g, off + 1, rfl, hg, fun j t hj => ?_⟩
    have := hr (j + 1) t (by simpa using hj)
    rw [show off + 1 + j = off + (j + 1) by omega]
    exact this⟩
theorem TIn.end' {w : World} {a : Option Addr} {len : Nat} {x : List UInt8} {fs : List (List UInt8)} (h : TIn w a len (x :: fs)) (h1 : len = 1) {b : Option Addr} : TIn w b 0 fs := by
  have := h.leng
  have hf : fs = [] := List.length_eq_zero_iff.1 (by simp at this; omega)
  subst hf
  exact TIn.nil

/-- The result's own block, an event's, as it was made; the world below as it was. -/
structure EvBox (w W : World) : Prop where
  below : Below w.heap.size w W
  blk : W.heap[w.heap.size]? = some (.cells #[.string ⟨#[]⟩, .slice none 0 0] 29 (0, 0))
theorem EvBox.new (w : World) : EvBox w (w.alloc (.cells #[.string ⟨#[]⟩, .slice none 0 0] 29)) :=
  ⟨(Below.refl _ _).alloc (Nat.le_refl _) _, heap_alloc_new _ _⟩
theorem EvBox.lt {w W : World} (h : EvBox w W) : w.heap.size < W.heap.size := (Array.getElem?_eq_some_iff.1 h.blk).1
theorem EvBox.step {w W W' : World} (h : EvBox w W) (k : Below W.heap.size W W') : EvBox w W' :=
  ⟨h.below.trans (k.mono h.below.size), (k.block _ h.lt).trans h.blk⟩
theorem EvBox.drew {w W : World} (h : EvBox w W) : EvBox w W.drew := h.step ((Below.refl W.heap.size W).drew)
theorem EvBox.cells {w W : World} (h : EvBox w W) : W.cell? ⟨w.heap.size, 0, none⟩ = some (.string ⟨#[]⟩) ∧ W.cell? ⟨w.heap.size, 1, none⟩ = some (.slice none 0 0) ∧ W.frozen? ⟨w.heap.size, 0, none⟩ = false ∧ W.frozen? ⟨w.heap.size, 1, none⟩ = false :=
  ⟨by rw [cell_of_row W _ 0 _ _ _ h.blk]; rfl, by rw [cell_of_row W _ 1 _ _ _ h.blk]; rfl, frozen_of_row W _ 0 _ _ h.blk, frozen_of_row W _ 1 _ _ h.blk⟩
theorem EvBox.cblk {w W : World} (h : EvBox w W) : CBlk W w.heap.size 29 := ⟨_, _, h.blk⟩
theorem ev_set2 (W : World) (N : Nat) (x y : Value) : W.grownBy ((W.setCell ⟨N, 0, none⟩ x).setCell ⟨N, 1, none⟩ y) (some N) := cs_gtrans2 cs_set cs_set
theorem EvBox.set {w W : World} (h : EvBox w W) (x y : Value) : Below w.heap.size w ((W.setCell ⟨w.heap.size, 0, none⟩ x).setCell ⟨w.heap.size, 1, none⟩ y) := (h.below.setCell (Nat.le_refl _) _).setCell (Nat.le_refl _) _
theorem ErrAt.mono {w : World} {B B' : Nat} {v : Value} {e c : Nat} (h : ErrAt w B v e c) (hb : B' ≤ B) : ErrAt w B' v e c := by
  obtain ⟨g, h1, h2, h3⟩ := h
  exact ⟨g, h1, Nat.le_trans hb h2, h3⟩
theorem ErrAt.grown {w w' : World} {B : Nat} {v : Value} {e c r : Nat} (h : ErrAt w B v e c) (hr : r < B) (hg : w.grownBy w' (some r)) : ErrAt w' B v e c := by
  obtain ⟨g, h1, h2, h3⟩ := h
  exact ⟨g, h1, h2, (hg.block g (Array.getElem?_eq_some_iff.1 h3).1 (fun k => by cases k; omega)).trans h3⟩

set_option maxHeartbeats 4000000 in
set_option maxRecDepth 100000 in
theorem readRow_calls (la : Option Addr) (llen lcap : Nat) (L : List Dc) (ra : Option Addr) (rlen rcap : Nat) (row : List (List UInt8)) (w : World) (hl : DIn w la llen L) (hr : TIn w ra rlen row) (hL : SchOk L) (hs : ∀ f ∈ row, f.length ≤ 4294967296) (hc : rlen ≤ rcap ∧ rcap ≤ 9223372036854775807) (hLa : Laid w) :
    Calls Tryz.prog 29 #[.slice la llen lcap, .slice ra rlen rcap] w (RowRes (ofL L row) w) := by
  have HE0 := Lib.hid (EvBox.new w)
  cases row with
  | nil =>
    obtain rfl : rlen = 0 := hr.leng.symm
    have HV := Lib.hid (of_nil L)
    clear hl hr hL hs hc hLa
    go_enter Tryz.func29, Tryz.ntmps29
    go_wp2_with fail
    (try simp only [Exit.inBlock, Exit.then])
    refine bodyPost_ret (v := .tuple #[.agg #[.string ⟨#[]⟩, .slice none 0 0], .iface 76 (.pointer (some ⟨w.heap.size + 1, 0, none⟩))]) ?_ rfl ?_
    · rw [results_cell_tmp rfl]
      go_simp
    · have h2 := err_new (w.alloc (.cells #[.string ⟨#[]⟩, .slice none 0 0] 29)) 1 12 1 12 rfl rfl
      rw [World.size_alloc] at h2
      exact row_no HV.out ⟨_, rfl, w.heap.size + 1, rfl, by omega, h2⟩ (HE0.out.below.alloc HE0.out.below.size _)
  | cons x fs =>
    obtain ⟨g, off, rfl, hx⟩ := hr.at' (Below.refl _ _) (show 0 < rlen by have := hr.leng; simp at this; omega)
    have hrl : rlen = fs.length + 1 := by have := hr.leng; simp at this; omega
    have hx2 : w.cell? ⟨g, off, none⟩ = some (.string ⟨x.toArray⟩) := by simpa using hx
    have hg := block_lt_of_cell hx2
    clear hx
    obtain ⟨X, hX⟩ : ∃ X : ByteArray, X = ⟨x.toArray⟩ := ⟨_, rfl⟩
    rw [← hX] at hx2
    have HX := Lib.hid hX
    have HF := Lib.hid (fun w1 (hb : Below w.heap.size w w1) => scFind_calls la llen lcap L X w1 (hl.below hb))
    have t0 : ((rlen : Int) == 0) = false := by rw [beq_eq_false_iff_ne]; omega
    have i0 : (0 : Int) < (rlen : Int) := by omega
    cases hf : findL L X with
    | none =>
      have HV := Lib.hid (of_noname (fs := fs) (by rw [← hX]; exact hf))
      rw [(find_not hf).1, (find_not hf).2] at HF
      clear hl hr hL hs hc hLa hX hf
      go_enter Tryz.func29, Tryz.ntmps29
      go_wp2_with fail
      refine (HF.out _ HE0.out.below).mono ?_
      rintro e w1 ⟨rfl, hw1⟩
      subst hw1
      go_wp2_with fail
      (try simp only [Exit.inBlock, Exit.then])
      refine bodyPost_ret (v := .tuple #[.agg #[.string ⟨#[]⟩, .slice none 0 0], .iface 76 (.pointer (some ⟨w.heap.size + 1, 0, none⟩))]) ?_ rfl ?_
      · rw [results_cell_tmp rfl]
        go_simp
      · have h2 := err_new (w.alloc (.cells #[.string ⟨#[]⟩, .slice none 0 0] 29)) 1 11 1 11 rfl rfl
        rw [World.size_alloc] at h2
        exact row_no HV.out ⟨_, rfl, w.heap.size + 1, rfl, by omega, h2⟩ (HE0.out.below.alloc HE0.out.below.size _)
    | some i =>
      obtain ⟨hil, hin⟩ := find_lt hf
      rw [(find_parts hf).1, (find_parts hf).2] at HF
      obtain ⟨gl, ofl, b, c, rfl, hgl, h1, h2, h3, h4⟩ := hl.at' i (by rw [← hl.leng]; exact hil)
      have hill : i < llen := by rw [← hl.leng]; exact hil
      have hkl := (hL.2 i hil).1
      obtain ⟨V, hVe⟩ : ∃ V, V = ksAt L i := ⟨_, rfl⟩
      rw [← hVe] at h2 h3 hkl
      have hVk : ∀ k ∈ V, noKind k = false := fun k hk => hL.1 i hil k (by rw [← hVe]; exact hk)
      obtain ⟨kl, hkle⟩ : ∃ kl, kl = V.length := ⟨_, rfl⟩
      rw [← hkle] at h2 h3 hkl
      have HC1 := Lib.hid (fun w1 (hb : Below w.heap.size w w1) => (hb.cell (p := ⟨gl, ofl + i * 2 + 1, none⟩) hgl).trans h2)
      have HA := Lib.hid (fun fa fl fc w1 (hb : Below w.heap.size w w1) (ht : TIn w1 fa fl fs) => readArgs_calls b kl c V fa fl fc fs w1 (h3.below hb) ht hVk (fun f hf => hs f (by simp [hf])) (by omega) (hLa.below hb))
      have HT1 : Hid (∀ w1, Below w.heap.size w w1 → TIn w1 (some ⟨g, off + 1, none⟩) (rlen - 1) fs) := Lib.hid (fun w1 hb => (hr.below hb).tail)
      have HT2 : Hid (rlen = 1 → ∀ w1, Below w.heap.size w w1 → TIn w1 (some ⟨g, off, none⟩) 0 fs) := Lib.hid (fun h1 w1 hb => (hr.below hb).end' h1)
      have i1 : (0 : Int) ≤ (i : Int) := by omega
      have i2 : (i : Int) < (llen : Int) := by omega
      have i3 : (1 : Int) ≤ (rlen : Int) := by omega
      have i4 : (rlen : Int) ≤ (rcap : Int) := by omega
      have i5 : 1 ≤ rlen := by omega
      have i6 : rlen ≤ rcap := hc.1
      have i7 : 0 < rlen := by omega
      have HOk : Hid (∀ A, readL V fs 2 = .ok A → ofL L (x :: fs) = .ok (X, A)) := Lib.hid (fun A h => by rw [hX] at hf ⊢; exact of_good hf (by rw [← hVe]; exact h))
      have HNo : Hid (∀ e, readL V fs 2 = .error e → ofL L (x :: fs) = .error e) := Lib.hid (fun e h => by rw [hX] at hf; exact of_wrong hf (by rw [← hVe]; exact h))
      have HD0 := Lib.hid (HE0.out.drew)
      cases hR : readL V fs 2 with
      | ok A =>
        have HV := Lib.hid (HOk.out A hR)
        rw [hR] at HA
        clear hl hr hL hs hc hLa hX hf h1 h2 h3 h4 hVe hVk hkle hR HOk HNo hin hil hrl
        by_cases hcn : rcap = 1
        · obtain rfl : rlen = 1 := by omega
          subst hcn
          clear t0 i0 i3 i4 i5 i6 i7 HT1
          have HT3 := Lib.hid (fun w1 hb => HT2.out rfl w1 hb)
          go_enter Tryz.func29, Tryz.ntmps29
          go_wp2_with fail
          refine (HF.out _ HE0.out.below).mono ?_
          rintro e w1 ⟨rfl, hw1⟩
          subst hw1
          have h2 := HC1.out _ HE0.out.below
          go_wp2_with fail
          have HS := Lib.hid h2
          go_region_held3 (fun wx => wx.cell? ⟨gl, ofl + i * 2 + 1, none⟩ = some (.slice b kl c)) (first | exact HS.out | exact HS4.out) (first
            | (go_at_call 49; refine (HA.out _ _ _ _ HD0.out.below (HT3.out _ HD0.out.below)).mono ?_; rintro e w4 ⟨⟨a, cap, rfl, hv1, hv2⟩, k4⟩; have HR4 := Lib.hid (And.intro hv1 hv2); have hE4 := HD0.out.step k4; have HE4 := Lib.hid hE4; have HS4 := Lib.hid (HC1.out _ hE4.below); clear k4 hv1 hv2))
          obtain ⟨c0, c1, f0, f1⟩ := HE4.out.cells
          go_wp2_with fail
          (try simp only [Exit.inBlock, Exit.then])
          refine bodyPost_ret (v := .tuple #[.agg #[.string X, .slice a A.length cap], .nilIface]) ?_ rfl ?_
          · rw [results_cell_tmp rfl]
            go_simp
          · exact row_ok HV.out ⟨a, cap, rfl, HR4.out.1.grown HR4.out.2 HE4.out.cblk (by decide) (ev_set2 _ _ _ _), HR4.out.2.grown HE4.out.cblk (by decide) (ev_set2 _ _ _ _)⟩ (HE4.out.set _ _)
        · go_enter Tryz.func29, Tryz.ntmps29
          go_wp2_with fail
          refine (HF.out _ HE0.out.below).mono ?_
          rintro e w1 ⟨rfl, hw1⟩
          subst hw1
          have h2 := HC1.out _ HE0.out.below
          go_wp2_with fail
          have HS := Lib.hid h2
          go_region_held3 (fun wx => wx.cell? ⟨gl, ofl + i * 2 + 1, none⟩ = some (.slice b kl c)) (first | exact HS.out | exact HS4.out) (first
            | (go_at_call 49; refine (HA.out _ _ _ _ HD0.out.below (HT1.out _ HD0.out.below)).mono ?_; rintro e w4 ⟨⟨a, cap, rfl, hv1, hv2⟩, k4⟩; have HR4 := Lib.hid (And.intro hv1 hv2); have hE4 := HD0.out.step k4; have HE4 := Lib.hid hE4; have HS4 := Lib.hid (HC1.out _ hE4.below); clear k4 hv1 hv2))
          obtain ⟨c0, c1, f0, f1⟩ := HE4.out.cells
          go_wp2_with fail
          (try simp only [Exit.inBlock, Exit.then])
          refine bodyPost_ret (v := .tuple #[.agg #[.string X, .slice a A.length cap], .nilIface]) ?_ rfl ?_
          · rw [results_cell_tmp rfl]
            go_simp
          · exact row_ok HV.out ⟨a, cap, rfl, HR4.out.1.grown HR4.out.2 HE4.out.cblk (by decide) (ev_set2 _ _ _ _), HR4.out.2.grown HE4.out.cblk (by decide) (ev_set2 _ _ _ _)⟩ (HE4.out.set _ _)
      | error e0 =>
        obtain ⟨er, ec⟩ := e0
        have HV := Lib.hid (HNo.out (er, ec) hR)
        rw [hR] at HA
        clear hl hr hL hs hc hLa hX hf h1 h2 h3 h4 hVe hVk hkle hR HOk HNo hin hil hrl
        by_cases hcn : rcap = 1
        · obtain rfl : rlen = 1 := by omega
          subst hcn
          clear t0 i0 i3 i4 i5 i6 i7 HT1
          have HT3 := Lib.hid (fun w1 hb => HT2.out rfl w1 hb)
          go_enter Tryz.func29, Tryz.ntmps29
          go_wp2_with fail
          refine (HF.out _ HE0.out.below).mono ?_
          rintro e w1 ⟨rfl, hw1⟩
          subst hw1
          have h2 := HC1.out _ HE0.out.below
          go_wp2_with fail
          have HS := Lib.hid h2
          go_region_held3 (fun wx => wx.cell? ⟨gl, ofl + i * 2 + 1, none⟩ = some (.slice b kl c)) (first | exact HS.out | exact HS4.out) (first
            | (go_at_call 49; refine (HA.out _ _ _ _ HD0.out.below (HT3.out _ HD0.out.below)).mono ?_; rintro e w4 ⟨⟨v, rfl, hv⟩, k4⟩; have hE4 := HD0.out.step k4; have HE4 := Lib.hid hE4; have HS4 := Lib.hid (HC1.out _ hE4.below); have HR4 := Lib.hid (hv.mono (B' := w.heap.size + 1) (by simp)); obtain ⟨ge, hge, _, _⟩ := hv; subst hge; clear k4))
          obtain ⟨c0, c1, f0, f1⟩ := HE4.out.cells
          go_wp2_with fail
          (try simp only [Exit.inBlock, Exit.then])
          refine bodyPost_ret (v := .tuple #[.agg #[.string ⟨#[]⟩, .slice none 0 0], .iface 76 (.pointer (some ⟨ge, 0, none⟩))]) ?_ rfl ?_
          · rw [results_cell_tmp rfl]
            go_simp
          · exact row_no HV.out ⟨_, rfl, (HR4.out.grown (by omega) (ev_set2 _ _ _ _)).mono (by omega)⟩ (HE4.out.set _ _)
        · go_enter Tryz.func29, Tryz.ntmps29
          go_wp2_with fail
          refine (HF.out _ HE0.out.below).mono ?_
          rintro e w1 ⟨rfl, hw1⟩
          subst hw1
          have h2 := HC1.out _ HE0.out.below
          go_wp2_with fail
          have HS := Lib.hid h2
          go_region_held3 (fun wx => wx.cell? ⟨gl, ofl + i * 2 + 1, none⟩ = some (.slice b kl c)) (first | exact HS.out | exact HS4.out) (first
            | (go_at_call 49; refine (HA.out _ _ _ _ HD0.out.below (HT1.out _ HD0.out.below)).mono ?_; rintro e w4 ⟨⟨v, rfl, hv⟩, k4⟩; have hE4 := HD0.out.step k4; have HE4 := Lib.hid hE4; have HS4 := Lib.hid (HC1.out _ hE4.below); have HR4 := Lib.hid (hv.mono (B' := w.heap.size + 1) (by simp)); obtain ⟨ge, hge, _, _⟩ := hv; subst hge; clear k4))
          obtain ⟨c0, c1, f0, f1⟩ := HE4.out.cells
          go_wp2_with fail
          (try simp only [Exit.inBlock, Exit.then])
          refine bodyPost_ret (v := .tuple #[.agg #[.string ⟨#[]⟩, .slice none 0 0], .iface 76 (.pointer (some ⟨ge, 0, none⟩))]) ?_ rfl ?_
          · rw [results_cell_tmp rfl]
            go_simp
          · exact row_no HV.out ⟨_, rfl, (HR4.out.grown (by omega) (ev_set2 _ _ _ _)).mono (by omega)⟩ (HE4.out.set _ _)
end Go.Proofs.YtmjchmamkjbgkaaGreatDoor

/- EvSame -/
namespace Go.Proofs.YtmjchmamkjbgkaaGreatDoor
open Go.RowKit
set_option linter.unusedVariables false

set_option maxHeartbeats 2000000 in
set_option maxRecDepth 100000 in
theorem eqVals_calls (a : Option Addr) (la ca : Nat) (A : List Vd) (b : Option Addr) (lb cb : Nat) (B : List Vd) (w : World) (hA : VIn w a la A) (hB : VIn w b lb B) :
    Calls Tryz.prog 43 #[.slice a la ca, .slice b lb cb] w fun e w' => e = .returned (.bool (sameL A B)) ∧ Below w.heap.size w w' := by
  have HA := Lib.hid hA
  have HB := Lib.hid hB
  have HAl := Lib.hid hA.leng
  have HBl := Lib.hid hB.leng
  have hsa := hA.small
  have hsb := hB.small
  have H0 := Lib.hid (sameTo_zero A B)
  have q2 := guardV
  clear hA hB
  by_cases hlen : la = lb
  · have t1 : ((la : Int) != (lb : Int)) = false := by simp; omega
    go_enter Tryz.func43, Tryz.ntmps43
    go_wp2_with fail
    go_loopw [13] (fun i wr => ∃ (n : Nat), n ≤ la ∧ i = .int .i64 n ∧ Hid (sameTo A B n) ∧ Hid (Below w.heap.size w wr)) (fun i _ => la - (intOf i).toNat)
    case atStart => exact ⟨0, Nat.zero_le _, rfl, H0, Lib.hid (Below.refl _ _)⟩
    case round =>
      obtain ⟨n, hn, rfl, HX, HW⟩ := hrel
      by_cases hlt : n < la
      case neg =>
        have HV := Lib.hid (sameTo_end HX.out (by rw [HAl.out]; omega) (by rw [HBl.out]; omega))
        go_wp2_with fail
        go_ret
        exact ⟨by rw [HV.out]; rfl, HW.out⟩
      case pos =>
        obtain ⟨ga, oa, rfl, a0, a1, a2, a3⟩ := (HA.out.below HW.out).at' hlt
        obtain ⟨gb, ob, rfl, b0, b1, b2, b3⟩ := (HB.out.below HW.out).at' (show n < lb by omega)
        have HS := Lib.hid (sameTo_step HX.out (by rw [HAl.out]; exact hlt) (by rw [HBl.out]; omega))
        obtain ⟨⟨k, i, s, x⟩, hv⟩ : ∃ v, v = A.getD n default := ⟨_, rfl⟩
        obtain ⟨⟨k', i', s', x'⟩, hu⟩ : ∃ v, v = B.getD n default := ⟨_, rfl⟩
        rw [← hv] at a0 a1 a2 a3 HS
        rw [← hu] at b0 b1 b2 b3 HS
        clear hv hu
        simp only at a0 a1 a2 a3 b0 b1 b2 b3
        have q1 := fun w => eqIn k i s x k' i' s' x' w
        have i1 : (0 : Int) ≤ (n : Int) := by omega
        have i2 : (n : Int) < (la : Int) := by omega
        have i3 : (n : Int) < (lb : Int) := by omega
        cases he : eqB k i s x k' i' s' x'
        · rw [he] at q1
          have HV : Hid (sameL A B = false) := Lib.hid (by rw [HS.out]; show (eqB k i s x k' i' s' x' && _) = false; rw [he]; rfl)
          clear he
          go_wp2_with fail
          go_quiet (fail)
          go_wp2_with fail
          go_ret
          exact ⟨by rw [HV.out]; rfl, below_drewN _ HW.out⟩
        · rw [he] at q1
          have HV : Hid (sameTo A B (n + 1)) := Lib.hid (by unfold sameTo; rw [HS.out]; show (eqB k i s x k' i' s' x' && _) = _; rw [he]; rfl)
          clear he
          go_wp2_with fail
          go_quiet (fail)
          go_wp2_with fail
          go_roundw
          case rel => exact ⟨n + 1, hlt, by go_num, HV, Lib.hid (below_drewN _ HW.out)⟩
          case measure => simp [intOf]; omega
  · have HV := Lib.hid (sameL_ne (A := A) (B := B) (by rw [HAl.out, HBl.out]; exact hlen))
    have t1 : ((la : Int) != (lb : Int)) = true := by simp; omega
    go_enter Tryz.func43, Tryz.ntmps43
    go_wp2_with fail
    go_ret
    exact ⟨by rw [HV.out]; rfl, Below.refl _ _⟩

/-- An event in a block of its own. -/
def EBx (g : Nat) (x : ByteArray) (s : Value) (w : World) : Prop := w.cell? ⟨g, 0, none⟩ = some (.string x) ∧ w.cell? ⟨g, 1, none⟩ = some s
theorem EBx.new (x : ByteArray) (s : Value) (w : World) (t : TypeId) : EBx w.heap.size x s (w.alloc (.cells #[.string x, s] t)) :=
  ⟨by rw [World.cell?_alloc_at (hn := rfl)]; rfl, by rw [World.cell?_alloc_at (hn := rfl)]; rfl⟩
theorem EBx.below {g : Nat} {x : ByteArray} {s : Value} {w w' : World} {B : Nat} (h : EBx g x s w) (hb : Below B w w') (hg : g < B) : EBx g x s w' :=
  ⟨(hb.cell (p := ⟨g, 0, none⟩) hg).trans h.1, (hb.cell (p := ⟨g, 1, none⟩) hg).trans h.2⟩

set_option maxHeartbeats 2000000 in
set_option maxRecDepth 100000 in
theorem evSame_calls (x : ByteArray) (a : Option Addr) (la ca : Nat) (A : List Vd) (y : ByteArray) (b : Option Addr) (lb cb : Nat) (B : List Vd) (w : World) (hA : VIn w a la A) (hB : VIn w b lb B) :
    Calls Tryz.prog 21 #[.agg #[.string x, .slice a la ca], .agg #[.string y, .slice b lb cb]] w fun e w' => e = .returned (.bool (sameE (x, A) (y, B))) ∧ Below w.heap.size w w' := by
  have hb1 := ((Below.refl w.heap.size w).alloc (Nat.le_refl _) (.cells #[.string x, .slice a la ca] 29)).alloc (by simp) (.cells #[.string y, .slice b lb cb] 29)
  have HB1 := Lib.hid hb1
  have HE := Lib.hid (eqVals_calls a la ca A b lb cb B _ (hA.below hb1) (hB.below hb1))
  clear hA hB hb1
  cases hx : isT x y
  · have HV : Hid (sameE (x, A) (y, B) = false) := Lib.hid (by unfold sameE; simp only; rw [hx]; rfl)
    have t1 : (x.toList == y.toList) = false := hx
    clear hx
    go_enter Tryz.func21, Tryz.ntmps21
    go_wp2_with fail
    go_ret
    exact ⟨by rw [HV.out]; rfl, HB1.out⟩
  · have HV : Hid (sameE (x, A) (y, B) = sameL A B) := Lib.hid (by unfold sameE; simp only; rw [hx]; rfl)
    have t1 : (x.toList == y.toList) = true := hx
    clear hx
    go_enter Tryz.func21, Tryz.ntmps21
    go_wp2_with fail
    refine HE.out.mono ?_
    rintro e w1 ⟨rfl, k1⟩
    go_wp2_with fail
    go_ret
    exact ⟨by rw [HV.out]; rfl, HB1.out.trans (k1.mono HB1.out.size)⟩

set_option maxHeartbeats 4000000 in
set_option maxRecDepth 100000 in
theorem refEvSame_calls (x : ByteArray) (a : Option Addr) (la ca : Nat) (A : List Vd) (y : ByteArray) (b : Option Addr) (lb cb : Nat) (B : List Vd) (w : World) (hA : VIn w a la A) (hB : VIn w b lb B) :
    Calls Tryz.prog 13 #[.agg #[.string x, .slice a la ca], .agg #[.string y, .slice b lb cb]] w fun e w' => e = .returned (.bool (sameE (x, A) (y, B))) ∧ Below w.heap.size w w' := by
  have HA := Lib.hid hA
  have HB := Lib.hid hB
  have HAl := Lib.hid hA.leng
  have HBl := Lib.hid hB.leng
  have hsa := hA.small
  have hsb := hB.small
  have H0 := Lib.hid (sameTo_zero A B)
  have q2 := guardV
  have hb1 := ((Below.refl w.heap.size w).alloc (Nat.le_refl _) (.cells #[.string x, .slice a la ca] 29)).alloc (by simp) (.cells #[.string y, .slice b lb cb] 29)
  have HB1 := Lib.hid hb1
  have HX1 := Lib.hid ((EBx.new x (.slice a la ca) w 29).below ((Below.refl (w.alloc (.cells #[.string x, .slice a la ca] 29)).heap.size _).alloc (Nat.le_refl _) (.cells #[.string y, .slice b lb cb] 29)) (by simp))
  have HX2 : Hid (EBx (w.heap.size + 1) y (.slice b lb cb) ((w.alloc (.cells #[.string x, .slice a la ca] 29)).alloc (.cells #[.string y, .slice b lb cb] 29))) := Lib.hid (by have := EBx.new y (.slice b lb cb) (w.alloc (.cells #[.string x, .slice a la ca] 29)) 29; rw [World.size_alloc] at this; exact this)
  clear hA hB hb1
  cases hx : isT x y
  · have HV : Hid (sameE (x, A) (y, B) = false) := Lib.hid (by unfold sameE; simp only; rw [hx]; rfl)
    have t1 : (x.toList == y.toList) = false := hx
    clear hx
    go_enter Tryz.func13, Tryz.ntmps13
    go_wp2_with fail
    go_ret
    exact ⟨by rw [HV.out]; rfl, HB1.out⟩
  · have HVE : Hid (sameE (x, A) (y, B) = sameL A B) := Lib.hid (by unfold sameE; simp only; rw [hx]; rfl)
    have t1 : (x.toList == y.toList) = true := hx
    clear hx
    by_cases hlen : la = lb
    · subst hlen
      have t2 : ((la : Int) != (la : Int)) = false := by simp
      go_enter Tryz.func13, Tryz.ntmps13
      go_wp2_with fail
      obtain ⟨W1, hW1⟩ : ∃ W1, ((w.alloc (.cells #[.string x, .slice a la ca] 29)).alloc (.cells #[.string y, .slice b la cb] 29)) = W1 := ⟨_, rfl⟩
      rw [hW1] at HB1 HX1 HX2 ⊢
      have hz : w.heap.size + 1 < W1.heap.size := by rw [← hW1]; simp
      clear hW1
      go_loopw [5] (fun i wr => ∃ (n : Nat), n ≤ la ∧ i = .int .i64 n ∧ Hid (sameTo A B n) ∧ Hid (Below W1.heap.size W1 wr)) (fun i _ => la - (intOf i).toNat)
      case atStart => exact ⟨0, Nat.zero_le _, rfl, H0, Lib.hid (Below.refl _ _)⟩
      case round =>
        obtain ⟨n, hn, rfl, HX, HW⟩ := hrel
        obtain ⟨d0, d1⟩ := HX1.out.below HW.out (by omega)
        obtain ⟨d2, d3⟩ := HX2.out.below HW.out (by omega)
        have HWB := Lib.hid (HB1.out.trans (HW.out.mono HB1.out.size))
        by_cases hlt : n < la
        case neg =>
          have HV := Lib.hid (sameTo_end HX.out (by rw [HAl.out]; omega) (by rw [HBl.out]; omega))
          go_wp2_with fail
          go_ret
          exact ⟨by rw [HVE.out, HV.out]; rfl, HWB.out⟩
        case pos =>
          obtain ⟨ga, oa, rfl, a0, a1, a2, a3⟩ := (HA.out.below HWB.out).at' hlt
          obtain ⟨gb, ob, rfl, b0, b1, b2, b3⟩ := (HB.out.below HWB.out).at' (show n < la by omega)
          have HS := Lib.hid (sameTo_step HX.out (by rw [HAl.out]; exact hlt) (by rw [HBl.out]; omega))
          obtain ⟨⟨k, i, s, z⟩, hv⟩ : ∃ v, v = A.getD n default := ⟨_, rfl⟩
          obtain ⟨⟨k', i', s', z'⟩, hu⟩ : ∃ v, v = B.getD n default := ⟨_, rfl⟩
          rw [← hv] at a0 a1 a2 a3 HS
          rw [← hu] at b0 b1 b2 b3 HS
          clear hv hu
          simp only at a0 a1 a2 a3 b0 b1 b2 b3
          have q1 := fun w => eqIn k i s z k' i' s' z' w
          have i1 : (0 : Int) ≤ (n : Int) := by omega
          have i2 : (n : Int) < (la : Int) := by omega
          cases he : eqB k i s z k' i' s' z'
          · rw [he] at q1
            have HV : Hid (sameL A B = false) := Lib.hid (by rw [HS.out]; show (eqB k i s z k' i' s' z' && _) = false; rw [he]; rfl)
            clear he
            go_wp2_with fail
            go_quiet (fail)
            go_wp2_with fail
            go_ret
            exact ⟨by rw [HVE.out, HV.out]; rfl, below_drewN _ HWB.out⟩
          · rw [he] at q1
            have HV : Hid (sameTo A B (n + 1)) := Lib.hid (by unfold sameTo; rw [HS.out]; show (eqB k i s z k' i' s' z' && _) = _; rw [he]; rfl)
            clear he
            go_wp2_with fail
            go_quiet (fail)
            go_wp2_with fail
            go_roundw
            case rel => exact ⟨n + 1, hlt, by go_num, HV, Lib.hid (below_drewN _ HW.out)⟩
            case measure => simp [intOf]; omega
    · have HV := Lib.hid (sameL_ne (A := A) (B := B) (by rw [HAl.out, HBl.out]; exact hlen))
      have t2 : ((la : Int) != (lb : Int)) = true := by simp; omega
      go_enter Tryz.func13, Tryz.ntmps13
      go_wp2_with fail
      go_ret
      exact ⟨by rw [HVE.out, HV.out]; rfl, HB1.out⟩
end Go.Proofs.YtmjchmamkjbgkaaGreatDoor
