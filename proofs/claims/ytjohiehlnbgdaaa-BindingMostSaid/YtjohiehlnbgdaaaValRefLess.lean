/- Which of two values is ahead: the reference's Below and Less. -/
import Derived.Test.YtjohiehlnbgdaaaValRight
import Derived.Deep.QuietTactic
import Derived.BigQuiet
import Derived.IntWalk
namespace Go.Proofs.Ytjohiehlnbgdaaa
open Go.RowKit
set_option linter.unusedVariables false

/-- Whether a value is ahead of another one. -/
def lessB (k i : Int) (s : ByteArray) (b : Bool) (k' i' : Int) (s' : ByteArray) (b' : Bool) : Bool :=
  if k = k' then (if k = 1 then decide (i < i') else if k = 2 then Op.bytesLess s.toList s'.toList else if k = 3 then !b && b' else false) else decide (k < k')

theorem below_drewN {B : Nat} {a w : World} (n : Nat) (h : Below B a w) : Below B a (w.drewN n) := ⟨h.os, h.tape, h.output, h.size, h.block⟩
theorem bl_same (a : UInt8) (x y : List UInt8) : Op.bytesLess (a :: x) (a :: y) = Op.bytesLess x y := by
  simp [Op.bytesLess]
theorem bl_drop : ∀ (k : Nat) (l m : List UInt8), k ≤ l.length → k ≤ m.length → l.take k = m.take k → Op.bytesLess l m = Op.bytesLess (l.drop k) (m.drop k)
  | 0, _, _, _, _, _ => by simp
  | k + 1, [], _, h, _, _ => by simp at h
  | k + 1, _ :: _, [], _, h, _ => by simp at h
  | k + 1, a :: x, c :: y, h1, h2, h => by
    simp only [List.take_succ_cons, List.cons.injEq] at h
    obtain ⟨rfl, h⟩ := h
    rw [bl_same, List.drop_succ_cons, List.drop_succ_cons]
    exact bl_drop k x y (by simpa using h1) (by simpa using h2) h
theorem bl_nil (l : List UInt8) : Op.bytesLess l [] = false := by cases l <;> rfl
theorem bl_ne {a c : UInt8} (h : a ≠ c) (x y : List UInt8) : Op.bytesLess (a :: x) (c :: y) = decide (a.toNat < c.toNat) := by
  simp only [Op.bytesLess]
  rw [show (a == c) = false by simpa using h]
  simp [UInt8.lt_iff_toNat_lt]
theorem bl_end (l m : List UInt8) (h : l.length ≤ m.length) (e : l = m.take l.length) : Op.bytesLess l m = decide (l.length < m.length) := by
  rw [bl_drop l.length l m (Nat.le_refl _) h (by rw [List.take_length]; exact e), List.drop_length]
  by_cases hl : l.length < m.length
  · rw [List.drop_eq_getElem_cons hl]; simp [Op.bytesLess, hl]
  · rw [List.drop_eq_nil_iff.2 (by omega)]; simp [Op.bytesLess, hl]
theorem bl_end' (l m : List UInt8) (h : m.length ≤ l.length) (e : l.take m.length = m) : Op.bytesLess l m = false := by
  rw [bl_drop m.length l m h (Nat.le_refl _) (by rw [List.take_length]; exact e), List.drop_length, bl_nil]

theorem tl_len (a : ByteArray) : a.toList.length = a.size := by rw [ByteArray.toList_eq, Array.length_toList]; rfl
theorem tl_at (a : ByteArray) (k : Nat) (h : k < a.size) : a.toList[k]'(by rw [tl_len]; exact h) = a[k] := by
  simp only [ByteArray.toList_eq]
  rfl

set_option maxHeartbeats 1000000 in
theorem refBelow_calls (x y : ByteArray) (w : World) (hx : x.size ≤ 9223372036854775807) (hy : y.size ≤ 9223372036854775807) :
    Calls Try.prog 62 #[.string x, .string y] w fun e w' => e = .returned (.bool (Op.bytesLess x.toList y.toList)) ∧ Below w.heap.size w w' := by
  obtain ⟨l, hl⟩ : ∃ l, l = x.toList := ⟨_, rfl⟩
  obtain ⟨m, hm⟩ : ∃ m, m = y.toList := ⟨_, rfl⟩
  have hln : l.length = x.size := by rw [hl, tl_len]
  have hmn : m.length = y.size := by rw [hm, tl_len]
  rw [← hl, ← hm]
  have HL := Lib.hid hl
  have HM := Lib.hid hm
  have HLN := Lib.hid hln
  have HMN := Lib.hid hmn
  clear hl hm hln hmn
  go_enter Try.func62, Try.ntmps62
  go_wp2_with fail
  go_loopw [5] (fun i wr => ∃ (k : Nat), k ≤ x.size ∧ k ≤ y.size ∧ i = .int .i64 k ∧ Hid (l.take k = m.take k) ∧ Below w.heap.size w wr) (fun i _ => x.size - (intOf i).toNat)
  case atStart => exact ⟨0, Nat.zero_le _, Nat.zero_le _, rfl, Lib.hid rfl, Below.refl _ _⟩
  case round =>
    obtain ⟨k, hk1, hk2, rfl, HT, kb⟩ := hrel
    by_cases h1 : k < x.size
    case neg =>
      have HE : Hid (Op.bytesLess l m = decide (x.size < y.size)) := Lib.hid (by
        have e : l.length = k := by rw [HLN.out]; omega
        have := bl_end l m (by rw [HLN.out, HMN.out]; omega) (by rw [e, ← HT.out, ← e, List.take_length])
        rwa [HLN.out, HMN.out] at this)
      have t1 : decide (k < x.size) = false := by simpa using h1
      go_wp2_with fail
      go_ret
      rw [HE.out]
      exact ⟨by simp, kb⟩
    case pos =>
      have t1 : decide (k < x.size) = true := by simpa using h1
      by_cases h2 : k < y.size
      case neg =>
        have HE : Hid (Op.bytesLess l m = false) := Lib.hid (by
          have e : m.length = k := by rw [HMN.out]; omega
          exact bl_end' l m (by rw [HLN.out, HMN.out]; omega) (by rw [e, HT.out, ← e, List.take_length]))
        have t2 : decide (k < y.size) = false := by simpa using h2
        have t3 : decide (x.size < y.size) = false := by simp; omega
        go_wp2_with fail
        go_ret
        rw [HE.out]
        exact ⟨rfl, kb⟩
      case pos =>
        have t2 : decide (k < y.size) = true := by simpa using h2
        have hlk : k < l.length := by rw [HLN.out]; exact h1
        have hmk : k < m.length := by rw [HMN.out]; exact h2
        have hlx : l[k] = x[k] := by have := HL.out; subst this; exact tl_at x k h1
        have hmy : m[k] = y[k] := by have := HM.out; subst this; exact tl_at y k h2
        by_cases he : x[k] = y[k]
        · have t3 : ((x[k].toNat : Int) != (y[k].toNat : Int)) = false := by rw [he]; simp
          have HT2 : Hid (l.take (k + 1) = m.take (k + 1)) := Lib.hid (by rw [List.take_succ_eq_append_getElem hlk, List.take_succ_eq_append_getElem hmk, HT.out, hlx, hmy, he])
          clear he hlx hmy hlk hmk
          go_wp2_with fail
          go_quiet (fail)
          go_wp2_with fail
          go_roundw
          case rel => exact ⟨k + 1, by omega, by omega, by go_num, HT2, below_drewN _ kb⟩
          case measure => simp [intOf]; omega
        · have t3 : ((x[k].toNat : Int) != (y[k].toNat : Int)) = true := by
            rw [bne_iff_ne]; intro e; exact he (UInt8.toNat_inj.1 (by omega))
          have HE : Hid (Op.bytesLess l m = decide (x[k].toNat < y[k].toNat)) := Lib.hid (by
            rw [bl_drop k l m (by omega) (by omega) HT.out, List.drop_eq_getElem_cons hlk, List.drop_eq_getElem_cons hmk, hlx, hmy, bl_ne he])
          clear he hlx hmy hlk hmk
          go_wp2_with fail
          go_quiet (fail)
          go_wp2_with fail
          go_quiet (fail)
          go_wp2_with fail
          go_ret
          rw [HE.out]
          exact ⟨rfl, below_drewN _ (below_drewN _ kb)⟩

set_option maxHeartbeats 1000000 in
theorem refVLess_calls (k i : Int) (s : ByteArray) (b : Bool) (k' i' : Int) (s' : ByteArray) (b' : Bool) (w : World) (hs : s.size ≤ 9223372036854775807) (hs' : s'.size ≤ 9223372036854775807) (hk : k = 1 ∨ k = 2 ∨ k = 3) :
    Calls Try.prog 44 #[.agg #[.int .i64 k, .int .i64 i, .string s, .bool b], .agg #[.int .i64 k', .int .i64 i', .string s', .bool b']] w fun e w' => e = .returned (.bool (lessB k i s b k' i' s' b')) ∧ Below w.heap.size w w' := by
  by_cases hkk : k = k'
  · subst hkk
    by_cases h2 : k = 2
    · subst h2
      have hr : lessB 2 i s b 2 i' s' b' = Op.bytesLess s.toList s'.toList := by simp [lessB]
      rw [hr]
      have HC := Lib.hid (fun w1 => refBelow_calls s s' w1 hs hs')
      clear hr hk
      go_enter Try.func44, Try.ntmps44
      go_wp2_with fail
      refine (HC.out _).mono ?_
      rintro e w1 ⟨rfl, k1⟩
      go_wp2_with fail
      go_ret
      refine ⟨rfl, (Below.trans ?_ (k1.mono (by simp; omega)))⟩
      repeat' (first | exact Below.refl _ _ | refine Below.alloc ?_ (by simp <;> omega) _)
    · have t2 : (k == 2) = false := by simpa using h2
      go_enter Try.func44, Try.ntmps44
      go_wp2
      all_goals go_ret
      all_goals refine ⟨by simp_all [lessB], ?_⟩
      all_goals repeat' (first | exact Below.refl _ _ | refine Below.alloc ?_ (by simp <;> omega) _)
  · have t2 : (k != k') = true := by simpa using hkk
    have hr : lessB k i s b k' i' s' b' = decide (k < k') := by simp [lessB, hkk]
    rw [hr]
    go_enter Try.func44, Try.ntmps44
    go_wp2_with fail
    go_ret
    refine ⟨rfl, ?_⟩
    repeat' (first | exact Below.refl _ _ | refine Below.alloc ?_ (by simp <;> omega) _)
end Go.Proofs.Ytjohiehlnbgdaaa
