/- What the law's same does with two lists of texts. -/
import Derived.Test.YtkihjfdpfglkbaaDoorCsvOwn
namespace Go.Proofs.YtkihjfdpfglkbaaDoor
open Go.RowKit
set_option linter.unusedVariables false

theorem tl_of (l : List UInt8) : (⟨l.toArray⟩ : ByteArray).toList = l := by rw [cs_tl]
theorem get_at {L : List (List UInt8)} {n : Nat} (h : n < L.length) : L[n]? = some (L.getD n []) := by simp [List.getD, h]
theorem same_step {L M : List (List UInt8)} {n : Nat} (hl : n < L.length) (hm : n < M.length) (e : L.getD n [] = M.getD n []) (h : L.take n = M.take n) : L.take (n + 1) = M.take (n + 1) := by
  rw [List.take_succ_eq_append_getElem hl, List.take_succ_eq_append_getElem hm, h]
  have h1 : L[n] = L.getD n [] := by simp [List.getD, hl]
  have h2 : M[n] = M.getD n [] := by simp [List.getD, hm]
  rw [h1, h2, e]

set_option maxHeartbeats 1000000 in
theorem same_calls (a b : Option Addr) (la ca lb cb : Nat) (L M : List (List UInt8)) (w : World) (hL : TIn w a la L) (hM : TIn w b lb M) :
    Calls Tryd.prog 10 #[.slice a la ca, .slice b lb cb] w fun e w' => e = .returned (.bool (decide (L = M))) ∧ Below w.heap.size w w' := by
  have H := Lib.hid hL
  have K := Lib.hid hM
  have hls := hL.small
  have hms := hM.small
  have HLl := Lib.hid hL.leng
  have HMl := Lib.hid hM.leng
  by_cases he : la = lb
  case neg =>
    have HE : Hid (decide (L = M) = false) := Lib.hid (decide_eq_false (fun e => he (by rw [← HLl.out, ← HMl.out, e])))
    have t1 : ((la : Int) != (lb : Int)) = true := by simp; omega
    clear hL hM he
    go_enter Tryd.func10, Tryd.ntmps10
    go_wp2_with fail
    go_ret
    exact ⟨by rw [HE.out]; rfl, Below.refl _ _⟩
  subst he
  clear hL hM
  go_enter Tryd.func10, Tryd.ntmps10
  go_wp2_with fail
  go_loopw [5] (fun i wr => ∃ (n : Nat), n ≤ la ∧ i = .int .i64 n ∧ Hid (L.take n = M.take n) ∧ Hid (Below w.heap.size w wr)) (fun i _ => la - (intOf i).toNat)
  case atStart => exact ⟨0, Nat.zero_le _, rfl, Lib.hid rfl, Lib.hid (Below.refl _ _)⟩
  case round =>
    obtain ⟨n, hn, rfl, HX, HB⟩ := hrel
    by_cases h : n < la
    case neg =>
      obtain rfl : n = la := by omega
      have HE : Hid (decide (L = M) = true) := Lib.hid (decide_eq_true (by
        have := HX.out
        rwa [List.take_of_length_le (by rw [HLl.out]; exact Nat.le_refl _), List.take_of_length_le (by rw [HMl.out]; exact Nat.le_refl _)] at this))
      go_wp2_with fail
      go_ret
      exact ⟨by rw [HE.out]; rfl, HB.out⟩
    case pos =>
      obtain ⟨g, off, rfl, hc⟩ := H.out.at' HB.out h
      obtain ⟨g', off', rfl, hc'⟩ := K.out.at' HB.out h
      obtain ⟨x, hx⟩ : ∃ x, x = L.getD n [] := ⟨_, rfl⟩
      obtain ⟨y, hy⟩ : ∃ y, y = M.getD n [] := ⟨_, rfl⟩
      rw [← hx] at hc
      rw [← hy] at hc'
      have h1 := tl_of x
      have h2 := tl_of y
      by_cases e : x = y
      · have HX2 : Hid (L.take (n + 1) = M.take (n + 1)) := Lib.hid (same_step (by rw [HLl.out]; exact h) (by rw [HMl.out]; exact h) (by rw [← hx, ← hy, e]) HX.out)
        subst e
        clear hx hy h2
        obtain ⟨X, hX⟩ : ∃ X : ByteArray, X = ⟨x.toArray⟩ := ⟨_, rfl⟩
        rw [← hX] at hc hc'
        have t1 : (X.toList == X.toList) = true := by simp
        clear h1 hX
        go_wp2_with fail
        go_region
        all_goals (go_wp2_with fail)
        all_goals go_roundw
        case rel => exact ⟨n + 1, h, by go_num, HX2, Lib.hid HB.out.drew⟩
        case measure => simp [intOf]; omega
      · have HE : Hid (decide (L = M) = false) := Lib.hid (decide_eq_false (fun e2 => e (by rw [hx, hy, e2])))
        obtain ⟨X, hX⟩ : ∃ X : ByteArray, X = ⟨x.toArray⟩ := ⟨_, rfl⟩
        obtain ⟨Y, hY⟩ : ∃ Y : ByteArray, Y = ⟨y.toArray⟩ := ⟨_, rfl⟩
        rw [← hX] at hc h1
        rw [← hY] at hc' h2
        have hne : ¬ X = Y := fun e3 => e (by rw [← h1, ← h2, e3])
        have t1 : (X.toList == Y.toList) = false := by rw [h1, h2]; simpa using e
        clear h1 h2 hX hY e hx hy
        go_wp2_with fail
        go_region
        all_goals (go_wp2_with fail)
        all_goals go_ret
        all_goals exact ⟨by rw [HE.out]; rfl, HB.out.drew⟩
end Go.Proofs.YtkihjfdpfglkbaaDoor
