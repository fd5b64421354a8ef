/- The walk of the law SchemaNames: with any text it answers true. -/
import Derived.Test.YtpinjocnmdnmiaaDoorScHelp
namespace Go.Proofs.YtpinjocnmdnmiaaDoor.schemaNames
open Go.RowKit
set_option linter.unusedVariables false

def wordN (s : ByteArray) (n : Nat) : Bool := (wordsL.take n).any (isT s)
theorem wordN_zero (s : ByteArray) : wordN s 0 = false := rfl
theorem wordN_step (s : ByteArray) (n : Nat) (h : n < 22) : wordN s (n + 1) = (wordN s n || isT s (wordAt n)) := by
  unfold wordN
  rw [List.take_succ_eq_append_getElem (show n < wordsL.length from h), List.any_append]
  simp [wordAt, List.getD, show n < wordsL.length from h]
theorem wordN_end (s : ByteArray) : wordN s 22 = wordB s := rfl

set_option maxHeartbeats 4000000 in
set_option maxRecDepth 100000 in
theorem walk (s : ByteArray) (w : World) (hs : s.size ≤ 9223372036854775807) (hw : Wds w) :
    Calls Tryd.prog 3 #[.string s] w fun e w' => e = .returned (.bool true) ∧ Below w.heap.size w w' := by
  have HAw := Lib.hid (fun w1 (hb : Below w.heap.size w w1) => awake_calls w1 (hw.below hb))
  by_cases h100 : 100 < s.size
  · have t1 : decide ((100 : Int) < (s.size : Int)) = true := by simp; omega
    clear h100 hw
    go_enter Tryd.func3, Tryd.ntmps3
    go_wp2_with fail
    refine (HAw.out _ (Below.refl _ _)).mono ?_
    rintro e w1 ⟨rfl, k1⟩
    go_wp2_with fail
    go_ret
    exact ⟨rfl, k1⟩
  have t1 : decide ((100 : Int) < (s.size : Int)) = false := by simp; omega
  have H1 := Lib.hid (refWords_calls w)
  have HSp := Lib.hid (fun w1 => scSpelt_calls s w1 hs)
  have HRS := Lib.hid (fun w1 => refSpelt_calls s w1 hs)
  have HWo := Lib.hid (fun w1 (hb : Below w.heap.size w w1) => scWord_calls s w1 (hw.below hb))
  have HNa := Lib.hid (fun w1 (hb : Below w.heap.size w w1) => scName_calls s w1 hs (hw.below hb))
  have HRN := Lib.hid (fun w1 => refName_calls s w1 hs)
  have HC := Lib.hid (words_lie w)
  have HB := Lib.hid ((Below.refl w.heap.size w).alloc (Nat.le_refl _) (.cells wordsV 9))
  have hlt0 : w.heap.size < (w.alloc (.cells wordsV 9)).heap.size := by simp
  have HZ := Lib.hid (wordN_zero s)
  have HSt := Lib.hid (wordN_step s)
  have HEn := Lib.hid (wordN_end s)
  clear hs hw h100
  go_enter Tryd.func3, Tryd.ntmps3
  go_wp2_with fail
  refine H1.out.mono ?_
  rintro e w1 ⟨rfl, rfl⟩
  obtain ⟨wq, hwq⟩ : ∃ wq, wq = w.alloc (.cells wordsV 9) := ⟨_, rfl⟩
  rw [← hwq] at HC HB hlt0 ⊢
  clear hwq H1
  go_wp2_with fail
  go_loopw [3, 5] (fun bv i wr => ∃ (n : Nat) (b : Bool), n ≤ 22 ∧ i = .int .i64 n ∧ bv = .bool b ∧ Hid (wordN s n = b) ∧ wq = wr) (fun _ i _ => 22 - (intOf i).toNat)
  case atStart => exact ⟨0, false, by omega, rfl, rfl, HZ, rfl⟩
  case round =>
    obtain ⟨n, b, hn, rfl, rfl, HX, rfl⟩ := hrel
    by_cases hlt : n < 22
    case neg =>
      have hb : wordB s = b := by rw [← HEn.out, ← show n = 22 by omega]; exact HX.out
      rw [hb] at HWo
      clear hb
      generalize speltB s = b1 at HSp HRS
      generalize nameB s = b2 at HNa HRN
      have e1 : (b1 == b1) = true := by simp
      have e2 : (b == b) = true := by simp
      have e3 : (b2 == b2) = true := by simp
      go_wp2_with fail
      refine (HSp.out _).mono ?_
      rintro e w1 ⟨rfl, hw1⟩
      subst hw1
      go_wp2_with fail
      refine (HRS.out _).mono ?_
      rintro e w1 ⟨rfl, hw1⟩
      subst hw1
      go_wp2_with fail
      refine (HWo.out _ HB.out).mono ?_
      rintro e w1 ⟨rfl, hw1⟩
      subst hw1
      go_wp2_with fail
      refine (HNa.out _ HB.out).mono ?_
      rintro e w1 ⟨rfl, hw1⟩
      subst hw1
      go_wp2_with fail
      refine (HRN.out _).mono ?_
      rintro e w1 ⟨rfl, k1⟩
      have HB1 := Lib.hid (HB.out.trans (k1.mono HB.out.size))
      clear k1
      go_wp2_with fail
      refine (HAw.out _ HB1.out).mono ?_
      rintro e w2 ⟨rfl, k2⟩
      have HB2 := Lib.hid (HB1.out.trans (k2.mono HB1.out.size))
      clear k2
      go_wp2_with fail
      go_ret
      exact ⟨rfl, HB2.out⟩
    case pos =>
      have hc := HC.out n hlt
      have HN : Hid (wordN s (n + 1) = (b || isT s (wordAt n))) := Lib.hid (by rw [HSt.out n hlt, HX.out])
      cases b
      · have t2 : ((wordAt n).toList == s.toList) = isT s (wordAt n) := by rw [isT_comm]; rfl
        have HN2 : Hid (wordN s (n + 1) = isT s (wordAt n)) := Lib.hid (by rw [HN.out]; rfl)
        clear HN
        generalize isT s (wordAt n) = r at t2 HN2
        generalize wordAt n = x at hc t2
        go_wp2_with fail
        go_roundw
        case rel => exact ⟨n + 1, r, hlt, by go_num, by first | rfl | rw [t2], HN2, trivial⟩
        case measure => simp [intOf]; omega
      · have HN2 : Hid (wordN s (n + 1) = true) := Lib.hid (by rw [HN.out]; rfl)
        clear HN hc
        go_wp2_with fail
        go_roundw
        case rel => exact ⟨n + 1, true, hlt, by go_num, rfl, HN2, trivial⟩
        case measure => simp [intOf]; omega
end Go.Proofs.YtpinjocnmdnmiaaDoor.schemaNames
