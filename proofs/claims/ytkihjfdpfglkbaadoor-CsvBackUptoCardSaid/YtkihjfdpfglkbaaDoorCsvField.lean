/- How a field is written: csv.Field, and the reference's Quoted. -/
import Derived.Test.YtkihjfdpfglkbaaDoorCsvCut
import Derived.Test.YtkihjfdpfglkbaaDoorCsvLineMath
namespace Go.Proofs.YtkihjfdpfglkbaaDoor
open Go.RowKit
set_option linter.unusedVariables false

theorem cs_cat (a b : ByteArray) : (a ++ b).data.toList = a.data.toList ++ b.data.toList := by simp
theorem cs_hcat (a b : ByteArray) (h : a.size + b.size ≤ 9223372036854775807) : ∀ w, (Op.stringOp .add a b).run Tryd.prog w = .ok (.string (a ++ b)) w := fun w => run_string_add_sum w a b h
theorem cs_catSize (a b : ByteArray) : (a ++ b).size = a.size + b.size := by rw [cs_size, cs_cat, List.length_append, ← cs_size, ← cs_size]
theorem csDup_calls (s : ByteArray) (w : World) (hs : s.size ≤ 4000000) (hm : MaxC w) :
    Calls Tryd.prog 29 #[.string s, .string ⟨#[34]⟩, .string ⟨#[34, 34]⟩] w fun e w' => e = .returned (.string ⟨(dupL s.data.toList).toArray⟩) ∧ Below w.heap.size w w' := by
  obtain ⟨m, hm⟩ := hm
  have hc := Lib.count_le s.data.toList [34]
  have hl := cs_size s
  refine (Tryd.strings_ReplaceAll s ⟨#[34]⟩ ⟨#[34, 34]⟩ m w (by omega) hm (by decide) ?_).mono ?_
  · show s.size + Lib.count s.data.toList [34] * 2 ≤ _
    omega
  · rintro e w' ⟨rfl, hb⟩
    refine ⟨?_, hb⟩
    rw [show (⟨#[34]⟩ : ByteArray).data.toList = [34] from rfl, show (⟨#[34, 34]⟩ : ByteArray).data.toList = [34, 34] from rfl, dup_replace]

set_option maxHeartbeats 1000000 in
theorem csField_calls (s : ByteArray) (w : World) (hs : s.size ≤ 4000000) (hm : MaxC w) :
    Calls Tryd.prog 19 #[.string s] w fun e w' => e = .returned (.string ⟨(fieldL s.data.toList).toArray⟩) ∧ Below w.heap.size w w' := by
  have HP := Lib.hid (fun w1 => plainSize_calls s w1 (by omega))
  have HD := Lib.hid (fun w1 (h : MaxC w1) => csDup_calls s w1 hs h)
  have HM := Lib.hid hm
  have HB := Lib.hid (Below.refl w.heap.size w)
  by_cases h : plSize s.data.toList = s.size
  · have HV : Hid (⟨(fieldL s.data.toList).toArray⟩ = s) := Lib.hid (by rw [fieldL, if_pos (by rw [h, cs_size])])
    rw [h] at HP
    clear h hm hs HD
    go_enter Tryd.func19, Tryd.ntmps19
    go_wp2_with fail
    refine (HP.out _).mono ?_
    rintro e w1 ⟨rfl, rfl⟩
    go_wp2_with fail
    go_ret
    exact ⟨by rw [HV.out]; rfl, HB.out⟩
  · obtain ⟨D, hD⟩ : ∃ D : ByteArray, D = ⟨(dupL s.data.toList).toArray⟩ := ⟨_, rfl⟩
    have HV : Hid (⟨(fieldL s.data.toList).toArray⟩ = (⟨#[34]⟩ : ByteArray) ++ D ++ ⟨#[34]⟩) := Lib.hid (by
      rw [fieldL, if_neg (by rw [← cs_size]; exact h)]
      refine (cs_of ?_).symm
      rw [cs_cat, cs_cat, hD]
      simp)
    have t1 : ((plSize s.data.toList : Int) == (s.size : Int)) = false := beq_eq_false_iff_ne.2 (by omega)
    have hDs : D.size ≤ 8000000 := by
      have := dupL_len s.data.toList
      rw [← cs_size] at this
      rw [hD, cs_size]
      show (dupL s.data.toList).length ≤ _
      omega
    have z1 : (⟨#[34]⟩ : ByteArray).size = 1 := rfl
    have hc1 := cs_hcat ⟨#[34]⟩ D (by omega)
    have hc2 := cs_hcat (⟨#[34]⟩ ++ D) ⟨#[34]⟩ (by rw [cs_catSize]; omega)
    rw [← hD] at HD
    clear h hm hs hD z1 hDs
    obtain ⟨n, hn⟩ : ∃ n, n = plSize s.data.toList := ⟨_, rfl⟩
    rw [← hn] at HP t1
    clear hn
    go_enter Tryd.func19, Tryd.ntmps19
    go_wp2_with fail
    refine (HP.out _).mono ?_
    rintro e w1 ⟨rfl, rfl⟩
    go_wp2_with fail
    refine (HD.out _ HM.out).mono ?_
    rintro e w1 ⟨rfl, k1⟩
    have HB1 := Lib.hid k1
    clear k1
    go_wp2_with fail
    go_ret
    exact ⟨by rw [HV.out]; rfl, HB1.out⟩

set_option maxHeartbeats 2000000 in
theorem refQuoted_calls (s : ByteArray) (w : World) (hs : s.size ≤ 4000000) :
    Calls Tryd.prog 20 #[.string s] w fun e w' => e = .returned (.string ⟨(fieldL s.data.toList).toArray⟩) ∧ w = w' := by
  have HP := Lib.hid (fun c w1 => refPlain_calls c w1)
  go_enter Tryd.func20, Tryd.ntmps20
  go_wp2_with fail
  go_loopw [3, 4, 5] (fun bv ov iv wr => ∃ (n : Nat) (b : Bool) (X : ByteArray), n ≤ s.size ∧ iv = .int .i64 n ∧ bv = .bool b ∧ ov = .string X ∧ Hid (b = true ↔ plTo s.data.toList n) ∧ Hid (X.data.toList = 34 :: dupL (s.data.toList.take n)) ∧ w = wr) (fun _ _ i _ => s.size - (intOf i).toNat)
  case atStart => exact ⟨0, true, _, Nat.zero_le _, rfl, rfl, rfl, Lib.hid ⟨fun _ c h => by simp at h, fun _ => rfl⟩, Lib.hid rfl, rfl⟩
  case round =>
    obtain ⟨n, b, X, hn, rfl, rfl, rfl, HPl, HX, rfl⟩ := hrel
    have hXs : X.size ≤ 2 * n + 1 := by
      have := dupL_len (s.data.toList.take n)
      rw [List.length_take] at this
      rw [cs_size, HX.out, List.length_cons]
      omega
    have z1 : (⟨#[34]⟩ : ByteArray).size = 1 := rfl
    have hc1 := cs_hcat X ⟨#[34]⟩ (by omega)
    by_cases hlt : n < s.size
    case neg =>
      have hns : n = s.size := by omega
      have htk : s.data.toList.take n = s.data.toList := List.take_of_length_le (by rw [← cs_size]; omega)
      cases b
      · have HV : Hid (⟨(fieldL s.data.toList).toArray⟩ = X ++ ⟨#[34]⟩) := Lib.hid (by
          have hno : ¬ plSize s.data.toList = s.data.toList.length := fun e => by
            have h2 := HPl.out.2 (fun c hc => plSize_all e c (by rw [htk] at hc; exact hc))
            cases h2
          rw [fieldL, if_neg hno]
          refine (cs_of ?_).symm
          rw [cs_cat, HX.out, htk]; rfl)
        clear hns htk HX HPl hXs z1
        go_wp2_with fail
        go_ret
        exact ⟨by rw [HV.out]; rfl, rfl⟩
      · have HV : Hid (⟨(fieldL s.data.toList).toArray⟩ = s) := Lib.hid (by
          have hyes : plSize s.data.toList = s.data.toList.length := plSize_of _ _ (Nat.le_refl _) (fun c hc => by
            have h2 := HPl.out.1 rfl
            rw [hns, cs_size] at h2
            exact h2 c hc) (fun c hc => by simp at hc)
          rw [fieldL, if_pos hyes])
        clear hns htk HX HPl hXs z1
        go_wp2_with fail
        go_ret
        exact ⟨by rw [HV.out]; rfl, rfl⟩
    case pos =>
      have hat := cs_at s n hlt
      have hg : s.data.toList[n]? = some s[n] := hat
      have htk : s.data.toList.take (n + 1) = s.data.toList.take n ++ [s[n]] := by
        rw [List.take_add_one, hat]; rfl
      have hex : (s.extract n (n + 1)).data.toList = [s[n]] := by
        rw [cs_mid, cs_cons s n hlt, show n + 1 - n = 1 by omega]; rfl
      have hback : plTo s.data.toList (n + 1) → plTo s.data.toList n := fun h c hc => h c (by rw [htk]; exact List.mem_append_left _ hc)
      have hlast : plTo s.data.toList (n + 1) → plC s[n] = true := fun h => h s[n] (by rw [htk]; simp)
      have hfwd : plTo s.data.toList n → plC s[n] = true → plTo s.data.toList (n + 1) := fun h hp c hc => by
        rw [htk] at hc
        rcases List.mem_append.1 hc with e | e
        · exact h c e
        · rw [List.mem_singleton.1 e]; exact hp
      have H1 := Lib.hid (fun w1 => HP.out s[n] w1)
      have hexs : (s.extract n (n + 1)).size = 1 := by rw [cs_size, hex]; rfl
      have hc2 := cs_hcat X (s.extract n (n + 1)) (by omega)
      have hc3 := cs_hcat (X ++ ⟨#[34]⟩) (s.extract n (n + 1)) (by rw [cs_catSize]; omega)
      by_cases h34 : s[n] = 34
      · have t2 : ((s[n].toNat : Int) == 34) = true := by rw [h34]; rfl
        have hp : plC s[n] = false := by rw [h34]; decide
        have HPl2 : Hid (false = true ↔ plTo s.data.toList (n + 1)) := Lib.hid ⟨fun h => (by cases h), fun h => (by rw [hp] at hlast; exact hlast h)⟩
        have HX2 : Hid ((X ++ ⟨#[34]⟩ ++ s.extract n (n + 1)).data.toList = 34 :: dupL (s.data.toList.take (n + 1))) := Lib.hid (by
          rw [cs_cat, cs_cat, HX.out, hex, htk, h34, dupL_app, dupL_q]
          simp [dupL])
        rw [hp] at H1
        clear hat hg htk hex hexs hXs z1 hback hlast hfwd hp h34
        go_wp2_with fail
        refine (H1.out _).mono ?_
        rintro e w1 ⟨rfl, hw1⟩
        subst hw1
        go_wp2_with fail
        go_roundw
        case rel => exact ⟨n + 1, false, _, hlt, by go_num, rfl, rfl, HPl2, HX2, trivial⟩
        case measure => simp [intOf]; omega
      · have t2 : ((s[n].toNat : Int) == 34) = false := by rw [show ((s[n].toNat : Int) == 34) = (s[n] == 34) from cs_beq s[n] 34 (by omega)]; simpa using h34
        have HX2 : Hid ((X ++ s.extract n (n + 1)).data.toList = 34 :: dupL (s.data.toList.take (n + 1))) := Lib.hid (by
          rw [cs_cat, HX.out, hex, htk, dupL_app, dupL_else h34]
          simp [dupL])
        cases hp : plC s[n]
        · have HPl2 : Hid (false = true ↔ plTo s.data.toList (n + 1)) := Lib.hid ⟨fun h => (by cases h), fun h => (by rw [hp] at hlast; exact hlast h)⟩
          rw [hp] at H1
          clear hat hg htk hex hexs hXs z1 hback hlast hfwd hp h34
          go_wp2_with fail
          refine (H1.out _).mono ?_
          rintro e w1 ⟨rfl, hw1⟩
          subst hw1
          go_wp2_with fail
          go_roundw
          case rel => exact ⟨n + 1, false, _, hlt, by go_num, rfl, rfl, HPl2, HX2, trivial⟩
          case measure => simp [intOf]; omega
        · have HPl2 : Hid (b = true ↔ plTo s.data.toList (n + 1)) := Lib.hid ⟨fun h => hfwd (HPl.out.1 h) hp, fun h => HPl.out.2 (hback h)⟩
          rw [hp] at H1
          clear hat hg htk hex hexs hXs z1 hback hlast hfwd hp h34
          go_wp2_with fail
          refine (H1.out _).mono ?_
          rintro e w1 ⟨rfl, hw1⟩
          subst hw1
          go_wp2_with fail
          go_roundw
          case rel => exact ⟨n + 1, b, _, hlt, by go_num, rfl, rfl, HPl2, HX2, trivial⟩
          case measure => simp [intOf]; omega
end Go.Proofs.YtkihjfdpfglkbaaDoor
