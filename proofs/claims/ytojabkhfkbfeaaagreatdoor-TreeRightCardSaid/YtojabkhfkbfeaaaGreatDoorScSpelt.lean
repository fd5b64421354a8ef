/- What schema.Spelt and schema.Name do with any text. -/
import Derived.Test.YtojabkhfkbfeaaaGreatDoorScWord
namespace Go.Proofs.YtojabkhfkbfeaaaGreatDoor
open Go.RowKit
set_option linter.unusedVariables false

set_option maxHeartbeats 2000000 in
theorem scSpelt_calls (s : ByteArray) (w : World) (hs : s.size ≤ 9223372036854775807) :
    Calls Tryz.prog 114 #[.string s] w fun e w' => e = .returned (.bool (speltB s)) ∧ w = w' := by
  have HD := Lib.hid (fun c w1 => scDigit_calls c w1)
  have HL := Lib.hid (fun c w1 => scLetter_calls c w1)
  by_cases h0 : s.size = 0
  · have HV : Hid (speltB s = false) := Lib.hid (spelt_none h0)
    have he : s = ⟨#[]⟩ := sc_eq (t := []) (List.length_eq_zero_iff.1 (by rw [← sc_size]; exact h0))
    clear h0 hs
    generalize speltB s = b at HV ⊢
    subst he
    go_enter Tryz.func114, Tryz.ntmps114
    go_wp2_with fail
    go_ret
    exact ⟨by rw [HV.out]; rfl, rfl⟩
  have hp : 0 < s.size := by omega
  have t0 : s.toList.isEmpty = false := by
    rw [sc_tl]
    rw [sc_size] at hp
    cases e : s.data.toList with
    | nil => rw [e] at hp; simp at hp
    | cons c r => rfl
  have hne : ¬ s = ByteArray.empty := fun e => by rw [e] at hp; exact absurd hp (by decide)
  by_cases h1 : 32 < s.size
  · have HV : Hid (speltB s = false) := Lib.hid (spelt_long h1)
    have t1 : decide ((32 : Int) < (s.size : Int)) = true := by simp; omega
    clear h0
    go_enter Tryz.func114, Tryz.ntmps114
    go_wp2_with fail
    go_ret
    exact ⟨by rw [HV.out]; rfl, rfl⟩
  have t1 : decide ((32 : Int) < (s.size : Int)) = false := by simp; omega
  cases hd : digitB s[0]
  case true =>
    have HV : Hid (speltB s = false) := Lib.hid (spelt_digit hp hd)
    have H1 := Lib.hid (fun w1 => HD.out s[0] w1)
    rw [hd] at H1
    clear hd h0 h1
    go_enter Tryz.func114, Tryz.ntmps114
    go_wp2_with fail
    refine (H1.out _).mono ?_
    rintro e w1 ⟨rfl, rfl⟩
    go_wp2_with fail
    go_ret
    exact ⟨by rw [HV.out]; rfl, rfl⟩
  case false =>
    have H1 := Lib.hid (fun w1 => HD.out s[0] w1)
    rw [hd] at H1
    have HG : Hid (namesTo s s.size → speltB s = true) := Lib.hid (spelt_good hp (by omega) hd)
    have H0 := Lib.hid (namesTo_zero s)
    clear hd h0
    go_enter Tryz.func114, Tryz.ntmps114
    go_wp2_with fail
    refine (H1.out _).mono ?_
    rintro e w1 ⟨rfl, rfl⟩
    go_wp2_with fail
    clear H1
    go_loopw [19] (fun i wr => ∃ (n : Nat), n ≤ s.size ∧ i = .int .i64 n ∧ Hid (namesTo s n) ∧ w = wr) (fun i _ => s.size - (intOf i).toNat)
    case atStart => exact ⟨0, by omega, rfl, H0, rfl⟩
    case round =>
      obtain ⟨n, hn, rfl, HX, rfl⟩ := hrel
      by_cases hlt : n < s.size
      case neg =>
        have HV : Hid (speltB s = true) := Lib.hid (HG.out (by rw [← show n = s.size by omega]; exact HX.out))
        go_wp2_with fail
        go_ret
        exact ⟨by rw [HV.out]; rfl, rfl⟩
      case pos =>
        have H1 := Lib.hid (fun w1 => HL.out s[n] w1)
        have H2 := Lib.hid (fun w1 => HD.out s[n] w1)
        have HS := Lib.hid (fun e => namesTo_step HX.out hlt e)
        have HB := Lib.hid (fun e => spelt_bad (s := s) hlt e)
        have hb := byte95 s[n]
        cases e1 : letterB s[n]
        case true =>
          have HX2 := Lib.hid (HS.out (nameC_letter e1))
          rw [e1] at H1
          clear e1 hb
          go_wp2_with fail
          refine (H1.out _).mono ?_
          rintro e w1 ⟨rfl, hw1⟩
          subst hw1
          go_wp2_with fail
          go_roundw
          case rel => exact ⟨n + 1, hlt, by go_num, HX2, trivial⟩
          case measure => simp [intOf]; omega
        case false =>
          rw [e1] at H1
          cases e2 : digitB s[n]
          case true =>
            have HX2 := Lib.hid (HS.out (nameC_digit e1 e2))
            rw [e2] at H2
            clear e1 e2 hb
            go_wp2_with fail
            refine (H1.out _).mono ?_
            rintro e w1 ⟨rfl, hw1⟩
            subst hw1
            go_wp2_with fail
            refine (H2.out _).mono ?_
            rintro e w1 ⟨rfl, hw1⟩
            subst hw1
            go_wp2_with fail
            go_roundw
            case rel => exact ⟨n + 1, hlt, by go_num, HX2, trivial⟩
            case measure => simp [intOf]; omega
          case false =>
            have hnc := nameC_line e1 e2
            rw [e2] at H2
            cases e3 : (s[n] == 95)
            · have HV : Hid (speltB s = false) := Lib.hid (HB.out (by rw [hnc, e3]))
              rw [e3] at hb
              have t2 : ((s[n].toNat : Int) != 95) = true := by rw [bne, hb]; rfl
              clear e1 e2 e3 hnc hb
              go_wp2_with fail
              refine (H1.out _).mono ?_
              rintro e w1 ⟨rfl, hw1⟩
              subst hw1
              go_wp2_with fail
              refine (H2.out _).mono ?_
              rintro e w1 ⟨rfl, hw1⟩
              subst hw1
              go_wp2_with fail
              go_ret
              exact ⟨by rw [HV.out]; rfl, rfl⟩
            · have HX2 := Lib.hid (HS.out (by rw [hnc, e3]))
              rw [e3] at hb
              have t2 : ((s[n].toNat : Int) != 95) = false := by rw [bne, hb]; rfl
              clear e1 e2 e3 hnc hb
              go_wp2_with fail
              refine (H1.out _).mono ?_
              rintro e w1 ⟨rfl, hw1⟩
              subst hw1
              go_wp2_with fail
              refine (H2.out _).mono ?_
              rintro e w1 ⟨rfl, hw1⟩
              subst hw1
              go_wp2_with fail
              go_roundw
              case rel => exact ⟨n + 1, hlt, by go_num, HX2, trivial⟩
              case measure => simp [intOf]; omega

set_option maxHeartbeats 1000000 in
theorem scName_calls (s : ByteArray) (w : World) (hs : s.size ≤ 9223372036854775807) (hw : Wds w) :
    Calls Tryz.prog 79 #[.string s] w fun e w' => e = .returned (.bool (nameB s)) ∧ w = w' := by
  have HV : Hid (nameB s = (speltB s && (!wordB s && !lineB s))) := Lib.hid rfl
  have H1 := Lib.hid (fun w1 => scSpelt_calls s w1 hs)
  have H2 := Lib.hid (scWord_calls s w hw)
  have hb : (s.toList == [95]) = lineB s := by unfold lineB isT; rw [sc_tl ⟨#[95]⟩]
  clear hs hw
  generalize nameB s = r at HV ⊢
  generalize speltB s = b1 at H1 HV
  generalize wordB s = b2 at H2 HV
  generalize lineB s = b3 at hb HV
  cases b1
  · go_enter Tryz.func79, Tryz.ntmps79
    go_wp2_with fail
    refine (H1.out _).mono ?_
    rintro e w1 ⟨rfl, rfl⟩
    go_wp2_with fail
    go_ret
    exact ⟨by rw [HV.out]; rfl, rfl⟩
  cases b2
  · cases b3
    all_goals
      go_enter Tryz.func79, Tryz.ntmps79
      go_wp2_with fail
      refine (H1.out _).mono ?_
      rintro e w1 ⟨rfl, rfl⟩
      go_wp2_with fail
      refine H2.out.mono ?_
      rintro e w1 ⟨rfl, rfl⟩
      go_wp2_with fail
      go_ret
      exact ⟨by rw [HV.out]; simp, rfl⟩
  · go_enter Tryz.func79, Tryz.ntmps79
    go_wp2_with fail
    refine (H1.out _).mono ?_
    rintro e w1 ⟨rfl, rfl⟩
    go_wp2_with fail
    refine H2.out.mono ?_
    rintro e w1 ⟨rfl, rfl⟩
    go_wp2_with fail
    go_ret
    exact ⟨by rw [HV.out]; rfl, rfl⟩
end Go.Proofs.YtojabkhfkbfeaaaGreatDoor
