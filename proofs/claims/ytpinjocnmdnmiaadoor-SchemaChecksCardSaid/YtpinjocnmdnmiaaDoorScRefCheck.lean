/- What is wrong with a schema: the reference's Check. -/
import Derived.Test.YtpinjocnmdnmiaaDoorScDecl
namespace Go.Proofs.YtpinjocnmdnmiaaDoor
open Go.RowKit
set_option linter.unusedVariables false

theorem noKind_low {k : Int} (h : k < 1) : noKind k = true := by unfold noKind; rw [decide_eq_false (by omega)]; rfl
theorem noKind_high {k : Int} (h : 3 < k) : noKind k = true := by unfold noKind; rw [decide_eq_false (by omega)]; rfl
theorem noKind_in {k : Int} (h : ¬ k < 1) (h2 : ¬ 3 < k) : noKind k = false := by unfold noKind; rw [decide_eq_true (by omega)]; rfl

set_option maxHeartbeats 4000000 in
set_option maxRecDepth 100000 in
theorem refCheck_calls (a : Option Addr) (len cap : Nat) (L : List Dc) (w : World) (h : DIn w a len L) :
    Calls Tryd.prog 15 #[.slice a len cap] w fun e w' => e = .returned (.tuple #[.int .i64 (checkL L).2, .int .i64 (checkL L).1]) ∧ Below w.heap.size w w' := by
  have HL := Lib.hid h.leng
  have hsm := h.small
  by_cases h32 : 32 < len
  · have HV : Hid (checkL L = (32, 14)) := Lib.hid (check_long (by rw [HL.out]; exact h32))
    have t1 : decide ((32 : Int) < (len : Int)) = true := by simp; omega
    clear h h32
    go_enter Tryd.func15, Tryd.ntmps15
    go_wp2_with fail
    go_ret2
    exact ⟨by rw [HV.out]; rfl, Below.refl _ _⟩
  have t1 : decide ((32 : Int) < (len : Int)) = false := by simp; omega
  have H32 := Lib.hid h32
  have HD := Lib.hid h
  have H0 := Lib.hid (noneTo_zero (fun n => wrongAt L n != 0))
  have HN := Lib.hid (fun y w1 hs => refName_calls y w1 hs)
  clear h h32
  go_enter Tryd.func15, Tryd.ntmps15
  go_wp2_with fail
  go_loopw [4] (fun i wr => ∃ (n : Nat), n ≤ len ∧ i = .int .i64 n ∧ Hid (noneTo (fun n => wrongAt L n != 0) n) ∧ Hid (Below w.heap.size w wr)) (fun i _ => len - (intOf i).toNat)
  case atStart => exact ⟨0, Nat.zero_le _, rfl, H0, Lib.hid (Below.refl _ _)⟩
  case round =>
    obtain ⟨n, hn, rfl, HX, HB⟩ := hrel
    by_cases hlt : n < len
    case neg =>
      have HV : Hid (checkL L = (-1, 0)) := Lib.hid (check_none (by rw [HL.out]; exact H32.out) (by rw [HL.out, ← show n = len by omega]; exact HX.out))
      go_wp2_with fail
      go_ret2
      exact ⟨by rw [HV.out]; rfl, HB.out⟩
    case pos =>
      have HLn : Hid (n < L.length) := Lib.hid (by rw [HL.out]; exact hlt)
      obtain ⟨g, off, b, c, rfl, hg, h1, h2, h3, h4⟩ := (HD.out.below HB.out).at' n hlt
      have HA : Hid (∀ e, wrongAt L n = e → e ≠ 0 → checkL L = ((n : Int), e)) := Lib.hid (fun e he h0 => by rw [check_at (by rw [HL.out]; exact H32.out) HLn.out HX.out (by rw [he]; exact h0), he])
      have H1 := Lib.hid (HN.out (nmAt L n) wr h4)
      have HS := Lib.hid (noneTo_step HX.out)
      obtain ⟨y, hy⟩ : ∃ y, y = nmAt L n := ⟨_, rfl⟩
      have HY := Lib.hid hy
      have HR := Lib.hid (twice_ref HLn.out)
      have HR2 : Hid (decide (findR L y < (n : Int)) = findB (L.take n) (nmAt L n)) := Lib.hid (by rw [hy]; exact HR.out)
      rw [← hy] at h1 H1
      have hh1 := Lib.hid h1
      have hh2 := Lib.hid h2
      have hh3 := Lib.hid h3
      have hg1 := hg
      clear h2 h3 h4 hy
      cases e1 : nameB (nmAt L n)
      case false =>
        have HV := Lib.hid (HA.out 11 (wrong_name e1) (by decide))
        rw [HY.out, e1] at H1
        rw [← HY.out] at H1
        clear e1
        go_wp2_with fail
        refine H1.out.mono ?_
        rintro e w3 ⟨rfl, k3⟩
        have HB3 := Lib.hid (HB.out.trans (k3.mono HB.out.size))
        clear k3
        go_wp2_with fail
        go_ret2
        exact ⟨by rw [HV.out]; rfl, HB3.out⟩
      case true =>
        rw [HY.out, e1] at H1
        rw [← HY.out] at H1
        go_wp2_with fail
        refine H1.out.mono ?_
        rintro e w3 ⟨rfl, k3⟩
        have HB3 := Lib.hid (HB.out.trans (k3.mono HB.out.size))
        have h1' := (k3.cell (p := ⟨g, off + n * 2, none⟩) hg).trans hh1.out
        have h2' := (k3.cell (p := ⟨g, off + n * 2 + 1, none⟩) hg).trans hh2.out
        have HKI := Lib.hid (hh3.out.below k3)
        have H2 := Lib.hid (refFind_calls (some ⟨g, off, none⟩) len cap L y w3 (HD.out.below HB3.out))
        clear k3 h1 hh1 hh2 hh3 H1
        generalize findR L y = fi at H2 HR2
        cases e2 : findB (L.take n) (nmAt L n)
        case true =>
          have HV := Lib.hid (HA.out 10 (wrong_twice e1 e2) (by decide))
          have t2 : decide (fi < (n : Int)) = true := HR2.out.trans e2
          clear e1 e2 HR2
          go_wp2_with fail
          refine H2.out.mono ?_
          rintro e w4 ⟨rfl, hw4⟩
          subst hw4
          go_wp2_with fail
          go_ret2
          exact ⟨by rw [HV.out]; rfl, HB3.out⟩
        case false =>
          have t2 : decide (fi < (n : Int)) = false := HR2.out.trans e2
          have hks := HKI.out.small
          have HKL := Lib.hid HKI.out.leng
          have HW14 : Hid (8 < (ksAt L n).length → wrongAt L n = 14) := Lib.hid (fun h => wrong_many e1 e2 h)
          have HW8 : Hid (¬ 8 < (ksAt L n).length → (ksAt L n).any noKind = true → wrongAt L n = 8) := Lib.hid (fun h h' => wrong_kind e1 e2 h h')
          have HW0 : Hid (¬ 8 < (ksAt L n).length → (ksAt L n).any noKind = false → wrongAt L n = 0) := Lib.hid (fun h h' => wrong_not e1 e2 h h')
          clear e1 e2 HR2
          generalize ksAt L n = V at h2' HKI hks HKL HW14 HW8 HW0
          generalize hm : V.length = m at h2' HKI hks HW14 HW8 HW0
          clear hm
          by_cases h8 : 8 < m
          · have HV := Lib.hid (HA.out 14 (HW14.out h8) (by decide))
            have t3 : decide ((8 : Int) < (m : Int)) = true := by simp; omega
            clear h8
            go_wp2_with fail
            refine H2.out.mono ?_
            rintro e w4 ⟨rfl, hw4⟩
            subst hw4
            go_wp2_with fail
            go_ret2
            exact ⟨by rw [HV.out]; rfl, HB3.out⟩
          · have t3 : decide ((8 : Int) < (m : Int)) = false := by simp; omega
            have H8 := Lib.hid h8
            clear h8
            go_wp2_with fail
            refine H2.out.mono ?_
            rintro e w4 ⟨rfl, hw4⟩
            subst hw4
            go_wp2_with fail
            go_loopw [5] (fun j wq => ∃ (k : Nat), k ≤ m ∧ j = .int .i64 k ∧ Hid (V.any noKind = (V.drop k).any noKind) ∧ w3 = wq) (fun j _ => m - (intOf j).toNat)
            case atStart => exact ⟨0, Nat.zero_le _, rfl, Lib.hid rfl, rfl⟩
            case round =>
              obtain ⟨k, hk, rfl, HP, rfl⟩ := hrel
              by_cases hkm : k < m
              case neg =>
                have HX2 := Lib.hid (HS.out (by rw [HW0.out H8.out (by rw [HP.out, List.drop_eq_nil_iff.2 (by rw [HKI.out.leng]; omega)]; rfl)]; rfl))
                go_wp2_with fail
                go_roundw
                case rel => exact ⟨n + 1, hlt, by go_num, HX2, HB3⟩
                case measure => simp [intOf]; omega
              case pos =>
                obtain ⟨g2, off2, rfl, hg2, hc⟩ := HKI.out.at' k hkm
                have HDr := Lib.hid (KIn.drop_at V k (by rw [HKI.out.leng]; exact hkm))
                generalize V.getD k 0 = x at hc HDr
                have HYes : Hid (noKind x = true → checkL L = ((n : Int), 8)) := Lib.hid (fun e => HA.out 8 (HW8.out H8.out (by rw [HP.out, HDr.out, List.any_cons, e]; rfl)) (by decide))
                have HNo : Hid (noKind x = false → V.any noKind = (V.drop (k + 1)).any noKind) := Lib.hid (fun e => by rw [HP.out, HDr.out, List.any_cons, e]; rfl)
                by_cases hx1 : x < 1
                · have HV := Lib.hid (HYes.out (noKind_low hx1))
                  have t4 : decide (x < 1) = true := by simp; omega
                  clear hx1
                  go_wp2_with fail
                  go_ret2
                  exact ⟨by rw [HV.out]; rfl, HB3.out⟩
                · by_cases hx2 : 3 < x
                  · have HV := Lib.hid (HYes.out (noKind_high hx2))
                    have t4 : decide (x < 1) = false := by simp; omega
                    have t5 : decide (3 < x) = true := by simp; omega
                    clear hx1 hx2
                    go_wp2_with fail
                    go_ret2
                    exact ⟨by rw [HV.out]; rfl, HB3.out⟩
                  · have HP2 := Lib.hid (HNo.out (noKind_in hx1 hx2))
                    have t4 : decide (x < 1) = false := by simp; omega
                    have t5 : decide (3 < x) = false := by simp; omega
                    clear hx1 hx2
                    go_wp2_with fail
                    go_roundw
                    case rel => exact ⟨k + 1, hkm, by go_num, HP2, trivial⟩
                    case measure => simp [intOf]; omega
end Go.Proofs.YtpinjocnmdnmiaaDoor
