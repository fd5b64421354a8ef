/- What is wrong with a schema: schema.Check. -/
import Derived.Test.YtpinjocnmdnmiaaDoorScFaults
import Derived.Laws.EntriesVeiled
namespace Go.Proofs.YtpinjocnmdnmiaaDoor
open Go.RowKit
set_option linter.unusedVariables false

/-- Nothing of the first faults is so. -/
def passed (L : List Dc) (n k : Nat) : Prop := (1 ≤ k → nameB (nmAt L n) = true) ∧ (2 ≤ k → findB (L.take n) (nmAt L n) = false) ∧ (3 ≤ k → decide (8 < (ksAt L n).length) = false) ∧ (4 ≤ k → (ksAt L n).any noKind = false)
theorem passed_zero (L : List Dc) (n : Nat) : passed L n 0 := ⟨fun h => by omega, fun h => by omega, fun h => by omega, fun h => by omega⟩
theorem passed_step0 {L : List Dc} {n : Nat} (h : passed L n 0) (e : nameB (nmAt L n) = true) : passed L n 1 := ⟨fun _ => e, fun h => by omega, fun h => by omega, fun h => by omega⟩
theorem passed_step1 {L : List Dc} {n : Nat} (h : passed L n 1) (e : findB (L.take n) (nmAt L n) = false) : passed L n 2 := ⟨fun _ => h.1 (by omega), fun _ => e, fun h => by omega, fun h => by omega⟩
theorem passed_step2 {L : List Dc} {n : Nat} (h : passed L n 2) (e : decide (8 < (ksAt L n).length) = false) : passed L n 3 := ⟨fun _ => h.1 (by omega), fun _ => h.2.1 (by omega), fun _ => e, fun h => by omega⟩
theorem passed_step3 {L : List Dc} {n : Nat} (h : passed L n 3) (e : (ksAt L n).any noKind = false) : passed L n 4 := ⟨fun _ => h.1 (by omega), fun _ => h.2.1 (by omega), fun _ => h.2.2.1 (by omega), fun _ => e⟩
theorem passed_bad0 {L : List Dc} {n : Nat} (h : passed L n 0) (e : nameB (nmAt L n) = false) : wrongAt L n = 11 := wrong_name e
theorem passed_bad1 {L : List Dc} {n : Nat} (h : passed L n 1) (e : findB (L.take n) (nmAt L n) = true) : wrongAt L n = 10 := wrong_twice (h.1 (by omega)) e
theorem passed_bad2 {L : List Dc} {n : Nat} (h : passed L n 2) (e : decide (8 < (ksAt L n).length) = true) : wrongAt L n = 14 := wrong_many (h.1 (by omega)) (h.2.1 (by omega)) (of_decide_eq_true e)
theorem passed_bad3 {L : List Dc} {n : Nat} (h : passed L n 3) (e : (ksAt L n).any noKind = true) : wrongAt L n = 8 := wrong_kind (h.1 (by omega)) (h.2.1 (by omega)) (of_decide_eq_false (h.2.2.1 (by omega))) e
theorem passed_all {L : List Dc} {n : Nat} (h : passed L n 4) : (wrongAt L n != 0) = false := by
  rw [wrong_not (h.1 (by omega)) (h.2.1 (by omega)) (of_decide_eq_false (h.2.2.1 (by omega))) (h.2.2.2 (by omega))]; rfl
theorem cell_fresh (w : World) (cs : Array Value) (t : TypeId) {n : Nat} {v : Value} (h : cs[n]? = some v) : (w.alloc (.cells cs t)).cell? ⟨w.heap.size, n, none⟩ = some v := by
  rw [World.cell?_alloc_at (hn := rfl)]
  exact h

set_option maxHeartbeats 4000000 in
set_option maxRecDepth 100000 in
theorem scCheck_calls (a : Option Addr) (len cap : Nat) (L : List Dc) (w : World) (h : DIn w a len L) (hlc : len ≤ cap) (hcm : cap ≤ 9223372036854775807) (hw : Wds w) :
    Calls Tryd.prog 14 #[.slice a len cap] w fun e w' => e = .returned (.tuple #[.int .i64 (checkL L).1, .int .i64 (checkL L).2]) ∧ Below w.heap.size w w' := by
  have HL := Lib.hid h.leng
  have hsm := h.small
  by_cases h32 : 32 < len
  · have HV : Hid (checkL L = (32, 14)) := Lib.hid (check_long (by rw [HL.out]; exact h32))
    have t1 : decide ((32 : Int) < (len : Int)) = true := by simp; omega
    clear h hw h32
    go_enter Tryd.func14, Tryd.ntmps14
    go_wp2_with fail
    go_ret2
    exact ⟨by rw [HV.out]; rfl, Below.refl _ _⟩
  have t1 : decide ((32 : Int) < (len : Int)) = false := by simp; omega
  have H32 := Lib.hid h32
  have HF := Lib.hid (faultsOf_calls a len cap w)
  have hB1 : Below w.heap.size w ((w.alloc (.cells #[.slice a len cap] 26)).alloc (.cells (faultsV w.heap.size) 48)) := ((Below.refl w.heap.size w).alloc (Nat.le_refl _) _).alloc (by simp) _
  have HB1 := Lib.hid hB1
  have HD := Lib.hid (h.below hB1)
  have HW := Lib.hid (hw.below hB1)
  have HC : Hid (((w.alloc (.cells #[.slice a len cap] 26)).alloc (.cells (faultsV w.heap.size) 48)).cell? ⟨w.heap.size, 0, none⟩ = some (.slice a len cap)) := Lib.hid (((Below.refl _ _).alloc (Nat.le_refl _) _ |>.cell (p := ⟨w.heap.size, 0, none⟩) (by simp)).trans (by rw [World.cell?_alloc_at (hn := rfl)]; rfl))
  have HK : Hid (∀ k v, (faultsV w.heap.size)[k]? = some v → ((w.alloc (.cells #[.slice a len cap] 26)).alloc (.cells (faultsV w.heap.size) 48)).cell? ⟨w.heap.size + 1, k, none⟩ = some v) := Lib.hid (fun k v hk => by
    have e : w.heap.size + 1 = (w.alloc (.cells #[.slice a len cap] 26)).heap.size := by simp
    rw [e, World.cell?_alloc_at (hn := rfl)]
    exact hk)
  have HZ : Hid (((w.alloc (.cells #[.slice a len cap] 26)).alloc (.cells (faultsV w.heap.size) 48)).heap.size = w.heap.size + 2) := Lib.hid (by simp)
  have H0 := Lib.hid (noneTo_zero (fun n => wrongAt L n != 0))
  clear h hw hB1 h32
  go_enter Tryd.func14, Tryd.ntmps14
  go_wp2_with fail
  refine HF.out.mono ?_
  rintro e w1 ⟨rfl, hw1⟩
  rw [← hw1] at HB1 HD HW HC HK HZ
  clear hw1 HF
  go_wp2_with fail
  go_loopw [15] (fun i wr => ∃ (n : Nat), n ≤ len ∧ i = .int .i64 n ∧ Hid (noneTo (fun n => wrongAt L n != 0) n) ∧ Hid (Below w1.heap.size w1 wr)) (fun i _ => len - (intOf i).toNat)
  case atStart => exact ⟨0, Nat.zero_le _, rfl, H0, Lib.hid (Below.refl _ _)⟩
  case round =>
    obtain ⟨n, hn, rfl, HX, HB⟩ := hrel
    by_cases hlt : n < len
    case neg =>
      have HV : Hid (checkL L = (-1, 0)) := Lib.hid (check_none (by rw [HL.out]; exact H32.out) (by rw [HL.out, ← show n = len by omega]; exact HX.out))
      go_wp2_with fail
      go_ret2
      exact ⟨by rw [HV.out]; rfl, HB1.out.trans (HB.out.mono (by have := HZ.out; omega))⟩
    case pos =>
      have HLn : Hid (n < L.length) := Lib.hid (by rw [HL.out]; exact hlt)
      have HG : Hid (∀ w2, Below w1.heap.size w1 w2 → Calls Tryd.prog 30 #[.int .i64 n, .pointer (some ⟨w.heap.size, 0, none⟩)] w2 fun e w' => e = .returned (.bool (!nameB (nmAt L n))) ∧ w2 = w') := Lib.hid (fun w2 hb => fault1_calls a len cap L w.heap.size n w2 (HD.out.below hb) ((hb.cell (p := ⟨w.heap.size, 0, none⟩) (by have := HZ.out; show w.heap.size < _; omega)).trans HC.out) hlt (HW.out.below hb))
      have HT : Hid (∀ w2, Below w1.heap.size w1 w2 → Calls Tryd.prog 31 #[.int .i64 n, .pointer (some ⟨w.heap.size, 0, none⟩)] w2 fun e w' => e = .returned (.bool (findB (L.take n) (nmAt L n))) ∧ Below w2.heap.size w2 w') := Lib.hid (fun w2 hb => fault2_calls a len cap L w.heap.size n w2 (HD.out.below hb) ((hb.cell (p := ⟨w.heap.size, 0, none⟩) (by have := HZ.out; show w.heap.size < _; omega)).trans HC.out) hlt hlc hcm)
      have HM : Hid (∀ w2, Below w1.heap.size w1 w2 → Calls Tryd.prog 32 #[.int .i64 n, .pointer (some ⟨w.heap.size, 0, none⟩)] w2 fun e w' => e = .returned (.bool (decide (8 < (ksAt L n).length))) ∧ w2 = w') := Lib.hid (fun w2 hb => fault3_calls a len cap L w.heap.size n w2 (HD.out.below hb) ((hb.cell (p := ⟨w.heap.size, 0, none⟩) (by have := HZ.out; show w.heap.size < _; omega)).trans HC.out) hlt)
      have HN : Hid (∀ w2, Below w1.heap.size w1 w2 → Calls Tryd.prog 33 #[.int .i64 n, .pointer (some ⟨w.heap.size, 0, none⟩)] w2 fun e w' => e = .returned (.bool ((ksAt L n).any noKind)) ∧ w2 = w') := Lib.hid (fun w2 hb => fault4_calls a len cap L w.heap.size n w2 (HD.out.below hb) ((hb.cell (p := ⟨w.heap.size, 0, none⟩) (by have := HZ.out; show w.heap.size < _; omega)).trans HC.out) hlt)
      have eg0 : ∀ args w, (callFunc 30 args).run Tryd.prog w = .ok (.enter 30 args) w := enters_of Tryd.func30 (by kernel_rfl) rfl
      have eg1 : ∀ args w, (callFunc 31 args).run Tryd.prog w = .ok (.enter 31 args) w := enters_of Tryd.func31 (by kernel_rfl) rfl
      have eg2 : ∀ args w, (callFunc 32 args).run Tryd.prog w = .ok (.enter 32 args) w := enters_of Tryd.func32 (by kernel_rfl) rfl
      have eg3 : ∀ args w, (callFunc 33 args).run Tryd.prog w = .ok (.enter 33 args) w := enters_of Tryd.func33 (by kernel_rfl) rfl
      have HA : Hid (∀ e, wrongAt L n = e → e ≠ 0 → checkL L = ((n : Int), e)) := Lib.hid (fun e he h0 => by rw [check_at (by rw [HL.out]; exact H32.out) HLn.out HX.out (by rw [he]; exact h0), he])
      go_wp2_with fail
      go_loopw [20] (fun j wq => ∃ (k : Nat), k ≤ 4 ∧ j = .int .i64 k ∧ Hid (passed L n k) ∧ Hid (Below w1.heap.size w1 wq)) (fun j _ => 4 - (intOf j).toNat)
      case atStart => exact ⟨0, by omega, rfl, Lib.hid (passed_zero L n), HB⟩
      case round =>
        rename_i wo _ _ _ _ _ _ _ _ _ _ _ _ _ _ _ _ _
        clear HB
        obtain ⟨k, hk, rfl, HP, HB⟩ := hrel
        have hk4 : k = 0 ∨ k = 1 ∨ k = 2 ∨ k = 3 ∨ k = 4 := by omega
        have hgq : w.heap.size + 1 < wr.heap.size := by have := HZ.out; have := HB.out.size; omega
        rcases hk4 with rfl | rfl | rfl | rfl | rfl
        · have c0 : wr.cell? ⟨w.heap.size + 1, 0, none⟩ = some (.int .i64 11) := (HB.out.cell (p := ⟨w.heap.size + 1, 0, none⟩) (by have := HZ.out; show w.heap.size + 1 < _; omega)).trans (HK.out 0 _ rfl)
          have c1 : wr.cell? ⟨w.heap.size + 1, 1, none⟩ = some (.func (.func 30) #[] #[.pointer (some ⟨w.heap.size, 0, none⟩)]) := (HB.out.cell (p := ⟨w.heap.size + 1, 1, none⟩) (by have := HZ.out; show w.heap.size + 1 < _; omega)).trans (HK.out 1 _ rfl)
          have HB2 := Lib.hid (HB.out.alloc HB.out.size (.cells #[.int .i64 11, .func (.func 30) #[] #[.pointer (some ⟨w.heap.size, 0, none⟩)]] 48))
          have H1 := Lib.hid (HG.out _ HB2.out)
          cases e : nameB (nmAt L n)
          · rw [e] at H1
            have HV := Lib.hid (HA.out 11 (passed_bad0 HP.out e) (by decide))
            clear e
            go_wp2_with fail
            refine H1.out.mono ?_
            rintro e w3 ⟨rfl, hw3⟩
            subst hw3
            have HB3 := HB2
            go_wp2_with fail
            go_quiet (fail)
            go_wp2_with fail
            go_ret2
            exact ⟨by rw [HV.out]; rfl, HB1.out.trans ((below_drewN HB3.out _).mono (by have := HZ.out; omega))⟩
          · rw [e] at H1
            have HP2 := Lib.hid (passed_step0 HP.out e)
            clear e
            go_wp2_with fail
            refine H1.out.mono ?_
            rintro e w3 ⟨rfl, hw3⟩
            subst hw3
            have HB3 := HB2
            go_wp2_with fail
            go_roundw
            case rel => exact ⟨1, by omega, by go_num, HP2, HB3⟩
            case measure => simp [intOf]
        · have c0 : wr.cell? ⟨w.heap.size + 1, 2, none⟩ = some (.int .i64 10) := (HB.out.cell (p := ⟨w.heap.size + 1, 2, none⟩) (by have := HZ.out; show w.heap.size + 1 < _; omega)).trans (HK.out 2 _ rfl)
          have c1 : wr.cell? ⟨w.heap.size + 1, 3, none⟩ = some (.func (.func 31) #[] #[.pointer (some ⟨w.heap.size, 0, none⟩)]) := (HB.out.cell (p := ⟨w.heap.size + 1, 3, none⟩) (by have := HZ.out; show w.heap.size + 1 < _; omega)).trans (HK.out 3 _ rfl)
          have HB2 := Lib.hid (HB.out.alloc HB.out.size (.cells #[.int .i64 10, .func (.func 31) #[] #[.pointer (some ⟨w.heap.size, 0, none⟩)]] 48))
          have H1 := Lib.hid (HT.out _ HB2.out)
          cases e : findB (L.take n) (nmAt L n)
          · rw [e] at H1
            have HP2 := Lib.hid (passed_step1 HP.out e)
            clear e
            go_wp2_with fail
            refine H1.out.mono ?_
            rintro e w3 ⟨rfl, k3⟩
            have HB3 := Lib.hid (HB2.out.trans (k3.mono HB2.out.size))
            clear k3
            go_wp2_with fail
            go_roundw
            case rel => exact ⟨2, by omega, by go_num, HP2, HB3⟩
            case measure => simp [intOf]
          · rw [e] at H1
            have HV := Lib.hid (HA.out 10 (passed_bad1 HP.out e) (by decide))
            clear e
            go_wp2_with fail
            refine H1.out.mono ?_
            rintro e w3 ⟨rfl, k3⟩
            have HB3 := Lib.hid (HB2.out.trans (k3.mono HB2.out.size))
            have c2 : w3.cell? ⟨wr.heap.size, 0, none⟩ = some (.int .i64 10) := (k3.cell (p := ⟨wr.heap.size, 0, none⟩) (by simp)).trans (cell_fresh wr _ _ rfl)
            clear k3
            go_wp2_with fail
            go_quiet (fail)
            go_wp2_with fail
            go_ret2
            exact ⟨by rw [HV.out]; rfl, HB1.out.trans ((below_drewN HB3.out _).mono (by have := HZ.out; omega))⟩
        · have c0 : wr.cell? ⟨w.heap.size + 1, 4, none⟩ = some (.int .i64 14) := (HB.out.cell (p := ⟨w.heap.size + 1, 4, none⟩) (by have := HZ.out; show w.heap.size + 1 < _; omega)).trans (HK.out 4 _ rfl)
          have c1 : wr.cell? ⟨w.heap.size + 1, 5, none⟩ = some (.func (.func 32) #[] #[.pointer (some ⟨w.heap.size, 0, none⟩)]) := (HB.out.cell (p := ⟨w.heap.size + 1, 5, none⟩) (by have := HZ.out; show w.heap.size + 1 < _; omega)).trans (HK.out 5 _ rfl)
          have HB2 := Lib.hid (HB.out.alloc HB.out.size (.cells #[.int .i64 14, .func (.func 32) #[] #[.pointer (some ⟨w.heap.size, 0, none⟩)]] 48))
          have H1 := Lib.hid (HM.out _ HB2.out)
          cases e : decide (8 < (ksAt L n).length)
          · rw [e] at H1
            have HP2 := Lib.hid (passed_step2 HP.out e)
            clear e
            go_wp2_with fail
            refine H1.out.mono ?_
            rintro e w3 ⟨rfl, hw3⟩
            subst hw3
            have HB3 := HB2
            go_wp2_with fail
            go_roundw
            case rel => exact ⟨3, by omega, by go_num, HP2, HB3⟩
            case measure => simp [intOf]
          · rw [e] at H1
            have HV := Lib.hid (HA.out 14 (passed_bad2 HP.out e) (by decide))
            clear e
            go_wp2_with fail
            refine H1.out.mono ?_
            rintro e w3 ⟨rfl, hw3⟩
            subst hw3
            have HB3 := HB2
            go_wp2_with fail
            go_quiet (fail)
            go_wp2_with fail
            go_ret2
            exact ⟨by rw [HV.out]; rfl, HB1.out.trans ((below_drewN HB3.out _).mono (by have := HZ.out; omega))⟩
        · have c0 : wr.cell? ⟨w.heap.size + 1, 6, none⟩ = some (.int .i64 8) := (HB.out.cell (p := ⟨w.heap.size + 1, 6, none⟩) (by have := HZ.out; show w.heap.size + 1 < _; omega)).trans (HK.out 6 _ rfl)
          have c1 : wr.cell? ⟨w.heap.size + 1, 7, none⟩ = some (.func (.func 33) #[] #[.pointer (some ⟨w.heap.size, 0, none⟩)]) := (HB.out.cell (p := ⟨w.heap.size + 1, 7, none⟩) (by have := HZ.out; show w.heap.size + 1 < _; omega)).trans (HK.out 7 _ rfl)
          have HB2 := Lib.hid (HB.out.alloc HB.out.size (.cells #[.int .i64 8, .func (.func 33) #[] #[.pointer (some ⟨w.heap.size, 0, none⟩)]] 48))
          have H1 := Lib.hid (HN.out _ HB2.out)
          cases e : (ksAt L n).any noKind
          · rw [e] at H1
            have HP2 := Lib.hid (passed_step3 HP.out e)
            clear e
            go_wp2_with fail
            refine H1.out.mono ?_
            rintro e w3 ⟨rfl, hw3⟩
            subst hw3
            have HB3 := HB2
            go_wp2_with fail
            go_roundw
            case rel => exact ⟨4, by omega, by go_num, HP2, HB3⟩
            case measure => simp [intOf]
          · rw [e] at H1
            have HV := Lib.hid (HA.out 8 (passed_bad3 HP.out e) (by decide))
            clear e
            go_wp2_with fail
            refine H1.out.mono ?_
            rintro e w3 ⟨rfl, hw3⟩
            subst hw3
            have HB3 := HB2
            go_wp2_with fail
            go_quiet (fail)
            go_wp2_with fail
            go_ret2
            exact ⟨by rw [HV.out]; rfl, HB1.out.trans ((below_drewN HB3.out _).mono (by have := HZ.out; omega))⟩
        · have HX2 := Lib.hid (noneTo_step HX.out (passed_all HP.out))
          go_wp2_with fail
          go_roundw
          case rel => exact ⟨n + 1, hlt, by go_num, HX2, HB⟩
          case measure => simp [intOf]; omega
end Go.Proofs.YtpinjocnmdnmiaaDoor
