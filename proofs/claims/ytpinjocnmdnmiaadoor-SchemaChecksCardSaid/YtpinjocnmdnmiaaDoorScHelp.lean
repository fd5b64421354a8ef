/- The laws' own few, and the chapter's example. -/
import Derived.Test.YtpinjocnmdnmiaaDoorScCheck
import Derived.Test.YtpinjocnmdnmiaaDoorScText
namespace Go.Proofs.YtpinjocnmdnmiaaDoor
open Go.RowKit
set_option linter.unusedVariables false

/-- A declaration that is too great. -/
def bigAt (L : List Dc) (n : Nat) : Bool := decide (100 < (nmAt L n).size) || decide (20 < (ksAt L n).length)
def fewB (L : List Dc) : Bool := decide (L.length ≤ 40) && (firstN (bigAt L) L.length).isNone
theorem few_long {L : List Dc} (h : 40 < L.length) : fewB L = false := by rw [fewB, decide_eq_false (by omega)]; rfl
theorem few_big {L : List Dc} {n : Nat} (h : noneTo (bigAt L) n) (hn : n < L.length) (e : bigAt L n = true) : fewB L = false := by
  rw [fewB, show firstN (bigAt L) L.length = some n from first_some h hn e]; simp
theorem few_yes {L : List Dc} (h : ¬ 40 < L.length) (h2 : noneTo (bigAt L) L.length) : fewB L = true := by
  rw [fewB, first_none h2, decide_eq_true (by omega)]; rfl
theorem few_len {L : List Dc} (h : fewB L = true) : L.length ≤ 40 := by
  rw [fewB, Bool.and_eq_true] at h
  exact of_decide_eq_true h.1
theorem few_at {L : List Dc} (h : fewB L = true) {n : Nat} (hn : n < L.length) : (nmAt L n).size ≤ 100 ∧ (ksAt L n).length ≤ 20 := by
  rw [fewB, Bool.and_eq_true] at h
  have h2 := h.2
  rw [Option.isNone_iff_eq_none] at h2
  unfold firstN at h2
  rw [List.find?_range_eq_none] at h2
  have h3 := h2 n hn
  simp only [bigAt, Bool.not_eq_true', Bool.or_eq_false_iff, decide_eq_false_iff_not] at h3
  omega

set_option maxHeartbeats 1000000 in
theorem few_calls (a : Option Addr) (len cap : Nat) (L : List Dc) (w : World) (h : DIn w a len L) :
    Calls Tryd.prog 13 #[.slice a len cap] w fun e w' => e = .returned (.bool (fewB L)) ∧ w = w' := by
  have HD := Lib.hid h
  have HL := Lib.hid h.leng
  have hsm := h.small
  clear h
  by_cases h40 : 40 < len
  · have HV : Hid (fewB L = false) := Lib.hid (few_long (by rw [HL.out]; exact h40))
    have t1 : decide ((40 : Int) < (len : Int)) = true := by simp; omega
    clear h40
    go_enter Tryd.func13, Tryd.ntmps13
    go_wp2_with fail
    go_ret
    exact ⟨by rw [HV.out]; rfl, rfl⟩
  have t1 : decide ((40 : Int) < (len : Int)) = false := by simp; omega
  have H40 := Lib.hid h40
  have H0 := Lib.hid (noneTo_zero (bigAt L))
  clear h40
  go_enter Tryd.func13, Tryd.ntmps13
  go_wp2_with fail
  go_loopw [3] (fun i wr => ∃ (n : Nat), n ≤ len ∧ i = .int .i64 n ∧ Hid (noneTo (bigAt L) n) ∧ w = wr) (fun i _ => len - (intOf i).toNat)
  case atStart => exact ⟨0, Nat.zero_le _, rfl, H0, rfl⟩
  case round =>
    obtain ⟨n, hn, rfl, HX, rfl⟩ := hrel
    by_cases hlt : n < len
    case neg =>
      have HV : Hid (fewB L = true) := Lib.hid (few_yes (by rw [HL.out]; exact H40.out) (by rw [HL.out, ← show n = len by omega]; exact HX.out))
      go_wp2_with fail
      go_ret
      exact ⟨by rw [HV.out]; rfl, rfl⟩
    case pos =>
      obtain ⟨g, off, b, c, rfl, hg, h1, h2, h3, h4⟩ := HD.out.at' n hlt
      have HBad : Hid (bigAt L n = true → fewB L = false) := Lib.hid (few_big HX.out (by rw [HL.out]; exact hlt))
      have HOk : Hid (bigAt L n = false → noneTo (bigAt L) (n + 1)) := Lib.hid (noneTo_step HX.out)
      have HE : Hid (bigAt L n = (decide (100 < (nmAt L n).size) || decide (20 < (ksAt L n).length))) := Lib.hid rfl
      have hks := h3.small
      clear h3
      generalize nmAt L n = y at h1 h4 HE
      generalize (ksAt L n).length = m at h2 hks HE
      by_cases h100 : 100 < y.size
      · have HV := Lib.hid (HBad.out (by rw [HE.out, decide_eq_true h100]; rfl))
        have t2 : decide ((100 : Int) < (y.size : Int)) = true := by simp; omega
        clear h100
        go_wp2_with fail
        go_ret
        exact ⟨by rw [HV.out]; rfl, rfl⟩
      · have t2 : decide ((100 : Int) < (y.size : Int)) = false := by simp; omega
        by_cases h20 : 20 < m
        · have HV := Lib.hid (HBad.out (by rw [HE.out, decide_eq_true h20]; simp))
          have t3 : decide ((20 : Int) < (m : Int)) = true := by simp; omega
          clear h100 h20
          go_wp2_with fail
          go_ret
          exact ⟨by rw [HV.out]; rfl, rfl⟩
        · have HX2 := Lib.hid (HOk.out (by rw [HE.out, decide_eq_false h100, decide_eq_false h20]; rfl))
          have t3 : decide ((20 : Int) < (m : Int)) = false := by simp; omega
          clear h100 h20
          go_wp2_with fail
          go_roundw
          case rel => exact ⟨n + 1, hlt, by go_num, HX2, trivial⟩
          case measure => simp [intOf]; omega

theorem cell_below {w w' : World} {g n : Nat} {v : Value} (hc : w.cell? ⟨g, n, none⟩ = some v) (hb : Below w.heap.size w w') : w'.cell? ⟨g, n, none⟩ = some v :=
  (hb.cell (p := ⟨g, n, none⟩) (block_lt_of_cell hc)).trans hc
/-- The chapter's example. -/
def openD : List Dc := [(⟨#[111, 112, 101, 110]⟩, [2, 1])]
theorem open_check : checkL openD = (-1, 0) := by decide +kernel
theorem open_text : textT ⟨#[111, 112, 101, 110]⟩ [2, 1] = ⟨#[111, 112, 101, 110, 40, 115, 116, 114, 105, 110, 103, 44, 32, 105, 110, 116, 41]⟩ := by decide +kernel
theorem forall_word : wordB ⟨#[102, 111, 114, 97, 108, 108]⟩ = true := by decide +kernel
theorem kin_two {w : World} {g : Nat} (h0 : w.cell? ⟨g, 0, none⟩ = some (.int .i64 2)) (h1 : w.cell? ⟨g, 1, none⟩ = some (.int .i64 1)) : KIn w (some ⟨g, 0, none⟩) 2 [2, 1] :=
  ⟨rfl, by omega, fun n hn => by
    have : n = 0 ∨ n = 1 := by omega
    rcases this with rfl | rfl
    · exact ⟨g, 0, rfl, block_lt_of_cell h0, h0⟩
    · exact ⟨g, 0, rfl, block_lt_of_cell h0, h1⟩⟩
theorem din_open {w : World} {g g2 : Nat} (h0 : w.cell? ⟨g, 0, none⟩ = some (.string ⟨#[111, 112, 101, 110]⟩)) (h1 : w.cell? ⟨g, 1, none⟩ = some (.slice (some ⟨g2, 0, none⟩) 2 2)) (hk : KIn w (some ⟨g2, 0, none⟩) 2 [2, 1]) : DIn w (some ⟨g, 0, none⟩) 1 openD :=
  ⟨rfl, by omega, fun n hn => by
    obtain rfl : n = 0 := by omega
    exact ⟨g, 0, some ⟨g2, 0, none⟩, 2, rfl, block_lt_of_cell h0, h0, h1, hk, by decide⟩⟩

set_option maxHeartbeats 4000000 in
set_option maxRecDepth 100000 in
theorem awake_calls (w : World) (hw : Wds w) :
    Calls Tryd.prog 6 #[] w fun e w' => e = .returned (.bool true) ∧ Below w.heap.size w w' := by
  have HC := Lib.hid (fun g w1 (h : DIn w1 (some ⟨g, 0, none⟩) 1 openD) (h1 : Wds w1) => scCheck_calls (some ⟨g, 0, none⟩) 1 1 openD w1 h (by omega) (by omega) h1)
  rw [open_check] at HC
  have HT := Lib.hid (fun g w1 (h : KIn w1 (some ⟨g, 0, none⟩) 2 [2, 1]) => scText_calls ⟨#[111, 112, 101, 110]⟩ (some ⟨g, 0, none⟩) 2 2 [2, 1] w1 h (by decide) (by omega))
  rw [open_text] at HT
  have HF := Lib.hid (fun w1 (h : Wds w1) => scWord_calls ⟨#[102, 111, 114, 97, 108, 108]⟩ w1 h)
  rw [forall_word] at HF
  obtain ⟨wa, hwa⟩ : ∃ wa, wa = w.alloc (.cells #[.int .i64 2, .int .i64 1] 3) := ⟨_, rfl⟩
  obtain ⟨wb, hwb⟩ : ∃ wb, wb = wa.alloc (.cells #[.string ⟨#[111, 112, 101, 110]⟩, .slice (some ⟨w.heap.size, 0, none⟩) 2 2] 36) := ⟨_, rfl⟩
  obtain ⟨wc, hwc⟩ : ∃ wc, wc = wb.alloc (.cells #[.string ⟨#[111, 112, 101, 110]⟩, .slice (some ⟨w.heap.size, 0, none⟩) 2 2] 36) := ⟨_, rfl⟩
  have za : wa.heap.size = w.heap.size + 1 := by rw [hwa]; simp
  have zb : wb.heap.size = w.heap.size + 1 + 1 := by rw [hwb]; simp [za]
  have a0 : wa.cell? ⟨w.heap.size, 0, none⟩ = some (.int .i64 2) := by rw [hwa]; exact cell_new w _ _ rfl
  have a1 : wa.cell? ⟨w.heap.size, 1, none⟩ = some (.int .i64 1) := by rw [hwa]; exact cell_new w _ _ rfl
  have b0 : wb.cell? ⟨w.heap.size + 1, 0, none⟩ = some (.string ⟨#[111, 112, 101, 110]⟩) := by rw [hwb, ← za]; exact cell_new wa _ _ rfl
  have b1 : wb.cell? ⟨w.heap.size + 1, 1, none⟩ = some (.slice (some ⟨w.heap.size, 0, none⟩) 2 2) := by rw [hwb, ← za]; exact cell_new wa _ _ rfl
  have c0 : wc.cell? ⟨w.heap.size + 1 + 1, 0, none⟩ = some (.string ⟨#[111, 112, 101, 110]⟩) := by rw [hwc, ← zb]; exact cell_new wb _ _ rfl
  have c1 : wc.cell? ⟨w.heap.size + 1 + 1, 1, none⟩ = some (.slice (some ⟨w.heap.size, 0, none⟩) 2 2) := by rw [hwc, ← zb]; exact cell_new wb _ _ rfl
  have a0c : wc.cell? ⟨w.heap.size, 0, none⟩ = some (.int .i64 2) := by rw [hwc]; exact cell_alloc (by rw [hwb]; exact cell_alloc a0 _) _
  have a1c : wc.cell? ⟨w.heap.size, 1, none⟩ = some (.int .i64 1) := by rw [hwc]; exact cell_alloc (by rw [hwb]; exact cell_alloc a1 _) _
  have b0c : wc.cell? ⟨w.heap.size + 1, 0, none⟩ = some (.string ⟨#[111, 112, 101, 110]⟩) := by rw [hwc]; exact cell_alloc b0 _
  have b1c : wc.cell? ⟨w.heap.size + 1, 1, none⟩ = some (.slice (some ⟨w.heap.size, 0, none⟩) 2 2) := by rw [hwc]; exact cell_alloc b1 _
  have HBc : Hid (Below w.heap.size w wc) := Lib.hid (by
    rw [hwc, hwb, hwa]
    exact (((Below.refl _ _).alloc (Nat.le_refl _) _).alloc (by simp) _).alloc (by simp; omega) _)
  have HK := Lib.hid (kin_two a0c a1c)
  have HD := Lib.hid (din_open c0 c1 (kin_two a0c a1c))
  have HW := Lib.hid (hw.below HBc.out)
  have HB0 := Lib.hid b0c
  have HB1 := Lib.hid b1c
  clear za zb a0 a1 b0 b1 c0 c1 a0c a1c b0c b1c hw
  have Hwa := Lib.hid hwa
  have Hwb := Lib.hid hwb
  have Hwc := Lib.hid hwc
  clear hwa hwb hwc
  go_enter Tryd.func6, Tryd.ntmps6
  go_wp2_with fail
  rw [← Hwa.out, ← Hwb.out, ← Hwc.out]
  clear Hwa Hwb Hwc
  refine (HC.out _ _ HD.out HW.out).mono ?_
  rintro e w1 ⟨rfl, k1⟩
  have d0 := cell_below HB0.out k1
  have d1 := cell_below HB1.out k1
  have HB2 := Lib.hid (HBc.out.trans (k1.mono HBc.out.size))
  have HK1 := Lib.hid (HK.out.below k1)
  have HW1 := Lib.hid (HW.out.below k1)
  clear k1
  go_wp2_with fail
  refine (HT.out _ _ HK1.out).mono ?_
  rintro e w2 ⟨rfl, k2⟩
  have HB3 := Lib.hid (HB2.out.trans (k2.mono HB2.out.size))
  have HW2 := Lib.hid (HW1.out.below k2)
  clear k2 d0 d1
  go_wp2_with fail
  refine (HF.out _ HW2.out).mono ?_
  rintro e w3 ⟨rfl, rfl⟩
  go_wp2_with fail
  go_ret
  exact ⟨rfl, HB3.out⟩
end Go.Proofs.YtpinjocnmdnmiaaDoor
