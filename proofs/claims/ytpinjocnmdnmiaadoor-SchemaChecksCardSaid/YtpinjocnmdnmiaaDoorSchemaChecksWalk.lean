/- The walk of the law SchemaChecks: with any declarations, and any name, it answers true. -/
import Derived.Test.YtpinjocnmdnmiaaDoorScHelp
import Derived.Test.YtpinjocnmdnmiaaDoorScRefCheck
import Derived.Test.YtpinjocnmdnmiaaDoorScRefText
namespace Go.Proofs.YtpinjocnmdnmiaaDoor.schemaChecks
open Go.RowKit
set_option linter.unusedVariables false

set_option maxHeartbeats 8000000 in
set_option maxRecDepth 100000 in
theorem walk (a : Option Addr) (len cap : Nat) (L : List Dc) (x : ByteArray) (w : World) (h : DIn w a len L) (hlc : len ≤ cap) (hcm : cap ≤ 9223372036854775807) (hx : x.size ≤ 9223372036854775807) (hw : Wds w) :
    Calls Tryd.prog 4 #[.slice a len cap, .string x] w fun e w' => e = .returned (.bool true) ∧ Below w.heap.size w w' := by
  have HAw := Lib.hid (fun w1 (hb : Below w.heap.size w w1) => awake_calls w1 (hw.below hb))
  have HFw := Lib.hid (few_calls a len cap L w h)
  cases hf : fewB L
  case false =>
    rw [hf] at HFw
    clear hf h hw
    go_enter Tryd.func4, Tryd.ntmps4
    go_wp2_with fail
    refine HFw.out.mono ?_
    rintro e w1 ⟨rfl, hw1⟩
    subst hw1
    go_wp2_with fail
    refine (HAw.out _ (Below.refl _ _)).mono ?_
    rintro e w1 ⟨rfl, k1⟩
    go_wp2_with fail
    go_ret
    exact ⟨rfl, k1⟩
  rw [hf] at HFw
  by_cases h100 : 100 < x.size
  · have t1 : decide ((100 : Int) < (x.size : Int)) = true := by simp; omega
    clear hf h hw h100
    go_enter Tryd.func4, Tryd.ntmps4
    go_wp2_with fail
    refine HFw.out.mono ?_
    rintro e w1 ⟨rfl, hw1⟩
    subst hw1
    go_wp2_with fail
    refine (HAw.out _ (Below.refl _ _)).mono ?_
    rintro e w1 ⟨rfl, k1⟩
    go_wp2_with fail
    go_ret
    exact ⟨rfl, k1⟩
  have t1 : decide ((100 : Int) < (x.size : Int)) = false := by simp; omega
  have hl40 : len ≤ 40 := by have := few_len hf; rw [h.leng] at this; exact this
  have HFA := Lib.hid (fun n (hn : n < L.length) => few_at hf hn)
  have HL := Lib.hid h.leng
  have HD := Lib.hid h
  have HC := Lib.hid (scCheck_calls a len cap L w h hlc hcm hw)
  have HRC := Lib.hid (fun w1 (hb : Below w.heap.size w w1) => refCheck_calls a len cap L w1 (h.below hb))
  have HFi := Lib.hid (fun w1 (hb : Below w.heap.size w w1) => scFind_calls a len cap L x w1 (h.below hb))
  have HRF := Lib.hid (fun w1 (hb : Below w.heap.size w w1) => refFind_calls a len cap L x w1 (h.below hb))
  clear hf h hw h100
  generalize (checkL L).1 = ci at HC HRC
  generalize (checkL L).2 = ce at HC HRC
  have e1 : (ci != ci) = false := by simp
  have e2 : ((ce : Int) != (ce : Int)) = false := by simp
  go_enter Tryd.func4, Tryd.ntmps4
  go_wp2_with fail
  refine HFw.out.mono ?_
  rintro e w1 ⟨rfl, hw1⟩
  subst hw1
  go_wp2_with fail
  refine HC.out.mono ?_
  rintro e w1 ⟨rfl, k1⟩
  have HB1 := Lib.hid k1
  clear k1
  go_wp2_with fail
  refine (HRC.out _ HB1.out).mono ?_
  rintro e w2 ⟨rfl, k2⟩
  have HB2 := Lib.hid (HB1.out.trans (k2.mono HB1.out.size))
  clear k2
  go_wp2_with fail
  clear HC HRC HB1 HFw e1 e2
  go_loopw [9] (fun i wr => ∃ (n : Nat), n ≤ len ∧ i = .int .i64 n ∧ Hid (Below w.heap.size w wr)) (fun i _ => len - (intOf i).toNat)
  case atStart => exact ⟨0, by omega, rfl, HB2⟩
  case round =>
    obtain ⟨n, hn, rfl, HB⟩ := hrel
    by_cases hlt : n < len
    case neg =>
      cases hfi : findL L x with
      | none =>
        have HFi2 := Lib.hid (HFi.out _ HB.out)
        have HRF2 := Lib.hid (HRF.out _ HB.out)
        rw [findI, findB, hfi] at HFi2
        rw [findR, hfi] at HRF2
        simp only [Option.getD_none, Option.isSome_none, Int.natCast_zero] at HFi2 HRF2
        clear hfi HFi HRF
        go_wp2_with fail
        refine HFi2.out.mono ?_
        rintro e w1 ⟨rfl, hw1⟩
        subst hw1
        go_wp2_with fail
        refine HRF2.out.mono ?_
        rintro e w1 ⟨rfl, hw1⟩
        subst hw1
        go_wp2_with fail
        refine (HAw.out _ HB.out).mono ?_
        rintro e w4 ⟨rfl, k4⟩
        have HB4 := Lib.hid (HB.out.trans (k4.mono HB.out.size))
        clear k4
        go_wp2_with fail
        go_ret
        exact ⟨rfl, HB4.out⟩
      | some j =>
        have HFi2 := Lib.hid (HFi.out _ HB.out)
        have HRF2 := Lib.hid (HRF.out _ HB.out)
        rw [findI, findB, hfi] at HFi2
        rw [findR, hfi] at HRF2
        simp only [Option.getD_some, Option.isSome_some] at HFi2 HRF2
        have t2 : decide ((0 : Int) ≤ (j : Int)) = true := by simp
        have t3 : ((j : Int) == (j : Int)) = true := by simp
        clear hfi HFi HRF
        go_wp2_with fail
        refine HFi2.out.mono ?_
        rintro e w1 ⟨rfl, hw1⟩
        subst hw1
        go_wp2_with fail
        refine HRF2.out.mono ?_
        rintro e w1 ⟨rfl, hw1⟩
        subst hw1
        go_wp2_with fail
        refine (HAw.out _ HB.out).mono ?_
        rintro e w4 ⟨rfl, k4⟩
        have HB4 := Lib.hid (HB.out.trans (k4.mono HB.out.size))
        clear k4
        go_wp2_with fail
        go_ret
        exact ⟨rfl, HB4.out⟩
    case pos =>
      obtain ⟨g, off, b, c, rfl, hg, h1, h2, h3, h4⟩ := (HD.out.below HB.out).at' n hlt
      obtain ⟨hy, hk⟩ := HFA.out n (by rw [HL.out]; exact hlt)
      generalize nmAt L n = y at h1 h4 hy
      generalize ksAt L n = V at h2 h3 hk
      have HT := Lib.hid (fun w1 (hb : Below wr.heap.size wr w1) => scText_calls y b V.length c V w1 (h3.below hb) (by omega) (by omega))
      have HRT := Lib.hid (fun w1 (hb : Below wr.heap.size wr w1) => refText_calls y b V.length c V w1 (h3.below hb) (by omega) (by omega))
      generalize textT y V = T at HT HRT
      have t2 : (T.toList == T.toList) = true := by simp
      have HS := Lib.hid (show wr.cell? ⟨g, off + n * 2, none⟩ = some (.string y) ∧ wr.cell? ⟨g, off + n * 2 + 1, none⟩ = some (.slice b V.length c) from ⟨h1, h2⟩)
      have HD0 := Lib.hid ((Below.refl wr.heap.size wr).drew)
      clear h3 h4 hy hk
      go_wp2_with fail
      go_region_held3 (fun wx => wx.cell? ⟨g, off + n * 2, none⟩ = some (.string y) ∧ wx.cell? ⟨g, off + n * 2 + 1, none⟩ = some (.slice b V.length c)) (first | exact HS5.out | exact HS4.out | exact HS.out) (first
        | (go_at_call 16; refine (HT.out _ HD0.out).mono ?_; rintro e w4 ⟨rfl, k4⟩; have HK4 := Lib.hid (HD0.out.trans (k4.mono HD0.out.size)); have HS4 := Lib.hid (show w4.cell? ⟨g, off + n * 2, none⟩ = some (.string y) ∧ w4.cell? ⟨g, off + n * 2 + 1, none⟩ = some (.slice b V.length c) from ⟨cell_below HS.out.1 HK4.out, cell_below HS.out.2 HK4.out⟩))
        | (go_at_call 17; refine (HRT.out _ HK4.out).mono ?_; rintro e w5 ⟨rfl, k5⟩; have HK5 := Lib.hid (HK4.out.trans (k5.mono HK4.out.size)); have HS5 := Lib.hid (show w5.cell? ⟨g, off + n * 2, none⟩ = some (.string y) ∧ w5.cell? ⟨g, off + n * 2 + 1, none⟩ = some (.slice b V.length c) from ⟨cell_below HS.out.1 HK5.out, cell_below HS.out.2 HK5.out⟩)))
      go_wp2_with fail
      go_roundw
      case rel => exact ⟨n + 1, hlt, by go_num, Lib.hid (HB.out.trans (HK5.out.mono HB.out.size))⟩
      case measure => simp [intOf]; omega
end Go.Proofs.YtpinjocnmdnmiaaDoor.schemaChecks
