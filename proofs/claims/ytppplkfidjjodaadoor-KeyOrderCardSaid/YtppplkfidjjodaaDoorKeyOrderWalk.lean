/- The walk of the law KeyOrder: with any lists of values it answers true. -/
import Derived.Test.YtppplkfidjjodaaDoorKeyAwake
import Derived.Test.YtppplkfidjjodaaDoorKeyBelow
import Derived.Test.YtppplkfidjjodaaDoorKeyOpen
namespace Go.Proofs.YtppplkfidjjodaaDoor.keyOrder
open Go.RowKit
set_option linter.unusedVariables false

set_option maxHeartbeats 4000000 in
set_option maxRecDepth 100000 in
theorem walk (a : Option Addr) (len cap : Nat) (A : List Vd) (a' : Option Addr) (len' cap' : Nat) (B : List Vd) (w : World) (hv : VIn w a len A) (hv' : VIn w a' len' B) (hm : MaxAt w) :
    Calls Tryd.prog 6 #[.slice a len cap, .slice a' len' cap'] w fun e w' => e = .returned (.bool true) ∧ Below w.heap.size w w' := by
  have HAw := Lib.hid (fun w1 (hb : Below w.heap.size w w1) => awake_calls w1 (hm.below hb))
  have h1 := lawRight_calls a len cap A w hv
  have h2 := fun w1 (hb : Below w.heap.size w w1) => lawRight_calls a' len' cap' B w1 (hv'.below hb)
  by_cases hA : rN A = 1
  case neg =>
    obtain ⟨x, hx⟩ : ∃ x, x = rN A := ⟨_, rfl⟩
    rw [← hx] at h1 hA
    have t1 : (x != 1) = true := by simpa using hA
    have H1 := Lib.hid h1
    clear h1 h2 hx hA hv hv' hm
    go_enter Tryd.func6, Tryd.ntmps6
    go_wp2_with fail
    refine H1.out.mono ?_
    rintro e w1 ⟨rfl, k1⟩
    have HK1 := Lib.hid k1
    clear k1
    go_wp2_with fail
    refine (HAw.out _ HK1.out).mono ?_
    rintro e w2 ⟨rfl, k2⟩
    go_wp2_with fail
    go_ret
    exact ⟨rfl, HK1.out.trans (k2.mono HK1.out.size)⟩
  rw [hA] at h1
  have H1 := Lib.hid h1
  by_cases hB : rN B = 1
  case neg =>
    obtain ⟨x, hx⟩ : ∃ x, x = rN B := ⟨_, rfl⟩
    rw [← hx] at h2 hB
    have t1 : (x != 1) = true := by simpa using hB
    have H2 := Lib.hid h2
    clear h1 h2 hx hA hB hv hv' hm
    go_enter Tryd.func6, Tryd.ntmps6
    go_wp2_with fail
    refine H1.out.mono ?_
    rintro e w1 ⟨rfl, k1⟩
    have HK1 := Lib.hid k1
    clear k1
    go_wp2_with fail
    refine (H2.out _ HK1.out).mono ?_
    rintro e w2 ⟨rfl, k2⟩
    have HK2 := Lib.hid (HK1.out.trans (k2.mono HK1.out.size))
    clear k2
    go_wp2_with fail
    refine (HAw.out _ HK2.out).mono ?_
    rintro e w3 ⟨rfl, k3⟩
    go_wp2_with fail
    go_ret
    exact ⟨rfl, HK2.out.trans (k3.mono HK2.out.size)⟩
  rw [hB] at h2
  have H2 := Lib.hid h2
  obtain ⟨hallA, hlenA⟩ := rN_one hv hA
  obtain ⟨hallB, hlenB⟩ := rN_one hv' hB
  have HO1 := Lib.hid (fun w1 (hb : Below w.heap.size w w1) => ofYes_calls a len cap A w1 (hv.below hb) hallA (by omega) (hm.below hb))
  have HO2 := Lib.hid (fun w1 (hb : Below w.heap.size w w1) => ofYes_calls a' len' cap' B w1 (hv'.below hb) hallB (by omega) (hm.below hb))
  have HS := Lib.hid (fun w1 (hb : Below w.heap.size w w1) => lawSame_calls a a' len len' cap cap' A B w1 (hv.below hb) (hv'.below hb))
  have HBl := Lib.hid (fun w1 (hb : Below w.heap.size w w1) => lawBelow_calls a a' len len' cap cap' A B w1 (hv.below hb) (hv'.below hb) hallA hallB)
  obtain ⟨x, hx⟩ : ∃ x : ByteArray, x = ⟨(keysL A).toArray⟩ := ⟨_, rfl⟩
  obtain ⟨y, hy⟩ : ∃ y : ByteArray, y = ⟨(keysL B).toArray⟩ := ⟨_, rfl⟩
  have hxl : x.toList = keysL A := by rw [hx, tl_mk]
  have hyl : y.toList = keysL B := by rw [hy, tl_mk]
  have hxs : x.size ≤ 9223372036854775807 := by rw [← tl_len, hxl]; have := keys_max hallA; rw [hv.leng] at this; omega
  have hys : y.size ≤ 9223372036854775807 := by rw [← tl_len, hyl]; have := keys_max hallB; rw [hv'.leng] at this; omega
  have hL := fun w1 => refBelow_calls x y w1 hxs hys
  rw [hxl, hyl, keys_less hallA hallB] at hL
  have HLs := Lib.hid hL
  have hE : (x.toList == y.toList) = sameL A B := by rw [hxl, hyl]; exact keys_same hallA hallB
  have HT1 := Lib.hid (fun (g : Nat) (w1 : World) (h : Holds g (keysL A) w1) => h.bts.text (keysL A).length)
  have HT2 := Lib.hid (fun (g : Nat) (w1 : World) (h : Holds g (keysL B) w1) => h.bts.text (keysL B).length)
  rw [← hx] at HT1
  rw [← hy] at HT2
  obtain ⟨N, hN⟩ : ∃ N, N = belowL A B := ⟨_, rfl⟩
  obtain ⟨M, hM⟩ : ∃ M, M = sameL A B := ⟨_, rfl⟩
  rw [← hN] at HLs HBl
  rw [← hM] at HS hE
  obtain ⟨lx, hlx⟩ : ∃ lx, lx = (keysL A).length := ⟨_, rfl⟩
  obtain ⟨ly, hly⟩ : ∃ ly, ly = (keysL B).length := ⟨_, rfl⟩
  rw [← hlx] at HO1 HT1
  rw [← hly] at HO2 HT2
  clear h1 h2 hA hB hv hv' hm hallA hallB hx hy hxl hyl hL hN hM hlx hly
  go_enter Tryd.func6, Tryd.ntmps6
  go_wp2_with fail
  refine H1.out.mono ?_
  rintro e w1 ⟨rfl, k1⟩
  have HK1 := Lib.hid k1
  clear k1
  go_wp2_with fail
  refine (H2.out _ HK1.out).mono ?_
  rintro e w2 ⟨rfl, k2⟩
  have HK2 := Lib.hid (HK1.out.trans (k2.mono HK1.out.size))
  clear k2 HK1
  go_wp2_with fail
  refine (HO1.out _ HK2.out).mono ?_
  rintro e w3 ⟨⟨g1, rfl, _, hh1⟩, k3⟩
  have HK3 := Lib.hid (HK2.out.trans (k3.mono HK2.out.size))
  have c1 := HT1.out g1 w3 hh1
  clear k3 HK2 hh1
  go_wp2_with fail
  refine (HO2.out _ HK3.out).mono ?_
  rintro e w4 ⟨⟨g2, rfl, _, hh2⟩, k4⟩
  have HK4 := Lib.hid (HK3.out.trans (k4.mono HK3.out.size))
  have c2 := HT2.out g2 w4 hh2
  clear k4 HK3 hh2 c1
  go_wp2_with fail
  refine (HLs.out _).mono ?_
  rintro e w5 ⟨rfl, k5⟩
  have HK5 := Lib.hid (HK4.out.trans (k5.mono HK4.out.size))
  clear k5 HK4 c2
  go_wp2_with fail
  refine (HBl.out _ HK5.out).mono ?_
  rintro e w6 ⟨rfl, k6⟩
  have HK6 := Lib.hid (HK5.out.trans (k6.mono HK5.out.size))
  clear k6 HK5
  have e1 : (N == N) = true := by simp
  have e2 : (M == M) = true := by simp
  go_wp2_with fail
  refine (HS.out _ HK6.out).mono ?_
  rintro e w7 ⟨rfl, k7⟩
  have HK7 := Lib.hid (HK6.out.trans (k7.mono HK6.out.size))
  clear k7 HK6
  go_wp2_with fail
  refine (HAw.out _ HK7.out).mono ?_
  rintro e w8 ⟨rfl, k8⟩
  go_wp2_with fail
  go_ret
  exact ⟨rfl, HK7.out.trans (k8.mono HK7.out.size)⟩
end Go.Proofs.YtppplkfidjjodaaDoor.keyOrder
