/- The walk of the law KeyOf: with any list of values it answers true. -/
import Derived.Test.YtppplkfidjjodaaDoorKeyAwake
import Derived.Test.YtppplkfidjjodaaDoorKeyOpen
import Derived.Test.YtppplkfidjjodaaDoorKeyOfNo
import Derived.Test.YtppplkfidjjodaaDoorKeyRefKeys
namespace Go.Proofs.YtppplkfidjjodaaDoor.keyOf
open Go.RowKit
set_option linter.unusedVariables false

theorem read_all {A L : List Vd} (hA : allD A) {ok : Bool} (h : ReadTold (keysL A) L ok) : ok = true ∧ L = A := by
  rcases h with ⟨rfl, h1, h2⟩ | ⟨rfl, _, h2⟩
  · exact ⟨rfl, keys_inj h1 hA h2.symm⟩
  · exact absurd rfl (h2 A hA)
theorem same_refl (A : List Vd) : sameL A A = true := (sameL_iff A A).2 rfl

set_option maxHeartbeats 4000000 in
set_option maxRecDepth 100000 in
theorem walk (a : Option Addr) (len cap : Nat) (A : List Vd) (w : World) (hv : VIn w a len A) (hm : MaxAt w) :
    Calls Tryd.prog 3 #[.slice a len cap] w fun e w' => e = .returned (.bool true) ∧ Below w.heap.size w w' := by
  have HAw := Lib.hid (fun w1 (hb : Below w.heap.size w w1) => awake_calls w1 (hm.below hb))
  have h1 := lawRight_calls a len cap A w hv
  rcases rN_cases A with hA | hA | hA
  · rw [hA] at h1
    have H1 := Lib.hid h1
    clear h1 hA hv hm
    go_enter Tryd.func3, Tryd.ntmps3
    go_wp2_with fail
    refine H1.out.mono ?_
    rintro e w1 ⟨rfl, k1⟩
    have HK1 := Lib.hid k1
    clear k1
    go_wp2_with fail
    refine (HAw.out _ HK1.out).mono ?_
    rintro e w2 ⟨rfl, k2⟩
    go_wp2_with fail
    go_ret
    exact ⟨rfl, HK1.out.trans (k2.mono HK1.out.size)⟩
  · obtain ⟨hl, n0, hn0, hbad, hgood⟩ := rN_zero hv hA
    rw [hA] at h1
    have H1 := Lib.hid h1
    have HN := Lib.hid (fun w1 (hb : Below w.heap.size w w1) => ofNo_calls a len cap A w1 (hv.below hb) n0 hn0 hbad hgood (by omega))
    clear h1 hA hv hm hbad hgood
    go_enter Tryd.func3, Tryd.ntmps3
    go_wp2_with fail
    refine H1.out.mono ?_
    rintro e w1 ⟨rfl, k1⟩
    have HK1 := Lib.hid k1
    clear k1
    go_wp2_with fail
    refine (HN.out _ HK1.out).mono ?_
    rintro e w2 ⟨rfl, k2⟩
    have HK2 := Lib.hid (HK1.out.trans (k2.mono HK1.out.size))
    clear k2 HK1
    go_wp2_with fail
    refine (HAw.out _ HK2.out).mono ?_
    rintro e w3 ⟨rfl, k3⟩
    go_wp2_with fail
    go_ret
    exact ⟨rfl, HK2.out.trans (k3.mono HK2.out.size)⟩
  · obtain ⟨hall, hlen⟩ := rN_one hv hA
    rw [hA] at h1
    have H1 := Lib.hid h1
    have HO := Lib.hid (fun w1 (hb : Below w.heap.size w w1) => ofYes_calls a len cap A w1 (hv.below hb) hall (by omega) (hm.below hb))
    have hkl : (keysL A).length ≤ 81950 := by have := keys_max hall; rw [hv.leng] at this; omega
    have HRd := Lib.hid (fun g w1 (hb : BIn w1 (some ⟨g, 0, none⟩) (keysL A).length (keysL A).length (keysL A)) => read_calls _ _ _ _ w1 hb (by omega))
    have HKs := Lib.hid (fun w1 (hb : Below w.heap.size w w1) => refKeys_calls a len cap A w1 (hv.below hb) hall (by omega))
    have HTold := Lib.hid (fun L ok (h : ReadTold (keysL A) L ok) => read_all hall h)
    have HSm := Lib.hid (fun a' cap' w1 (hb : Below w.heap.size w w1) (h' : VIn w1 a' A.length A) => lawSame_calls a a' len A.length cap cap' A A w1 (hv.below hb) h')
    rw [same_refl] at HSm
    have HFit := Lib.hid (allD_fits hall)
    obtain ⟨x, hx⟩ : ∃ x : ByteArray, x = ⟨(keysL A).toArray⟩ := ⟨_, rfl⟩
    have HT1 := Lib.hid (fun (g : Nat) (w1 : World) (h : Holds g (keysL A) w1) => h.bts.text (keysL A).length)
    have HT2 := Lib.hid (fun (B : Nat) (o : Value) (w1 : World) (h : w1.ownsRow B 5 1 o (keysL A).length (Lib.byteCells (keysL A))) => owned_text h)
    have HBi := Lib.hid (fun (g : Nat) (w1 : World) (h : Holds g (keysL A) w1) => (⟨rfl, Nat.le_refl _, fun _ => ⟨g, 0, rfl, h.bts⟩⟩ : BIn w1 (some ⟨g, 0, none⟩) (keysL A).length (keysL A).length (keysL A)))
    rw [← hx] at HT1 HT2
    have e1 : (x.toList == x.toList) = true := by simp
    obtain ⟨lx, hlx⟩ : ∃ lx, lx = (keysL A).length := ⟨_, rfl⟩
    rw [← hlx] at HO HT1 HBi HRd
    clear h1 hA hv hm hall hx hlx hkl
    go_enter Tryd.func3, Tryd.ntmps3
    go_wp2_with fail
    refine H1.out.mono ?_
    rintro e w1 ⟨rfl, k1⟩
    have HK1 := Lib.hid k1
    clear k1
    go_wp2_with fail
    refine (HO.out _ HK1.out).mono ?_
    rintro e w2 ⟨⟨g1, rfl, _, hh1⟩, k2⟩
    have HK2 := Lib.hid (HK1.out.trans (k2.mono HK1.out.size))
    have HH1 := Lib.hid hh1
    clear k2 HK1 hh1
    go_wp2_with fail
    refine (HRd.out _ _ (HBi.out _ _ HH1.out)).mono ?_
    rintro e w3 ⟨L, ok, o, ht, rfl, ho, k3⟩
    obtain ⟨rfl, rfl⟩ := HTold.out _ _ ht
    obtain ⟨ax, cx, rfl, hvx⟩ := own_vin ho HFit.out
    have HK3 := Lib.hid (HK2.out.trans (k3.mono HK2.out.size))
    have HH3 := Lib.hid (HH1.out.below k3)
    have HVX := Lib.hid hvx
    have HB := Lib.hid (HT1.out _ _ HH3.out.drew)
    clear k3 HK2 HH1 ht ho hvx
    go_wp2_with fail
    refine wp_region_held_drew (S := (fun w4 => (convert 25 9 (.slice (some ⟨g1, 0, none⟩) lx lx)).run Tryd.prog w4 = .ok (.string x) w4)) (by kernel_rfl) (HB.out) (fun hH0 => ?_)
    refine wpAnyH_take (i := 0) (v := .slice (some ⟨g1, 0, none⟩) lx lx) rfl (by kernel_rfl) (by kernel_rfl) (by kernel_rfl) (fun _ _ _ h => h) (Or.inl ⟨by kernel_rfl, fun wS hSw => by (try dsimp only at hSw); go_simp⟩) hH0 ?_
    refine wpAnyH_take (i := 1) (v := .string x) rfl (by kernel_rfl) (by kernel_rfl) (by kernel_rfl) (fun _ _ _ h => h) (Or.inl ⟨by kernel_rfl, fun wS hSw => by (try dsimp only at hSw); go_simp⟩) hH0 ?_
    refine wpAnyH_take (i := 2) (v := .slice a len cap) rfl (by kernel_rfl) (by kernel_rfl) (by kernel_rfl) (fun _ _ _ h => h) (Or.inl ⟨by kernel_rfl, fun wS hSw => by (try dsimp only at hSw); go_simp⟩) hH0 ?_
    refine wpAnyH_ready (rs := [3]) (by kernel_rfl) (by simp) ?_
    refine AllReadyH.cons rfl (fun K hK => ?_) AllReadyH.nil
    rw [if_pos (by kernel_rfl)]
    go_simp
    refine (HKs.out _ HK3.out.drew).mono ?_
    rintro e w4 ⟨o2, rfl, ho2, k4⟩
    have k5 := (Below.refl w3.heap.size w3).drew.trans k4
    have HK4 := Lib.hid (HK3.out.trans (k5.mono HK3.out.size))
    have HV4 := Lib.hid (HVX.out.below k5)
    have c2 := HT2.out _ _ _ ho2
    have HH4 := Lib.hid (HH3.out.below k5)
    clear k4 k5 ho2
    refine hK.out _ _ (HT1.out _ _ HH4.out) (fun hH1 => ?_)
    clear hK K
    refine wpAnyH_ready (rs := [4]) (by kernel_rfl) (by simp) ?_
    refine AllReadyH.cons rfl (fun K hK => ?_) AllReadyH.nil
    rw [if_pos (by kernel_rfl)]
    go_simp
    refine hK.out _ _ (HT1.out _ _ HH4.out) (fun hH2 => ?_)
    clear hK K
    refine wpAnyH_take (i := 5) (v := .bool true) rfl (by kernel_rfl) (by kernel_rfl) (by kernel_rfl) (fun _ _ _ h => h) (Or.inl ⟨by kernel_rfl, fun wS hSw => by (try dsimp only at hSw); go_simp⟩) hH2 ?_
    refine wpAnyH_take (i := 6) (v := .bool true) rfl (by kernel_rfl) (by kernel_rfl) (by kernel_rfl) (fun _ _ _ h => h) (Or.inl ⟨by kernel_rfl, fun wS hSw => by (try dsimp only at hSw); go_simp⟩) hH2 ?_
    refine wpAnyH_take (i := 7) (v := .bool true) rfl (by kernel_rfl) (by kernel_rfl) (by kernel_rfl) (fun _ _ _ h => h) (Or.inl ⟨by kernel_rfl, fun wS hSw => by (try dsimp only at hSw); go_simp⟩) hH2 ?_
    refine wpAnyH_take (i := 8) (v := .bool true) rfl (by kernel_rfl) (by kernel_rfl) (by kernel_rfl) (fun _ _ _ h => h) (Or.inl ⟨by kernel_rfl, fun wS hSw => by (try dsimp only at hSw); go_simp⟩) hH2 ?_
    refine wpAnyH_take (i := 9) (v := .bool true) rfl (by kernel_rfl) (by kernel_rfl) (by kernel_rfl) (fun _ _ _ h => h) (Or.inl ⟨by kernel_rfl, fun wS hSw => by (try dsimp only at hSw); go_simp⟩) hH2 ?_
    refine wpAnyH_take (i := 10) (v := .slice a len cap) rfl (by kernel_rfl) (by kernel_rfl) (by kernel_rfl) (fun _ _ _ h => h) (Or.inl ⟨by kernel_rfl, fun wS hSw => by (try dsimp only at hSw); go_simp⟩) hH2 ?_
    refine wpAnyH_take (i := 11) (v := .slice ax L.length cx) rfl (by kernel_rfl) (by kernel_rfl) (by kernel_rfl) (fun _ _ _ h => h) (Or.inl ⟨by kernel_rfl, fun wS hSw => by (try dsimp only at hSw); go_simp⟩) hH2 ?_
    refine wpAnyH_ready (rs := [12]) (by kernel_rfl) (by simp) ?_
    refine AllReadyH.cons rfl (fun K hK => ?_) AllReadyH.nil
    rw [if_pos (by kernel_rfl)]
    go_simp
    refine (HSm.out _ _ _ HK4.out HV4.out).mono ?_
    rintro e w5 ⟨rfl, k5⟩
    have HK5 := Lib.hid (HK4.out.trans (k5.mono HK4.out.size))
    have HH5 := Lib.hid (HH4.out.below k5)
    clear k5
    refine hK.out _ _ (HT1.out _ _ HH5.out) (fun hH3 => ?_)
    clear hK K
    refine wpAnyH_take (i := 13) (v := .bool true) rfl (by kernel_rfl) (by kernel_rfl) (by kernel_rfl) (fun _ _ _ h => h) (Or.inl ⟨by kernel_rfl, fun wS hSw => by (try dsimp only at hSw); go_simp⟩) hH3 ?_
    refine wpAnyH_take (i := 14) (v := .bool true) rfl (by kernel_rfl) (by kernel_rfl) (by kernel_rfl) (fun _ _ _ h => h) (Or.inl ⟨by kernel_rfl, fun wS hSw => by (try dsimp only at hSw); go_simp⟩) hH3 ?_
    refine wpAnyH_ready (rs := [15]) (by kernel_rfl) (by simp) ?_
    refine AllReadyH.cons rfl (fun K hK => ?_) AllReadyH.nil
    rw [if_pos (by kernel_rfl)]
    go_simp
    refine (HAw.out _ HK5.out).mono ?_
    rintro e w6 ⟨rfl, k6⟩
    have HK6 := Lib.hid (HK5.out.trans (k6.mono HK5.out.size))
    have HH6 := Lib.hid (HH5.out.below k6)
    clear k6
    refine hK.out _ _ (HT1.out _ _ HH6.out) (fun hH4 => ?_)
    clear hK K
    refine wpAnyH_take (i := 16) (v := .bool true) rfl (by kernel_rfl) (by kernel_rfl) (by kernel_rfl) (fun _ _ _ h => h) (Or.inl ⟨by kernel_rfl, fun wS hSw => by (try dsimp only at hSw); go_simp⟩) hH4 ?_
    refine wpAnyH_take (i := 17) (v := .bool true) rfl (by kernel_rfl) (by kernel_rfl) (by kernel_rfl) (fun _ _ _ h => h) (Or.inl ⟨by kernel_rfl, fun wS hSw => by (try dsimp only at hSw); go_simp⟩) hH4 ?_
    refine wpAnyH_done (by kernel_rfl) ?_ _
    go_simp
    go_wp2_with fail
    go_ret
    exact ⟨rfl, HK6.out⟩
end Go.Proofs.YtppplkfidjjodaaDoor.keyOf
