/- The walk of the law BindingParts: with any list of slots, and any whole numbers, it answers true. -/
import Derived.Test.YtjohiehlnbgdaaaDoorBindingPartsMath
import Derived.Test.YtjohiehlnbgdaaaDoorBindAwake
import Derived.Test.YtjohiehlnbgdaaaDoorBindSame
import Derived.Test.YtjohiehlnbgdaaaDoorBindSmall
import Derived.Test.YtjohiehlnbgdaaaDoorSlotKeep
import Derived.Test.YtjohiehlnbgdaaaDoorLowKey
import Derived.Deep.RegionHeld3
namespace Go.Proofs.YtjohiehlnbgdaaaDoor.bindingParts
open Go.RowKit
set_option linter.unusedVariables false

set_option maxHeartbeats 8000000 in
set_option maxRecDepth 100000 in
theorem walk (a : Option Addr) (la ca : Nat) (L : List Sd) (v : Option Addr) (lv cv : Nat) (V : List Int) (w : World) (hs : SIn w a la L) (hca : la ≤ ca) (hcm : ca ≤ 9223372036854775807) (hv : IIn w v lv V) (hm : MaxAt w) :
    Calls Tryd.prog 4 #[.slice a la ca, .slice v lv cv] w fun e w' => e = .returned (.bool true) ∧ Below w.heap.size w w' := by
  have H := Lib.hid hs
  have HL := Lib.hid hs.leng
  have HV := Lib.hid hv
  have HVL := Lib.hid hv.leng
  have hvs := hv.small
  have HM := Lib.hid hm
  have HAw := Lib.hid (fun w1 => awake_calls w1)
  have HSm := Lib.hid (fun w1 (k : Below w.heap.size w w1) => small_calls a la ca L w1 (hs.below k))
  have HK0 := Lib.hid (Below.refl w.heap.size w)
  have HFit := Lib.hid hs.fits
  cases hS : smallL L
  · rw [hS] at HSm
    clear hS hs hv hm
    go_enter Tryd.func4, Tryd.ntmps4
    go_wp2_with fail
    refine (HSm.out _ HK0.out).mono ?_
    rintro e w1 ⟨rfl, k1⟩
    have HK1 := Lib.hid (HK0.out.trans (k1.mono HK0.out.size))
    clear k1
    go_wp2_with fail
    refine (HAw.out _).mono ?_
    rintro e w2 ⟨rfl, k2⟩
    go_wp2_with fail
    go_ret
    exact ⟨rfl, HK1.out.trans (k2.mono HK1.out.size)⟩
  rw [hS] at HSm
  by_cases h20 : 20 < lv
  · have t20 : decide ((20 : Int) < (lv : Int)) = true := decide_eq_true (by omega)
    clear hS hs hv hm
    go_enter Tryd.func4, Tryd.ntmps4
    go_wp2_with fail
    refine (HSm.out _ HK0.out).mono ?_
    rintro e w1 ⟨rfl, k1⟩
    have HK1 := Lib.hid (HK0.out.trans (k1.mono HK0.out.size))
    clear k1
    go_wp2_with fail
    refine (HAw.out _).mono ?_
    rintro e w2 ⟨rfl, k2⟩
    go_wp2_with fail
    go_ret
    exact ⟨rfl, HK1.out.trans (k2.mono HK1.out.size)⟩
  have t20 : decide ((20 : Int) < (lv : Int)) = false := decide_eq_false (by omega)
  obtain ⟨rL, lL⟩ := small_right hS
  have hla : la ≤ 8 := by rw [← HL.out]; exact lL
  have HR := Lib.hid rL
  have HKs := Lib.hid (keyS_of rL hs.fits)
  obtain ⟨i0, hi, hz0, hz1, hz2⟩ := info_parts infoS
  have HI := Lib.hid hi
  have HZ0 := Lib.hid hz0
  have HZ1 := Lib.hid hz1
  have HZ2 := Lib.hid hz2
  have HMx : Hid (∀ n, (bkeyL (L.take n)).length ≤ 65568) := Lib.hid (fun n => by
    have h1 := bkey_max (L := L.take n) (fun z hz => HKs.out z (List.mem_of_mem_take hz))
    have h2 : (L.take n).length ≤ 8 := by rw [List.length_take, hs.leng]; omega
    omega)
  clear hS hs hv hm rL lL hi hz0 hz1 hz2 h20
  go_enter Tryd.func4, Tryd.ntmps4
  go_wp2_with fail
  refine (HSm.out _ HK0.out).mono ?_
  rintro e w1 ⟨rfl, k1⟩
  have HK1 := Lib.hid (HK0.out.trans (k1.mono HK0.out.size))
  clear k1 HSm
  go_wp2_with fail
  go_loopw [5, 6, 7, 8] (fun (s5 s6 s7 i : Value) wr => ∃ (n : Nat) (wa : Option Addr) (wc : Nat) (ws : List Value), n ≤ la ∧ i = .int .i64 n ∧ s6 = .slice wa n wc ∧ n ≤ wc ∧ wc ≤ maxLen ∧ Hid (n = 0 → wa = none ∧ wc = 0) ∧ Hid (LIn wr wa n (outsL L n) ws) ∧ Hid (wr.ownsRow w.heap.size 36 5 s5 (keepV (L.take n) V).length (cellsS (keepV (L.take n) V))) ∧ Hid (wr.ownsRow w.heap.size 5 1 s7 (bkeyL (L.take n)).length (Lib.byteCells (bkeyL (L.take n)))) ∧ Hid (NotAt s5.ownBlock wa n ws) ∧ Hid (NotAt s7.ownBlock wa n ws) ∧ Hid (Below w.heap.size w wr)) (fun _ _ _ i _ => la - (intOf i).toNat)
  case atStart => exact ⟨0, none, 0, [], Nat.zero_le _, rfl, rfl, Nat.le_refl _, Nat.zero_le _, Lib.hid (fun _ => ⟨rfl, rfl⟩), Lib.hid LIn.none', Lib.hid (World.ownsRow_nil _ _ _ _), Lib.hid (World.ownsRow_nil _ _ _ _), Lib.hid (NotAt.of_none _ _ _), Lib.hid (NotAt.of_none _ _ _), HK1⟩
  case round =>
    obtain ⟨n, wa, wc, ws, hn, rfl, rfl, hWc, hwm, HNil, HW, HKe, HBy, HNK, HNB, HB⟩ := hrel
    obtain ⟨ka, kl, kc, rfl⟩ := own_slice3 HKe.out
    obtain ⟨ba, bl, bc, rfl⟩ := own_slice3 HBy.out
    by_cases h : n < la
    case neg =>
      obtain rfl : n = la := by omega
      have HT : Hid (L.take n = L) := Lib.hid (List.take_of_length_le (by rw [HL.out]; exact Nat.le_refl _))
      rw [HT.out] at HKe HBy
      have HCK := Lib.hid (fun w1 (k : Below w.heap.size w w1) => bKeep_calls a n ca L v lv cv V w1 (H.out.below k) (HV.out.below k) (by omega))
      have HCY := Lib.hid (fun w1 (k : Below w.heap.size w w1) => bKey_calls a n ca L w1 (H.out.below k) HKs.out (by omega) (HM.out.below k))
      have HCU := Lib.hid (fun w1 (k : Below w.heap.size w w1) => bUnder1_calls a n ca L w1 (H.out.below k) hla hca (by unfold maxLen; omega))
      have HFK : Hid (∀ z ∈ keepV L V, FitS z) := Lib.hid (fun z hz => HFit.out z (List.mem_filter.1 hz).1)
      generalize keepV L V = KK at HKe HCK HFK
      generalize hbl : bkeyL L = BB at HBy HCY
      generalize hst : (⟨BB.toArray⟩ : ByteArray) = st at HCY
      have HST := Lib.hid hst
      clear hbl hst
      go_wp2_with fail
      refine wp_region_held_drew (S := fun w9 => w9.ownsRow w.heap.size 5 1 (.slice ba bl bc) BB.length (Lib.byteCells BB)) (by kernel_rfl) HBy.out (fun hH0 => ?_)
      refine wpAnyH_take (i := 0) (v := .slice a n ca) rfl (by kernel_rfl) (by kernel_rfl) (by kernel_rfl) (fun _ _ _ h => h) (Or.inl ⟨by kernel_rfl, fun wS hSw => by (try dsimp only at hSw); go_simp⟩) hH0 ?_
      refine wpAnyH_take (i := 1) (v := .slice v lv cv) rfl (by kernel_rfl) (by kernel_rfl) (by kernel_rfl) (fun _ _ _ h => h) (Or.inl ⟨by kernel_rfl, fun wS hSw => by (try dsimp only at hSw); go_simp⟩) hH0 ?_
      refine wpAnyH_take (i := 3) (v := .slice ka kl kc) rfl (by kernel_rfl) (by kernel_rfl) (by kernel_rfl) (fun _ _ _ h => h) (Or.inl ⟨by kernel_rfl, fun wS hSw => by (try dsimp only at hSw); go_simp⟩) hH0 ?_
      refine wpAnyH_ready (rs := [2]) (by kernel_rfl) (by simp) ?_
      refine AllReadyH.cons rfl (fun K hK => ?_) AllReadyH.nil
      rw [if_pos (by kernel_rfl)]
      go_simp
      go_at_call 20
      refine (HCK.out _ HB.out.drew).mono ?_
      rintro e w2 ⟨o2, rfl, ho2, k2⟩
      obtain ⟨qa, qc, rfl, hq⟩ := own_sin ho2 HFK.out
      have HB2 := Lib.hid (HB.out.drew.trans (k2.mono HB.out.size))
      have hy2 := row_below hH0 k2
      obtain ⟨ka2, kc2, e2, hk2⟩ := own_sin (row_below (show wr.drew.ownsRow _ _ _ _ _ _ from HKe.out) k2) HFK.out
      cases e2
      have HW2 := Lib.hid ((HW.out.below (Below.refl _ _).drew).below k2)
      have HSK := Lib.hid (refSame_calls qa KK.length qc KK ka KK.length kc KK w2 hq hk2)
      rw [decide_eq_true (show KK = KK from rfl)] at HSK
      clear ho2 k2 hq hk2 hH0
      refine hK.out _ _ (hy2) (fun hH1 => ?_)
      clear hK K
      refine wpAnyH_ready (rs := [4]) (by kernel_rfl) (by simp) ?_
      refine AllReadyH.cons rfl (fun K hK => ?_) AllReadyH.nil
      rw [if_pos (by kernel_rfl)]
      go_simp
      go_at_call 13
      refine HSK.out.mono ?_
      rintro e w3 ⟨rfl, k3⟩
      have HB3 := Lib.hid (HB2.out.trans (k3.mono HB2.out.size))
      have hy3 := row_below hH1 k3
      have HW3 := Lib.hid (HW2.out.below k3)
      clear k3 HSK hH1 hy2
      refine hK.out _ _ (hy3) (fun hH2 => ?_)
      clear hK K
      refine wpAnyH_take (i := 5) (v := .bool true) rfl (by kernel_rfl) (by kernel_rfl) (by kernel_rfl) (fun _ _ _ h => h) (Or.inl ⟨by kernel_rfl, fun wS hSw => by (try dsimp only at hSw); go_simp⟩) hH2 ?_
      refine wpAnyH_take (i := 6) (v := .slice a n ca) rfl (by kernel_rfl) (by kernel_rfl) (by kernel_rfl) (fun _ _ _ h => h) (Or.inl ⟨by kernel_rfl, fun wS hSw => by (try dsimp only at hSw); go_simp⟩) hH2 ?_
      refine wpAnyH_take (i := 8) (v := .slice ba bl bc) rfl (by kernel_rfl) (by kernel_rfl) (by kernel_rfl) (fun _ _ _ h => h) (Or.inl ⟨by kernel_rfl, fun wS hSw => by (try dsimp only at hSw); go_simp⟩) hH2 ?_
      refine wpAnyH_take (i := 9) (v := .string st) rfl (by kernel_rfl) (by kernel_rfl) (by kernel_rfl) (fun _ _ _ h => h) (Or.inl ⟨by kernel_rfl, fun wS hSw => by (try dsimp only at hSw); (have hx := owned_text hSw; rw [HST.out] at hx; simp [execOp, Act.eval, Act.put, hx])⟩) hH2 ?_
      refine wpAnyH_ready (rs := [7]) (by kernel_rfl) (by simp) ?_
      refine AllReadyH.cons rfl (fun K hK => ?_) AllReadyH.nil
      rw [if_pos (by kernel_rfl)]
      go_simp
      go_at_call 16
      refine (HCY.out _ HB3.out).mono ?_
      rintro e w4 ⟨rfl, k4⟩
      have HB4 := Lib.hid (HB3.out.trans (k4.mono HB3.out.size))
      have hy4 := row_below hH2 k4
      have HW4 := Lib.hid (HW3.out.below k4)
      clear k4 hH2 hy3
      refine hK.out _ _ (hy4) (fun hH3 => ?_)
      clear hK K
      refine wpAnyH_take (i := 10) (v := .bool true) rfl (by kernel_rfl) (by kernel_rfl) (by kernel_rfl) (fun _ _ _ h => h) (Or.inl ⟨by kernel_rfl, fun wS hSw => by (try dsimp only at hSw); go_simp⟩) hH3 ?_
      refine wpAnyH_take (i := 11) (v := .bool true) rfl (by kernel_rfl) (by kernel_rfl) (by kernel_rfl) (fun _ _ _ h => h) (Or.inl ⟨by kernel_rfl, fun wS hSw => by (try dsimp only at hSw); go_simp⟩) hH3 ?_
      refine wpAnyH_take (i := 12) (v := .bool true) rfl (by kernel_rfl) (by kernel_rfl) (by kernel_rfl) (fun _ _ _ h => h) (Or.inl ⟨by kernel_rfl, fun wS hSw => by (try dsimp only at hSw); go_simp⟩) hH3 ?_
      refine wpAnyH_take (i := 13) (v := .slice a n ca) rfl (by kernel_rfl) (by kernel_rfl) (by kernel_rfl) (fun _ _ _ h => h) (Or.inl ⟨by kernel_rfl, fun wS hSw => by (try dsimp only at hSw); go_simp⟩) hH3 ?_
      refine wpAnyH_take (i := 15) (v := .slice wa n wc) rfl (by kernel_rfl) (by kernel_rfl) (by kernel_rfl) (fun _ _ _ h => h) (Or.inl ⟨by kernel_rfl, fun wS hSw => by (try dsimp only at hSw); go_simp⟩) hH3 ?_
      refine wpAnyH_ready (rs := [14]) (by kernel_rfl) (by simp) ?_
      refine AllReadyH.cons rfl (fun K hK => ?_) AllReadyH.nil
      rw [if_pos (by kernel_rfl)]
      go_simp
      go_at_call 22
      refine (HCU.out _ HB4.out).mono ?_
      rintro e w5 ⟨pa, pc, pv, rfl, hpc, hpm, hpl, k5⟩
      have HB5 := Lib.hid (HB4.out.trans (k5.mono HB4.out.size))
      have hy5 := row_below hH3 k5
      have HW5 := HW4.out.below k5
      have HSa := Lib.hid (same_calls pa (outsL L n).length pc (outsL L n) pv wa n wc (outsL L n) ws w5 hpl HW5)
      rw [decide_eq_true (show outsL L n = outsL L n from rfl)] at HSa
      clear k5 hH3 hy4 hpl HW5
      refine hK.out _ _ (hy5) (fun hH4 => ?_)
      clear hK K
      refine wpAnyH_ready (rs := [16]) (by kernel_rfl) (by simp) ?_
      refine AllReadyH.cons rfl (fun K hK => ?_) AllReadyH.nil
      rw [if_pos (by kernel_rfl)]
      go_simp
      go_at_call 21
      refine HSa.out.mono ?_
      rintro e w6 ⟨rfl, k6⟩
      have HB6 := Lib.hid (HB5.out.trans (k6.mono HB5.out.size))
      have hy6 := row_below hH4 k6
      clear k6 hH4 hy5
      refine hK.out _ _ (hy6) (fun hH5 => ?_)
      clear hK K
      refine wpAnyH_take (i := 17) (v := .bool true) rfl (by kernel_rfl) (by kernel_rfl) (by kernel_rfl) (fun _ _ _ h => h) (Or.inl ⟨by kernel_rfl, fun wS hSw => by (try dsimp only at hSw); go_simp⟩) hH5 ?_
      refine wpAnyH_take (i := 18) (v := .bool true) rfl (by kernel_rfl) (by kernel_rfl) (by kernel_rfl) (fun _ _ _ h => h) (Or.inl ⟨by kernel_rfl, fun wS hSw => by (try dsimp only at hSw); go_simp⟩) hH5 ?_
      refine wpAnyH_ready (rs := [19]) (by kernel_rfl) (by simp) ?_
      refine AllReadyH.cons rfl (fun K hK => ?_) AllReadyH.nil
      rw [if_pos (by kernel_rfl)]
      go_simp
      go_at_call 6
      refine (HAw.out _).mono ?_
      rintro e w7 ⟨rfl, k7⟩
      have HB7 := Lib.hid (HB6.out.trans (k7.mono HB6.out.size))
      have hy7 := row_below hH5 k7
      clear k7 hH5 hy6
      refine hK.out _ _ (hy7) (fun hH6 => ?_)
      clear hK K
      refine wpAnyH_take (i := 20) (v := .bool true) rfl (by kernel_rfl) (by kernel_rfl) (by kernel_rfl) (fun _ _ _ h => h) (Or.inl ⟨by kernel_rfl, fun wS hSw => by (try dsimp only at hSw); go_simp⟩) hH6 ?_
      refine wpAnyH_ready (rs := [21]) (by kernel_rfl) (by simp) ?_
      refine AllReadyH.cons rfl (fun K hK => ?_) AllReadyH.nil
      rw [if_pos (by kernel_rfl)]
      go_simp
      refine hK.out _ _ (hy7) (fun hH7 => ?_)
      clear hK K
      refine wpAnyH_done (by kernel_rfl) ?_ _
      go_wp2_with fail
      go_ret
      exact ⟨rfl, HB7.out⟩
    case pos =>
      obtain ⟨g, off, rfl, hg, hc0⟩ := H.out.at' (Below.refl _ w) h
      have HC0 := Lib.hid hc0
      have HS5 := Lib.hid (keepV_step (L := L) (V := V) (n := n) (by rw [HL.out]; exact h))
      have hml : (keepV (L.take n) V).length ≤ n := by have := keepV_len (L.take n) V; rw [List.length_take] at this; omega
      have HNx := Lib.hid (bkey_next L n (by rw [HL.out]; exact h))
      have hks := HKs.out _ (getD_mem (L := L) (n := n) (by rw [HL.out]; exact h))
      have hq1 := HMx.out n
      have hq2 := HMx.out (n + 1)
      generalize L.getD n default = z at HC0 hc0 HS5 HNx hks
      generalize hMM : keepV (L.take n) V = M at HKe HS5 hml
      clear hMM hc0
      obtain ⟨wo, hwo⟩ : ∃ wo, wo = wr := ⟨_, rfl⟩
      subst hwo
      go_wp2_with fail
      go_loopw [5, 9] (fun o k wq => ∃ (j : Nat), j ≤ lv ∧ k = .int .i64 j ∧ o = .slice ka kl kc ∧ Hid (z.x ∈ V ↔ z.x ∈ V.drop j) ∧ Hid (Below wo.heap.size wo wq)) (fun _ k _ => lv - (intOf k).toNat)
      case atStart => exact ⟨0, Nat.zero_le _, rfl, rfl, Lib.hid Iff.rfl, Lib.hid (Below.refl _ _)⟩
      case round =>
        obtain ⟨j, hj, rfl, rfl, HX, HBq⟩ := hrel
        have HBw := Lib.hid (HB.out.trans (HBq.out.mono HB.out.size))
        by_cases hjl : j < lv
        case neg =>
          obtain rfl : j = lv := by omega
          have HKT : Hid (wr.ownsRow w.heap.size 36 5 (.slice ka kl kc) (keepV (L.take (n + 1)) V).length (cellsS (keepV (L.take (n + 1)) V))) := Lib.hid (by
            rw [HS5.out, if_neg (by rw [HX.out, List.drop_eq_nil_iff.2 (by rw [HVL.out]; exact Nat.le_refl _)]; simp), List.append_nil]
            exact row_below HKe.out HBq.out)
          obtain ⟨wt, hwt⟩ : ∃ wt, wt = wr := ⟨_, rfl⟩
          subst hwt
          have HNKT := HNK
          have HWT := Lib.hid (HW.out.below HBq.out)
          have HYT := Lib.hid (row_below HBy.out HBq.out)
          clear HX HBq
          go_wp2_with fail
          have hsW := H.out.below HBw.out
          have HLo := Lib.hid (fun w1 (k : Below w.heap.size w w1) => sin_add ((H.out.below k).lo (k := n) (by omega)))
          have HHi := Lib.hid (fun w1 (k : Below w.heap.size w w1) => sin_hi (H.out.below k) (k := n + 1) (ca := ca) (by omega) hca)
          have r1 := run_lo g off la ca n (by omega) hca
          have r2 := run_hi g off la ca (n + 1) ((n : Int) + 1) (by omega) (by omega) hca
          have hwr : IntKind.i64.wrap ((n : Int) + 1) = (n : Int) + 1 := IntWalk.i64_in _ (by omega)
          have b0 : Below wt.heap.size wt wt.drew := (Below.refl _ _).drew
          have b1 : Below wt.heap.size wt (wt.drew.alloc (.cells #[] 36)) := b0.alloc (Nat.le_refl _) _
          have o1 := own_made0 wt.drew wt.heap.size (Nat.le_refl _)
          have HW1 : wt.drew.alloc (.cells #[] 36) = (wt.alloc (.cells #[] 36)).drew := rfl
          have hz1 : wt.heap.size < (wt.drew.alloc (.cells #[] 36)).heap.size := by simp
          rw [HW1] at b1 o1 hz1
          have HB1 := Lib.hid b1
          have HO1 := Lib.hid o1
          have HBw1 := Lib.hid (HBw.out.trans (b1.mono HBw.out.size))
          clear HW1 b0 b1 o1 hsW
          refine wp_region_held_drew (S := fun _ => True) (by kernel_rfl) trivial (fun hH0 => ?_)
          refine wpAnyH_take (i := 1) (v := .slice (some ⟨g, off, none⟩) la ca) rfl (by kernel_rfl) (by kernel_rfl) (by kernel_rfl) (fun _ _ _ h => h) (Or.inl ⟨by kernel_rfl, fun wS hSw => by (try dsimp only at hSw); go_simp⟩) hH0 ?_
          refine wpAnyH_take (i := 2) (v := .int .i64 (n : Int)) rfl (by kernel_rfl) (by kernel_rfl) (by kernel_rfl) (fun _ _ _ h => h) (Or.inl ⟨by kernel_rfl, fun wS hSw => by (try dsimp only at hSw); go_simp⟩) hH0 ?_
          refine wpAnyH_take (i := 3) (v := .slice (some ⟨g, off, none⟩) n ca) rfl (by kernel_rfl) (by kernel_rfl) (by kernel_rfl) (fun _ _ _ h => h) (Or.inl ⟨by kernel_rfl, fun wS hSw => by (try dsimp only at hSw); go_simp⟩) hH0 ?_
          refine wpAnyH_take (i := 5) (v := .slice (some ⟨g, off, none⟩) la ca) rfl (by kernel_rfl) (by kernel_rfl) (by kernel_rfl) (fun _ _ _ h => h) (Or.inl ⟨by kernel_rfl, fun wS hSw => by (try dsimp only at hSw); go_simp⟩) hH0 ?_
          refine wpAnyH_take (i := 6) (v := .int .i64 (n : Int)) rfl (by kernel_rfl) (by kernel_rfl) (by kernel_rfl) (fun _ _ _ h => h) (Or.inl ⟨by kernel_rfl, fun wS hSw => by (try dsimp only at hSw); go_simp⟩) hH0 ?_
          refine wpAnyH_take (i := 7) (v := .int .i64 ((n : Int) + 1)) rfl (by kernel_rfl) (by kernel_rfl) (by kernel_rfl) (fun _ _ _ h => h) (Or.inl ⟨by kernel_rfl, fun wS hSw => by (try dsimp only at hSw); go_simp⟩) hH0 ?_
          refine wpAnyH_take (i := 8) (v := .slice (some (hiAd g off ca (n + 1))) (la - (n + 1)) (ca - (n + 1))) rfl (by kernel_rfl) (by kernel_rfl) (by kernel_rfl) (fun _ _ _ h => h) (Or.inl ⟨by kernel_rfl, fun wS hSw => by (try dsimp only at hSw); go_simp⟩) hH0 ?_
          refine wpAnyH_ready (rs := [0]) (by kernel_rfl) (by simp) ?_
          refine AllReadyH.cons rfl (fun K hK => ?_) AllReadyH.nil
          rw [if_pos (by kernel_rfl)]
          go_simp
          generalize (wt.alloc (.cells #[] 36)).drew = w1 at *
          refine hK.out _ _ (trivial) (fun hH1 => ?_)
          clear hK K
          refine wpAnyH_ready (rs := [4]) (by kernel_rfl) (by simp) ?_
          refine AllReadyH.cons rfl (fun K hK => ?_) AllReadyH.nil
          rw [if_pos (by kernel_rfl)]
          refine wp_append_own w1 _ _ 22 rfl wt.heap.size 36 i0 _ 5 48 Tryd.underlying22 HI.out HZ0.out HZ1.out HZ2.out rfl (by decide) _ 0 [] rfl HO1.out ⟨g, off, none⟩ n ca (cellsS (L.take n)) rfl (by rw [cellsS_len, List.length_take, HL.out]; omega) (HLo.out _ HBw1.out) (cellsS_one _) (by unfold maxLen; omega) (by omega) (by omega) ?_
          intro v4 w4 ho4 hg4 _
          rw [Nat.zero_add, List.nil_append] at ho4
          have HB4 := Lib.hid (HB1.out.grown hg4 (by omega) (fun k hk => (HO1.out.lt k hk).1))
          have HBw4 := Lib.hid (HBw.out.trans (HB4.out.mono HBw.out.size))
          obtain ⟨a4, c4, rfl⟩ := own_slice ho4
          have HO4 := Lib.hid ho4
          have hz4 := HB4.out.size
          clear ho4 hg4 HO1 HB1 HBw1
          refine hK.out _ _ (trivial) (fun hH2 => ?_)
          clear hK K
          refine wpAnyH_ready (rs := [9]) (by kernel_rfl) (by simp) ?_
          refine AllReadyH.cons rfl (fun K hK => ?_) AllReadyH.nil
          rw [if_pos (by kernel_rfl)]
          refine wp_append_own w4 _ _ 22 rfl wt.heap.size 36 i0 _ 5 48 Tryd.underlying22 HI.out HZ0.out HZ1.out HZ2.out rfl (by decide) _ n (cellsS (L.take n)) rfl HO4.out (hiAd g off ca (n + 1)) (la - (n + 1)) (ca - (n + 1)) (cellsS (L.drop (n + 1))) rfl (by rw [cellsS_len, List.length_drop, HL.out]) (HHi.out _ HBw4.out) (cellsS_one _) (by unfold maxLen; omega) (by omega) (by omega) ?_
          intro v5 w5 ho5 hg5 _
          have ho5 := out_rows HL.out h ho5
          have HB5 := Lib.hid (HB4.out.grown hg5 (by omega) (fun k hk => (HO4.out.lt k hk).1))
          obtain ⟨a5, c5, rfl, hs5⟩ := own_sin ho5 (fun y hy => HFit.out y (List.mem_of_mem_eraseIdx hy))
          have HBw5 := Lib.hid (HBw.out.trans (HB5.out.mono HBw.out.size))
          have HA5 : Hid (0 < (outL L n).length → ∀ g off, a5 = some ⟨g, off, none⟩ → wt.heap.size ≤ g) := Lib.hid (fun _ g off e => by subst e; exact (ho5.lt g rfl).1)
          have HPu := Lib.hid (refPut_callsK wa n wc (outsL L n) ws a5 c5 (outL L n) w5 (HWT.out.below HB5.out) hs5 (outL_rv HR.out n) hWc hwm (by omega) HNil.out)
          rw [put_out HR.out (by rw [HL.out]; exact h)] at HPu
          have HY5 := Lib.hid (row_below HYT.out HB5.out)
          have HK5 := Lib.hid (row_below HKT.out HB5.out)
          clear ho5 hg5 HO4 HB4 HBw4 hs5 hH0 hH1 hH2
          generalize (outL L n).length = ol at *
          refine hK.out _ _ (trivial) (fun hH3 => ?_)
          clear hK K
          refine wpAnyH_ready (rs := [10]) (by kernel_rfl) (by simp) ?_
          refine AllReadyH.cons rfl (fun K hK => ?_) AllReadyH.nil
          rw [if_pos (by kernel_rfl)]
          go_simp
          refine hK.out _ _ (trivial) (fun hH4 => ?_)
          clear hK K
          refine wpAnyH_done (by kernel_rfl) ?_ _
          clear hH3 hH4 r1 r2 HLo HHi
          go_wp2_with fail
          refine HPu.out.mono ?_
          rintro e w6 ⟨pa, pc, pv, rfl, hpc, hpm, hpl, k6, hna⟩
          have HB6 := Lib.hid (HBw5.out.trans (k6.mono HBw5.out.size))
          have HY6 := Lib.hid (row_below HY5.out k6)
          have HK6 := Lib.hid (row_below HK5.out k6)
          rw [outs_len] at hpl hpc hna
          rw [outs_len]
          have HW6 := Lib.hid hpl
          have HNK6 := Lib.hid (NotAt.put HNKT.out HKT.out (row_lt HKT.out) HA5.out HB5.out.size hna)
          have HNB6 := Lib.hid (NotAt.put HNB.out HYT.out (row_lt HYT.out) HA5.out HB5.out.size hna)
          clear hna
          obtain ⟨c0, c1, c2, c3, c4⟩ := HC0.out.below HB6.out hg
          obtain ⟨q, hq⟩ : ∃ q, q = bkeyL (L.take n) := ⟨_, rfl⟩
          rw [← hq] at hq1 HNx HY6
          obtain ⟨r, hr⟩ : ∃ r, r = bkeyL (L.take (n + 1)) := ⟨_, rfl⟩
          rw [← hr] at hq2 HNx
          have HRr := Lib.hid hr
          have hwb := byte_of hks.1
          have hws : IntKind.i64.wrap (z.x + 16) = z.x + 16 := IntWalk.i64_in _ (by have := hks.1; omega)
          obtain ⟨cc, hcc⟩ : ∃ cc, cc = UInt8.ofNat (16 + z.x.toNat) := ⟨_, rfl⟩
          rw [← hcc] at HNx hwb
          have hkp := key_pos hks.2
          have H1 := Lib.hid (fun w1 => refKey_calls z.v w1 hks.2)
          obtain ⟨y, hy⟩ : ∃ y, y = keyV z.v := ⟨_, rfl⟩
          rw [← hy] at HNx hkp H1
          have hyl : q.length + 1 + y.length ≤ 65568 := by
            rw [HNx.out, List.length_append, List.length_cons] at hq2
            omega
          have HNy : Hid (r = (q ++ [cc]) ++ y) := Lib.hid (by rw [HNx.out]; simp)
          obtain ⟨q2, hq3⟩ : ∃ q2, q2 = q ++ [cc] := ⟨_, rfl⟩
          have HQ4 : Hid (q2.length = q.length + 1) := Lib.hid (by rw [hq3]; simp)
          have HQ2 := Lib.hid hq3
          rw [← hq3] at HNy
          have HNBy := Lib.hid (new_byte w6 (cc.toNat : Int) cc rfl w6.heap.size rfl)
          have HY7 := Lib.hid (HY6.out.alloc (.cells #[.int .u8 (cc.toNat : Int)] 5))
          have HB7 := Lib.hid (HB6.out.alloc HB6.out.size (.cells #[.int .u8 (cc.toNat : Int)] 5))
          have HK7 := Lib.hid (HK6.out.alloc (.cells #[.int .u8 (cc.toNat : Int)] 5))
          have HW7 := Lib.hid (HW6.out.below ((Below.refl w6.heap.size w6).alloc (Nat.le_refl _) (.cells #[.int .u8 (cc.toNat : Int)] 5)))
          clear k6 hpl HPu hq hr hcc hy hq3 hks
          go_wp2_with (at_builtin; refine wpList_append_bytesK rfl _ _ rfl w.heap.size _ q rfl HY7.out ⟨w6.heap.size, 0, none⟩ 1 1 [cc] rfl rfl HNBy.out (by omega) HB7.out.size q2 HQ2.out ?_)
          intro v8 w8 HY8 HG8 HD8
          obtain ⟨b8, l8, c8, rfl⟩ := own_slice3 HY8.out
          have HW8 := Lib.hid (HW7.out.grown HG8.out HNB6.out)
          have HNB8 := Lib.hid (NotAt.next (v' := .slice b8 l8 c8) HNB6.out HW7.out (by rw [World.size_alloc]; exact HD8.out))
          have HK8 := Lib.hid (rows_apart HK7.out HY7.out (by decide) HG8.out)
          have HB8 := Lib.hid (HB7.out.grown HG8.out HB7.out.size (fun k hk => (HY7.out.lt k hk).1))
          clear c0 c1 c2 c3 c4
          obtain ⟨c0, c1, c2, c3, c4⟩ := HC0.out.below HB8.out hg
          clear HG8 HD8 HW7 HK7 HY7 HB7 HNBy
          go_wp2_with fail
          refine (H1.out _).mono ?_
          rintro e w9 ⟨o9, rfl, ho9, k9⟩
          obtain ⟨g9, cap9, rfl⟩ := owned_at ho9 (by omega)
          have HC9 := Lib.hid (owned_cells ho9 rfl)
          have HW9 := Lib.hid (HW8.out.below k9)
          have HK9 := Lib.hid (row_below HK8.out k9)
          have HY9 := Lib.hid (row_below HY8.out k9)
          have HB9 := Lib.hid (HB8.out.trans (k9.mono HB8.out.size))
          clear c0 c1 c2 c3 c4 k9 ho9 H1
          go_wp2_with (at_builtin; refine wpList_append_bytesK rfl _ _ rfl w.heap.size _ q2 rfl HY9.out ⟨g9, 0, none⟩ y.length cap9 y rfl rfl HC9.out (by have := HQ4.out; omega) HB9.out.size r HNy.out ?_)
          intro v10 w10 HY10 HG10 HD10
          have HW10 := Lib.hid (HW9.out.grown HG10.out HNB8.out)
          have HNB10 := Lib.hid (NotAt.next HNB8.out HW9.out HD10.out)
          have HK10 := Lib.hid (rows_apart HK9.out HY9.out (by decide) HG10.out)
          have HB10 := Lib.hid (HB9.out.grown HG10.out HB9.out.size (fun k hk => (HY9.out.lt k hk).1))
          rw [HRr.out] at HY10
          clear HG10 HD10
          go_wp2_with fail
          go_roundw
          case rel => exact ⟨n + 1, pa, pc, pv, by omega, by go_num, rfl, hpc, hpm, Lib.hid (fun h => by omega), HW10, HK10, HY10, HNK6, HNB10, HB10⟩
          case measure => simp [intOf]; omega
        case pos =>
          obtain ⟨gv, ov, rfl, hgv, hrv⟩ := HV.out.row (by omega)
          have hcj := (HBw.out.cell (p := ⟨gv, ov + j, none⟩) hgv).trans (hrv j hjl)
          clear hrv
          obtain ⟨c0, c1, c2, c3, c4⟩ := HC0.out.below HBw.out hg
          by_cases e : V.getD j 0 = z.x
          case neg =>
            have HX2 := Lib.hid (mem_drop_no (by rw [HVL.out]; exact hjl) e HX.out)
            have t0 : (V.getD j 0 == z.x) = false := beq_eq_false_iff_ne.2 e
            generalize V.getD j 0 = y at hcj t0
            clear e
            go_wp2_with fail
            go_quiet (fail)
            go_wp2_with fail
            go_roundw
            case rel => exact ⟨j + 1, by omega, by go_num, rfl, HX2, Lib.hid (below_drewN _ HBq.out)⟩
            case measure => simp [intOf]; omega
          case pos =>
            have HXY := Lib.hid (mem_drop_yes (by rw [HVL.out]; exact hjl) e)
            rw [e] at hcj
            have t0 : (z.x == z.x) = true := by simp
            clear e
            go_wp2_with fail
            go_quiet (fail)
            have HBqx := Lib.hid (below_drewN nq HBq.out)
            have HBx := Lib.hid (below_drewN nq HBw.out)
            generalize wr.drewN nq = wx at HBqx HBx ⊢
            have HKx := Lib.hid (row_below HKe.out HBqx.out)
            have HWx := Lib.hid (HW.out.below HBqx.out)
            have HYx := Lib.hid (row_below HBy.out HBqx.out)
            clear c0 c1 c2 c3 c4 hcj
            obtain ⟨c0, c1, c2, c3, c4⟩ := HC0.out.below HBx.out hg
            have HKa := Lib.hid (HKx.out.alloc (.cells #[.int .i64 z.x, .int .i64 z.v.k, .int .i64 z.v.i, .string z.v.s, .bool z.v.b] 36))
            have HYa := Lib.hid (HYx.out.alloc (.cells #[.int .i64 z.x, .int .i64 z.v.k, .int .i64 z.v.i, .string z.v.s, .bool z.v.b] 36))
            have HWa := Lib.hid (HWx.out.below ((Below.refl wx.heap.size wx).alloc (Nat.le_refl _) (.cells #[.int .i64 z.x, .int .i64 z.v.k, .int .i64 z.v.i, .string z.v.s, .bool z.v.b] 36)))
            have HBa := Lib.hid (HBx.out.alloc HBx.out.size (.cells #[.int .i64 z.x, .int .i64 z.v.k, .int .i64 z.v.i, .string z.v.s, .bool z.v.b] 36))
            go_wp2_with (at_builtin; refine wpList_append_own_at _ rfl _ _ 22 rfl w.heap.size 36 i0 _ 5 48 Tryd.underlying22 HI.out HZ0.out HZ1.out HZ2.out rfl (by decide) _ _ _ rfl HKa.out ⟨wx.heap.size, 0, none⟩ 1 1 (encS z) rfl rfl (new_enc wx z 36) (encS_one z) (by unfold maxLen; omega) (by omega) HBa.out.size ?_; intro v4 w4 ho4 hg4 _ hd4)
            have HWT := Lib.hid (HWa.out.grown hg4 HNK.out)
            have HNKT := Lib.hid (NotAt.next HNK.out HWa.out hd4)
            have HYT := Lib.hid (rows_apart HYa.out HKa.out (by decide) hg4)
            have HBw2 := Lib.hid (HBa.out.grown hg4 HBa.out.size (fun k hk => (HKa.out.lt k hk).1))
            have HKT : Hid (w4.ownsRow w.heap.size 36 5 v4 (keepV (L.take (n + 1)) V).length (cellsS (keepV (L.take (n + 1)) V))) := Lib.hid (by rw [HS5.out, if_pos HXY.out, List.length_append, cellsS_app]; simpa [cellsS] using ho4)
            obtain ⟨ka2, kl2, kc2, rfl⟩ := own_slice3 ho4
            clear HBw HBq HBqx HBx HKx HWx HYx HKa HYa HWa HBa ho4 hg4 hd4 c0 c1 c2 c3 c4 HX HXY
            have HBw := HBw2
            clear HBw2
            obtain ⟨wt, hwt⟩ : ∃ wt, wt = w4 := ⟨_, rfl⟩
            subst hwt
            go_wp2_with fail
            have hsW := H.out.below HBw.out
            have HLo := Lib.hid (fun w1 (k : Below w.heap.size w w1) => sin_add ((H.out.below k).lo (k := n) (by omega)))
            have HHi := Lib.hid (fun w1 (k : Below w.heap.size w w1) => sin_hi (H.out.below k) (k := n + 1) (ca := ca) (by omega) hca)
            have r1 := run_lo g off la ca n (by omega) hca
            have r2 := run_hi g off la ca (n + 1) ((n : Int) + 1) (by omega) (by omega) hca
            have hwr : IntKind.i64.wrap ((n : Int) + 1) = (n : Int) + 1 := IntWalk.i64_in _ (by omega)
            have b0 : Below wt.heap.size wt wt.drew := (Below.refl _ _).drew
            have b1 : Below wt.heap.size wt (wt.drew.alloc (.cells #[] 36)) := b0.alloc (Nat.le_refl _) _
            have o1 := own_made0 wt.drew wt.heap.size (Nat.le_refl _)
            have HW1 : wt.drew.alloc (.cells #[] 36) = (wt.alloc (.cells #[] 36)).drew := rfl
            have hz1 : wt.heap.size < (wt.drew.alloc (.cells #[] 36)).heap.size := by simp
            rw [HW1] at b1 o1 hz1
            have HB1 := Lib.hid b1
            have HO1 := Lib.hid o1
            have HBw1 := Lib.hid (HBw.out.trans (b1.mono HBw.out.size))
            clear HW1 b0 b1 o1 hsW
            refine wp_region_held_drew (S := fun _ => True) (by kernel_rfl) trivial (fun hH0 => ?_)
            refine wpAnyH_take (i := 1) (v := .slice (some ⟨g, off, none⟩) la ca) rfl (by kernel_rfl) (by kernel_rfl) (by kernel_rfl) (fun _ _ _ h => h) (Or.inl ⟨by kernel_rfl, fun wS hSw => by (try dsimp only at hSw); go_simp⟩) hH0 ?_
            refine wpAnyH_take (i := 2) (v := .int .i64 (n : Int)) rfl (by kernel_rfl) (by kernel_rfl) (by kernel_rfl) (fun _ _ _ h => h) (Or.inl ⟨by kernel_rfl, fun wS hSw => by (try dsimp only at hSw); go_simp⟩) hH0 ?_
            refine wpAnyH_take (i := 3) (v := .slice (some ⟨g, off, none⟩) n ca) rfl (by kernel_rfl) (by kernel_rfl) (by kernel_rfl) (fun _ _ _ h => h) (Or.inl ⟨by kernel_rfl, fun wS hSw => by (try dsimp only at hSw); go_simp⟩) hH0 ?_
            refine wpAnyH_take (i := 5) (v := .slice (some ⟨g, off, none⟩) la ca) rfl (by kernel_rfl) (by kernel_rfl) (by kernel_rfl) (fun _ _ _ h => h) (Or.inl ⟨by kernel_rfl, fun wS hSw => by (try dsimp only at hSw); go_simp⟩) hH0 ?_
            refine wpAnyH_take (i := 6) (v := .int .i64 (n : Int)) rfl (by kernel_rfl) (by kernel_rfl) (by kernel_rfl) (fun _ _ _ h => h) (Or.inl ⟨by kernel_rfl, fun wS hSw => by (try dsimp only at hSw); go_simp⟩) hH0 ?_
            refine wpAnyH_take (i := 7) (v := .int .i64 ((n : Int) + 1)) rfl (by kernel_rfl) (by kernel_rfl) (by kernel_rfl) (fun _ _ _ h => h) (Or.inl ⟨by kernel_rfl, fun wS hSw => by (try dsimp only at hSw); go_simp⟩) hH0 ?_
            refine wpAnyH_take (i := 8) (v := .slice (some (hiAd g off ca (n + 1))) (la - (n + 1)) (ca - (n + 1))) rfl (by kernel_rfl) (by kernel_rfl) (by kernel_rfl) (fun _ _ _ h => h) (Or.inl ⟨by kernel_rfl, fun wS hSw => by (try dsimp only at hSw); go_simp⟩) hH0 ?_
            refine wpAnyH_ready (rs := [0]) (by kernel_rfl) (by simp) ?_
            refine AllReadyH.cons rfl (fun K hK => ?_) AllReadyH.nil
            rw [if_pos (by kernel_rfl)]
            go_simp
            generalize (wt.alloc (.cells #[] 36)).drew = w1 at *
            refine hK.out _ _ (trivial) (fun hH1 => ?_)
            clear hK K
            refine wpAnyH_ready (rs := [4]) (by kernel_rfl) (by simp) ?_
            refine AllReadyH.cons rfl (fun K hK => ?_) AllReadyH.nil
            rw [if_pos (by kernel_rfl)]
            refine wp_append_own w1 _ _ 22 rfl wt.heap.size 36 i0 _ 5 48 Tryd.underlying22 HI.out HZ0.out HZ1.out HZ2.out rfl (by decide) _ 0 [] rfl HO1.out ⟨g, off, none⟩ n ca (cellsS (L.take n)) rfl (by rw [cellsS_len, List.length_take, HL.out]; omega) (HLo.out _ HBw1.out) (cellsS_one _) (by unfold maxLen; omega) (by omega) (by omega) ?_
            intro v4 w4 ho4 hg4 _
            rw [Nat.zero_add, List.nil_append] at ho4
            have HB4 := Lib.hid (HB1.out.grown hg4 (by omega) (fun k hk => (HO1.out.lt k hk).1))
            have HBw4 := Lib.hid (HBw.out.trans (HB4.out.mono HBw.out.size))
            obtain ⟨a4, c4, rfl⟩ := own_slice ho4
            have HO4 := Lib.hid ho4
            have hz4 := HB4.out.size
            clear ho4 hg4 HO1 HB1 HBw1
            refine hK.out _ _ (trivial) (fun hH2 => ?_)
            clear hK K
            refine wpAnyH_ready (rs := [9]) (by kernel_rfl) (by simp) ?_
            refine AllReadyH.cons rfl (fun K hK => ?_) AllReadyH.nil
            rw [if_pos (by kernel_rfl)]
            refine wp_append_own w4 _ _ 22 rfl wt.heap.size 36 i0 _ 5 48 Tryd.underlying22 HI.out HZ0.out HZ1.out HZ2.out rfl (by decide) _ n (cellsS (L.take n)) rfl HO4.out (hiAd g off ca (n + 1)) (la - (n + 1)) (ca - (n + 1)) (cellsS (L.drop (n + 1))) rfl (by rw [cellsS_len, List.length_drop, HL.out]) (HHi.out _ HBw4.out) (cellsS_one _) (by unfold maxLen; omega) (by omega) (by omega) ?_
            intro v5 w5 ho5 hg5 _
            have ho5 := out_rows HL.out h ho5
            have HB5 := Lib.hid (HB4.out.grown hg5 (by omega) (fun k hk => (HO4.out.lt k hk).1))
            obtain ⟨a5, c5, rfl, hs5⟩ := own_sin ho5 (fun y hy => HFit.out y (List.mem_of_mem_eraseIdx hy))
            have HBw5 := Lib.hid (HBw.out.trans (HB5.out.mono HBw.out.size))
            have HA5 : Hid (0 < (outL L n).length → ∀ g off, a5 = some ⟨g, off, none⟩ → wt.heap.size ≤ g) := Lib.hid (fun _ g off e => by subst e; exact (ho5.lt g rfl).1)
            have HPu := Lib.hid (refPut_callsK wa n wc (outsL L n) ws a5 c5 (outL L n) w5 (HWT.out.below HB5.out) hs5 (outL_rv HR.out n) hWc hwm (by omega) HNil.out)
            rw [put_out HR.out (by rw [HL.out]; exact h)] at HPu
            have HY5 := Lib.hid (row_below HYT.out HB5.out)
            have HK5 := Lib.hid (row_below HKT.out HB5.out)
            clear ho5 hg5 HO4 HB4 HBw4 hs5 hH0 hH1 hH2
            generalize (outL L n).length = ol at *
            refine hK.out _ _ (trivial) (fun hH3 => ?_)
            clear hK K
            refine wpAnyH_ready (rs := [10]) (by kernel_rfl) (by simp) ?_
            refine AllReadyH.cons rfl (fun K hK => ?_) AllReadyH.nil
            rw [if_pos (by kernel_rfl)]
            go_simp
            refine hK.out _ _ (trivial) (fun hH4 => ?_)
            clear hK K
            refine wpAnyH_done (by kernel_rfl) ?_ _
            clear hH3 hH4 r1 r2 HLo HHi
            go_wp2_with fail
            refine HPu.out.mono ?_
            rintro e w6 ⟨pa, pc, pv, rfl, hpc, hpm, hpl, k6, hna⟩
            have HB6 := Lib.hid (HBw5.out.trans (k6.mono HBw5.out.size))
            have HY6 := Lib.hid (row_below HY5.out k6)
            have HK6 := Lib.hid (row_below HK5.out k6)
            rw [outs_len] at hpl hpc hna
            rw [outs_len]
            have HW6 := Lib.hid hpl
            have HNK6 := Lib.hid (NotAt.put HNKT.out HKT.out (row_lt HKT.out) HA5.out HB5.out.size hna)
            have HNB6 := Lib.hid (NotAt.put HNB.out HYT.out (row_lt HYT.out) HA5.out HB5.out.size hna)
            clear hna
            obtain ⟨c0, c1, c2, c3, c4⟩ := HC0.out.below HB6.out hg
            obtain ⟨q, hq⟩ : ∃ q, q = bkeyL (L.take n) := ⟨_, rfl⟩
            rw [← hq] at hq1 HNx HY6
            obtain ⟨r, hr⟩ : ∃ r, r = bkeyL (L.take (n + 1)) := ⟨_, rfl⟩
            rw [← hr] at hq2 HNx
            have HRr := Lib.hid hr
            have hwb := byte_of hks.1
            have hws : IntKind.i64.wrap (z.x + 16) = z.x + 16 := IntWalk.i64_in _ (by have := hks.1; omega)
            obtain ⟨cc, hcc⟩ : ∃ cc, cc = UInt8.ofNat (16 + z.x.toNat) := ⟨_, rfl⟩
            rw [← hcc] at HNx hwb
            have hkp := key_pos hks.2
            have H1 := Lib.hid (fun w1 => refKey_calls z.v w1 hks.2)
            obtain ⟨y, hy⟩ : ∃ y, y = keyV z.v := ⟨_, rfl⟩
            rw [← hy] at HNx hkp H1
            have hyl : q.length + 1 + y.length ≤ 65568 := by
              rw [HNx.out, List.length_append, List.length_cons] at hq2
              omega
            have HNy : Hid (r = (q ++ [cc]) ++ y) := Lib.hid (by rw [HNx.out]; simp)
            obtain ⟨q2, hq3⟩ : ∃ q2, q2 = q ++ [cc] := ⟨_, rfl⟩
            have HQ4 : Hid (q2.length = q.length + 1) := Lib.hid (by rw [hq3]; simp)
            have HQ2 := Lib.hid hq3
            rw [← hq3] at HNy
            have HNBy := Lib.hid (new_byte w6 (cc.toNat : Int) cc rfl w6.heap.size rfl)
            have HY7 := Lib.hid (HY6.out.alloc (.cells #[.int .u8 (cc.toNat : Int)] 5))
            have HB7 := Lib.hid (HB6.out.alloc HB6.out.size (.cells #[.int .u8 (cc.toNat : Int)] 5))
            have HK7 := Lib.hid (HK6.out.alloc (.cells #[.int .u8 (cc.toNat : Int)] 5))
            have HW7 := Lib.hid (HW6.out.below ((Below.refl w6.heap.size w6).alloc (Nat.le_refl _) (.cells #[.int .u8 (cc.toNat : Int)] 5)))
            clear k6 hpl HPu hq hr hcc hy hq3 hks
            go_wp2_with (at_builtin; refine wpList_append_bytesK rfl _ _ rfl w.heap.size _ q rfl HY7.out ⟨w6.heap.size, 0, none⟩ 1 1 [cc] rfl rfl HNBy.out (by omega) HB7.out.size q2 HQ2.out ?_)
            intro v8 w8 HY8 HG8 HD8
            obtain ⟨b8, l8, c8, rfl⟩ := own_slice3 HY8.out
            have HW8 := Lib.hid (HW7.out.grown HG8.out HNB6.out)
            have HNB8 := Lib.hid (NotAt.next (v' := .slice b8 l8 c8) HNB6.out HW7.out (by rw [World.size_alloc]; exact HD8.out))
            have HK8 := Lib.hid (rows_apart HK7.out HY7.out (by decide) HG8.out)
            have HB8 := Lib.hid (HB7.out.grown HG8.out HB7.out.size (fun k hk => (HY7.out.lt k hk).1))
            clear c0 c1 c2 c3 c4
            obtain ⟨c0, c1, c2, c3, c4⟩ := HC0.out.below HB8.out hg
            clear HG8 HD8 HW7 HK7 HY7 HB7 HNBy
            go_wp2_with fail
            refine (H1.out _).mono ?_
            rintro e w9 ⟨o9, rfl, ho9, k9⟩
            obtain ⟨g9, cap9, rfl⟩ := owned_at ho9 (by omega)
            have HC9 := Lib.hid (owned_cells ho9 rfl)
            have HW9 := Lib.hid (HW8.out.below k9)
            have HK9 := Lib.hid (row_below HK8.out k9)
            have HY9 := Lib.hid (row_below HY8.out k9)
            have HB9 := Lib.hid (HB8.out.trans (k9.mono HB8.out.size))
            clear c0 c1 c2 c3 c4 k9 ho9 H1
            go_wp2_with (at_builtin; refine wpList_append_bytesK rfl _ _ rfl w.heap.size _ q2 rfl HY9.out ⟨g9, 0, none⟩ y.length cap9 y rfl rfl HC9.out (by have := HQ4.out; omega) HB9.out.size r HNy.out ?_)
            intro v10 w10 HY10 HG10 HD10
            have HW10 := Lib.hid (HW9.out.grown HG10.out HNB8.out)
            have HNB10 := Lib.hid (NotAt.next HNB8.out HW9.out HD10.out)
            have HK10 := Lib.hid (rows_apart HK9.out HY9.out (by decide) HG10.out)
            have HB10 := Lib.hid (HB9.out.grown HG10.out HB9.out.size (fun k hk => (HY9.out.lt k hk).1))
            rw [HRr.out] at HY10
            clear HG10 HD10
            go_wp2_with fail
            go_roundw
            case rel => exact ⟨n + 1, pa, pc, pv, by omega, by go_num, rfl, hpc, hpm, Lib.hid (fun h => by omega), HW10, HK10, HY10, HNK6, HNB10, HB10⟩
            case measure => simp [intOf]; omega
end Go.Proofs.YtjohiehlnbgdaaaDoor.bindingParts
