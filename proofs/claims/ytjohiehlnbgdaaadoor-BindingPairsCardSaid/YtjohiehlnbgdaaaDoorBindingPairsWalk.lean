/- The walk of the law BindingPairs: with any two lists of slots it answers true. -/
import Derived.Test.YtjohiehlnbgdaaaDoorBindPairsMath
import Derived.Test.YtjohiehlnbgdaaaDoorBindAwake
import Derived.Test.YtjohiehlnbgdaaaDoorSlotFits
import Derived.Test.YtjohiehlnbgdaaaDoorSlotSame
import Derived.Test.YtjohiehlnbgdaaaDoorSlotRefUnion
namespace Go.Proofs.YtjohiehlnbgdaaaDoor.bindingPairs
open Go.RowKit
set_option linter.unusedVariables false

set_option maxHeartbeats 400000 in
theorem bLess_calls (a b : Option Addr) (la ca lb cb : Nat) (A B : List Sd) (w : World) (hsA : SIn w a la A) (hsB : SIn w b lb B) :
    Calls Tryd.prog 14 #[.slice a la ca, .slice b lb cb] w fun e w' => e = .returned (.bool (decide (cmpL A B < 0))) ∧ Below w.heap.size w w' := by
  have HC := Lib.hid (compare_calls a b la ca lb cb A B w hsA hsB)
  clear hsA hsB
  generalize cmpL A B = r at HC
  go_enter Tryd.func14, Tryd.ntmps14
  go_wp2_with fail
  refine HC.out.mono ?_
  rintro e w1 ⟨rfl, k1⟩
  go_wp2_with fail
  go_ret
  exact ⟨rfl, k1.below⟩

set_option maxHeartbeats 8000000 in
set_option maxRecDepth 100000 in
theorem walk (a : Option Addr) (la ca : Nat) (A : List Sd) (b : Option Addr) (lb cb : Nat) (B : List Sd) (w : World) (hsA : SIn w a la A) (hsB : SIn w b lb B) (hm : MaxAt w) :
    Calls Tryd.prog 3 #[.slice a la ca, .slice b lb cb] w fun e w' => e = .returned (.bool true) ∧ Below w.heap.size w w' := by
  have HAw := Lib.hid (fun w1 => awake_calls w1)
  have HS1 := Lib.hid (fun w1 (k : Below w.heap.size w w1) => small_calls a la ca A w1 (hsA.below k))
  have HS2 := Lib.hid (fun w1 (k : Below w.heap.size w w1) => small_calls b lb cb B w1 (hsB.below k))
  have HK0 := Lib.hid (Below.refl w.heap.size w)
  cases hA : smallL A
  · rw [hA] at HS1
    clear hsA hsB hm hA HS2
    go_enter Tryd.func3, Tryd.ntmps3
    go_wp2_with fail
    refine (HS1.out _ HK0.out).mono ?_
    rintro e w1 ⟨rfl, k1⟩
    have HK1 := Lib.hid (HK0.out.trans (k1.mono HK0.out.size))
    clear k1
    go_wp2_with fail
    refine (HAw.out _).mono ?_
    rintro e w2 ⟨rfl, k2⟩
    go_wp2_with fail
    go_ret
    exact ⟨rfl, HK1.out.trans (k2.mono HK1.out.size)⟩
  rw [hA] at HS1
  cases hB : smallL B
  · rw [hB] at HS2
    clear hsA hsB hm hA hB
    go_enter Tryd.func3, Tryd.ntmps3
    go_wp2_with fail
    refine (HS1.out _ HK0.out).mono ?_
    rintro e w1 ⟨rfl, k1⟩
    have HK1 := Lib.hid (HK0.out.trans (k1.mono HK0.out.size))
    clear k1
    go_wp2_with fail
    refine (HS2.out _ HK1.out).mono ?_
    rintro e w2 ⟨rfl, k2⟩
    have HK2 := Lib.hid (HK1.out.trans (k2.mono HK1.out.size))
    clear k2
    go_wp2_with fail
    refine (HAw.out _).mono ?_
    rintro e w3 ⟨rfl, k3⟩
    go_wp2_with fail
    go_ret
    exact ⟨rfl, HK2.out.trans (k3.mono HK2.out.size)⟩
  rw [hB] at HS2
  obtain ⟨rA, lA⟩ := small_right hA
  obtain ⟨rB, lB⟩ := small_right hB
  have vA : ∀ z ∈ A, rV z.v = true := fun z hz => (rf_mem rA z hz).2.2
  have vB : ∀ z ∈ B, rV z.v = true := fun z hz => (rf_mem rB z hz).2.2
  have kA := keyS_of rA hsA.fits
  have kB := keyS_of rB hsB.fits
  have HRF := Lib.hid (fun w1 (k : Below w.heap.size w w1) => refFits_calls a b la ca lb cb A B w1 (hsA.below k) (hsB.below k))
  rw [← fits_ref rA rB] at HRF
  have HU := Lib.hid (fun w1 (k : Below w.heap.size w w1) => bUnion_calls a b la ca lb cb A B w1 (hsA.below k) (hsB.below k) (by rw [← hsA.leng]; omega) (by rw [← hsB.leng]; omega))
  have HUn := Lib.hid (fun w1 (k : Below w.heap.size w w1) => bUnder_calls a b la ca lb cb A B w1 (hsA.below k) (hsB.below k))
  rw [under_ref rB] at HUn
  have HRU := Lib.hid (fun w1 (k : Below w.heap.size w w1) => refUnder_calls a b la ca lb cb A B w1 (hsA.below k) (hsB.below k))
  have HFi := Lib.hid (fun w1 (k : Below w.heap.size w w1) => bFits_calls a b la ca lb cb A B w1 (hsA.below k) (hsB.below k))
  have HSa := Lib.hid (fun w1 (k : Below w.heap.size w w1) => bSame_calls a la ca A b lb cb B w1 (hsA.below k) (hsB.below k))
  have HRS := Lib.hid (fun w1 (k : Below w.heap.size w w1) => refSame_calls a la ca A b lb cb B w1 (hsA.below k) (hsB.below k))
  have HLe := Lib.hid (fun w1 (k : Below w.heap.size w w1) => bLess_calls a b la ca lb cb A B w1 (hsA.below k) (hsB.below k))
  rw [less_ref vA vB] at HLe
  have HRL := Lib.hid (fun w1 (k : Below w.heap.size w w1) => refLess_calls a b la ca lb cb A B w1 (hsA.below k) (hsB.below k) vA)
  have HKa := Lib.hid (fun w1 (k : Below w.heap.size w w1) => bKey_calls a la ca A w1 (hsA.below k) kA (by rw [← hsA.leng]; omega) (hm.below k))
  have HKb := Lib.hid (fun w1 (k : Below w.heap.size w w1) => bKey_calls b lb cb B w1 (hsB.below k) kB (by rw [← hsB.leng]; omega) (hm.below k))
  have HRUn := Lib.hid (fun w1 (k : Below w.heap.size w w1) => refUnion_calls a b la ca lb cb A B w1 (hsA.below k) (hsB.below k))
  have HSA := Lib.hid hsA
  have HSB := Lib.hid hsB
  have tk := key_eq kA kB
  generalize (⟨(bkeyL A).toArray⟩ : ByteArray) = s1 at HKa tk
  generalize (⟨(bkeyL B).toArray⟩ : ByteArray) = s2 at HKb tk
  generalize decide (A = B) = sm at HSa HRS tk
  generalize refUnderL A B = ru at HUn HRU
  generalize refLessL A B = rl at HLe HRL
  have t1 : (ru != ru) = false := by simp
  have t2 : (rl != rl) = false := by simp
  have t3 : (sm != sm) = false := by simp
  have HRA := Lib.hid rA
  have HRB := Lib.hid rB
  cases hf : fitAll A B
  · rw [hf] at HRF HU HFi
    have HUN : Hid (uniL A B = []) := Lib.hid (by rw [uniL, if_neg (by rw [hf]; simp)])
    rw [HUN.out] at HU
    clear hsA hsB hm hA hB rA rB vA vB kA kB hf lA lB
    go_enter Tryd.func3, Tryd.ntmps3
    go_wp2_with fail
    refine (HS1.out _ HK0.out).mono ?_
    rintro e w1 ⟨rfl, k⟩
    have HK1 := Lib.hid (HK0.out.trans (k.mono HK0.out.size))
    clear k
    go_wp2_with fail
    refine (HS2.out _ HK1.out).mono ?_
    rintro e w2 ⟨rfl, k⟩
    have HK2 := Lib.hid (HK1.out.trans (k.mono HK1.out.size))
    clear k
    go_wp2_with fail
    refine (HRF.out _ HK2.out).mono ?_
    rintro e w3 ⟨rfl, k⟩
    have HK3 := Lib.hid (HK2.out.trans (k.mono HK2.out.size))
    clear k
    go_wp2_with fail
    refine (HU.out _ HK3.out).mono ?_
    rintro e w4 ⟨o, rfl, ho, k4⟩
    have HK4 := Lib.hid (HK3.out.trans (k4.mono HK3.out.size))
    obtain ⟨ua, uc, rfl⟩ := own_slice ho
    clear ho k4
    simp only [List.length_nil]
    go_wp2_with fail
    refine (HUn.out _ HK4.out).mono ?_
    rintro e w5 ⟨rfl, k⟩
    have HK5 := Lib.hid (HK4.out.trans (k.mono HK4.out.size))
    clear k
    go_wp2_with fail
    refine (HRU.out _ HK5.out).mono ?_
    rintro e w6 ⟨rfl, k⟩
    have HK6 := Lib.hid (HK5.out.trans (k.mono HK5.out.size))
    clear k
    go_wp2_with fail
    refine (HFi.out _ HK6.out).mono ?_
    rintro e w7 ⟨rfl, k⟩
    have HK7 := Lib.hid (HK6.out.trans (k.mono HK6.out.size))
    clear k
    go_wp2_with fail
    refine (HSa.out _ HK7.out).mono ?_
    rintro e w8 ⟨rfl, k⟩
    have HK8 := Lib.hid (HK7.out.trans (k.mono HK7.out.size))
    clear k
    go_wp2_with fail
    refine (HRS.out _ HK8.out).mono ?_
    rintro e w9 ⟨rfl, k⟩
    have HK9 := Lib.hid (HK8.out.trans (k.mono HK8.out.size))
    clear k
    go_wp2_with fail
    refine (HLe.out _ HK9.out).mono ?_
    rintro e w10 ⟨rfl, k⟩
    have HK10 := Lib.hid (HK9.out.trans (k.mono HK9.out.size))
    clear k
    go_wp2_with fail
    refine (HRL.out _ HK10.out).mono ?_
    rintro e w11 ⟨rfl, k⟩
    have HK11 := Lib.hid (HK10.out.trans (k.mono HK10.out.size))
    clear k
    go_wp2_with fail
    refine (HKa.out _ HK11.out).mono ?_
    rintro e w12 ⟨rfl, k⟩
    have HK12 := Lib.hid (HK11.out.trans (k.mono HK11.out.size))
    clear k
    go_wp2_with fail
    refine (HKb.out _ HK12.out).mono ?_
    rintro e w13 ⟨rfl, k⟩
    have HK13 := Lib.hid (HK12.out.trans (k.mono HK12.out.size))
    clear k
    go_wp2_with fail
    refine (HRS.out _ HK13.out).mono ?_
    rintro e w14 ⟨rfl, k⟩
    have HK14 := Lib.hid (HK13.out.trans (k.mono HK13.out.size))
    clear k
    go_wp2_with fail
    refine (HAw.out _).mono ?_
    rintro e w15 ⟨rfl, k⟩
    have HK15 := Lib.hid (HK14.out.trans (k.mono HK14.out.size))
    clear k
    go_wp2_with fail
    go_ret
    exact ⟨rfl, HK15.out⟩
  · rw [hf] at HRF HU HFi
    have HUR := Lib.hid (uni_ref HRA.out HRB.out hf)
    have HUM := Lib.hid (uni_mem HRA.out HRB.out hf)
    clear hsA hsB hm hA hB rA rB vA vB kA kB hf lA lB
    go_enter Tryd.func3, Tryd.ntmps3
    go_wp2_with fail
    refine (HS1.out _ HK0.out).mono ?_
    rintro e w1 ⟨rfl, k⟩
    have HK1 := Lib.hid (HK0.out.trans (k.mono HK0.out.size))
    clear k
    go_wp2_with fail
    refine (HS2.out _ HK1.out).mono ?_
    rintro e w2 ⟨rfl, k⟩
    have HK2 := Lib.hid (HK1.out.trans (k.mono HK1.out.size))
    clear k
    go_wp2_with fail
    refine (HRF.out _ HK2.out).mono ?_
    rintro e w3 ⟨rfl, k⟩
    have HK3 := Lib.hid (HK2.out.trans (k.mono HK2.out.size))
    clear k
    go_wp2_with fail
    refine (HU.out _ HK3.out).mono ?_
    rintro e w4 ⟨o, rfl, ho, k4⟩
    have HK4 := Lib.hid (HK3.out.trans (k4.mono HK3.out.size))
    obtain ⟨ua, uc, rfl, hu⟩ := own_sin ho (fun z hz => by rcases (HUM.out z).1 hz with h | h; exact HSA.out.fits z h; exact HSB.out.fits z h)
    have HSU := Lib.hid hu
    clear hu ho k4
    go_wp2_with fail
    have HL4 := Lib.hid (Below.refl w4.heap.size w4)
    refine (HUn.out _ HK4.out).mono ?_
    rintro e w5 ⟨rfl, k⟩
    have HK5 := Lib.hid (HK4.out.trans (k.mono HK4.out.size))
    have HL5 := Lib.hid (HL4.out.trans (k.mono HL4.out.size))
    clear k
    go_wp2_with fail
    refine (HRU.out _ HK5.out).mono ?_
    rintro e w6 ⟨rfl, k⟩
    have HK6 := Lib.hid (HK5.out.trans (k.mono HK5.out.size))
    have HL6 := Lib.hid (HL5.out.trans (k.mono HL5.out.size))
    clear k
    go_wp2_with fail
    refine (HFi.out _ HK6.out).mono ?_
    rintro e w7 ⟨rfl, k⟩
    have HK7 := Lib.hid (HK6.out.trans (k.mono HK6.out.size))
    have HL7 := Lib.hid (HL6.out.trans (k.mono HL6.out.size))
    clear k
    go_wp2_with fail
    refine (HSa.out _ HK7.out).mono ?_
    rintro e w8 ⟨rfl, k⟩
    have HK8 := Lib.hid (HK7.out.trans (k.mono HK7.out.size))
    have HL8 := Lib.hid (HL7.out.trans (k.mono HL7.out.size))
    clear k
    go_wp2_with fail
    refine (HRS.out _ HK8.out).mono ?_
    rintro e w9 ⟨rfl, k⟩
    have HK9 := Lib.hid (HK8.out.trans (k.mono HK8.out.size))
    have HL9 := Lib.hid (HL8.out.trans (k.mono HL8.out.size))
    clear k
    go_wp2_with fail
    refine (HLe.out _ HK9.out).mono ?_
    rintro e w10 ⟨rfl, k⟩
    have HK10 := Lib.hid (HK9.out.trans (k.mono HK9.out.size))
    have HL10 := Lib.hid (HL9.out.trans (k.mono HL9.out.size))
    clear k
    go_wp2_with fail
    refine (HRL.out _ HK10.out).mono ?_
    rintro e w11 ⟨rfl, k⟩
    have HK11 := Lib.hid (HK10.out.trans (k.mono HK10.out.size))
    have HL11 := Lib.hid (HL10.out.trans (k.mono HL10.out.size))
    clear k
    go_wp2_with fail
    refine (HKa.out _ HK11.out).mono ?_
    rintro e w12 ⟨rfl, k⟩
    have HK12 := Lib.hid (HK11.out.trans (k.mono HK11.out.size))
    have HL12 := Lib.hid (HL11.out.trans (k.mono HL11.out.size))
    clear k
    go_wp2_with fail
    refine (HKb.out _ HK12.out).mono ?_
    rintro e w13 ⟨rfl, k⟩
    have HK13 := Lib.hid (HK12.out.trans (k.mono HK12.out.size))
    have HL13 := Lib.hid (HL12.out.trans (k.mono HL12.out.size))
    clear k
    go_wp2_with fail
    refine (HRS.out _ HK13.out).mono ?_
    rintro e w14 ⟨rfl, k⟩
    have HK14 := Lib.hid (HK13.out.trans (k.mono HK13.out.size))
    have HL14 := Lib.hid (HL13.out.trans (k.mono HL13.out.size))
    clear k
    go_wp2_with fail
    refine (HRUn.out _ HK14.out).mono ?_
    rintro e w15 ⟨o2, rfl, ho2, k⟩
    have HK15 := Lib.hid (HK14.out.trans (k.mono HK14.out.size))
    have HL15 := Lib.hid (HL14.out.trans (k.mono HL14.out.size))
    rw [← HUR.out] at ho2
    obtain ⟨va, vc, rfl, hv⟩ := own_sin ho2 (fun z hz => by rcases (HUM.out z).1 hz with h | h; exact HSA.out.fits z h; exact HSB.out.fits z h)
    have hsm := refSame_calls ua (uniL A B).length uc (uniL A B) va (uniL A B).length vc (uniL A B) w15 (HSU.out.below HL15.out) hv
    rw [decide_eq_true rfl] at hsm
    have HSm := Lib.hid hsm
    clear k ho2 hv hsm
    have HU1 := Lib.hid (fun w1 (k : Below w.heap.size w w1) (k2 : Below w4.heap.size w4 w1) => bUnder_calls a ua la ca (uniL A B).length uc A (uniL A B) w1 (HSA.out.below k) (HSU.out.below k2))
    rw [under_of (A := A) (U := uniL A B) (fun z hz => (HUM.out z).2 (.inl hz))] at HU1
    have HU2 := Lib.hid (fun w1 (k : Below w.heap.size w w1) (k2 : Below w4.heap.size w4 w1) => bUnder_calls b ua lb cb (uniL A B).length uc B (uniL A B) w1 (HSB.out.below k) (HSU.out.below k2))
    rw [under_of (A := B) (U := uniL A B) (fun z hz => (HUM.out z).2 (.inr hz))] at HU2
    go_wp2_with fail
    refine HSm.out.mono ?_
    rintro e w16 ⟨rfl, k⟩
    have HK16 := Lib.hid (HK15.out.trans (k.mono HK15.out.size))
    have HL16 := Lib.hid (HL15.out.trans (k.mono HL15.out.size))
    clear k
    go_wp2_with fail
    refine (HU1.out _ HK16.out HL16.out).mono ?_
    rintro e w17 ⟨rfl, k⟩
    have HK17 := Lib.hid (HK16.out.trans (k.mono HK16.out.size))
    have HL17 := Lib.hid (HL16.out.trans (k.mono HL16.out.size))
    clear k
    go_wp2_with fail
    refine (HU2.out _ HK17.out HL17.out).mono ?_
    rintro e w18 ⟨rfl, k⟩
    have HK18 := Lib.hid (HK17.out.trans (k.mono HK17.out.size))
    clear k
    go_wp2_with fail
    refine (HAw.out _).mono ?_
    rintro e w19 ⟨rfl, k⟩
    have HK19 := Lib.hid (HK18.out.trans (k.mono HK18.out.size))
    clear k
    go_wp2_with fail
    go_ret
    exact ⟨rfl, HK19.out⟩
end Go.Proofs.YtjohiehlnbgdaaaDoor.bindingPairs
