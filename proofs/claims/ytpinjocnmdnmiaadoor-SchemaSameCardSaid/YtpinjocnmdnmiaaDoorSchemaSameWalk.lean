/- The walk of the law SchemaSame: with any two lists of declarations it answers true. -/
import Derived.Test.YtpinjocnmdnmiaaDoorScSameLaw
namespace Go.Proofs.YtpinjocnmdnmiaaDoor.schemaSame
open Go.RowKit
set_option linter.unusedVariables false

set_option maxHeartbeats 4000000 in
set_option maxRecDepth 100000 in
theorem walk (a : Option Addr) (len cap : Nat) (L : List Dc) (a' : Option Addr) (len' cap' : Nat) (M : List Dc) (w : World) (h : DIn w a len L) (_ : len ≤ cap) (_ : cap ≤ 9223372036854775807) (h' : DIn w a' len' M) (_ : len' ≤ cap') (_ : cap' ≤ 9223372036854775807) (hw : Wds w) :
    Calls Tryd.prog 5 #[.slice a len cap, .slice a' len' cap'] w fun e w' => e = .returned (.bool true) ∧ Below w.heap.size w w' := by
  have HAw := Lib.hid (fun w1 (hb : Below w.heap.size w w1) => awake_calls w1 (hw.below hb))
  have HF1 := Lib.hid (few_calls a len cap L w h)
  have HF2 := Lib.hid (few_calls a' len' cap' M w h')
  cases hf : fewB L
  case false =>
    rw [hf] at HF1
    clear hf h h' hw HF2
    go_enter Tryd.func5, Tryd.ntmps5
    go_wp2_with fail
    refine HF1.out.mono ?_
    rintro e w1 ⟨rfl, hw1⟩
    subst hw1
    go_wp2_with fail
    refine (HAw.out _ (Below.refl _ _)).mono ?_
    rintro e w1 ⟨rfl, k1⟩
    go_wp2_with fail
    go_ret
    exact ⟨rfl, k1⟩
  rw [hf] at HF1
  cases hf' : fewB M
  case false =>
    rw [hf'] at HF2
    clear hf hf' h h' hw
    go_enter Tryd.func5, Tryd.ntmps5
    go_wp2_with fail
    refine HF1.out.mono ?_
    rintro e w1 ⟨rfl, hw1⟩
    subst hw1
    go_wp2_with fail
    refine HF2.out.mono ?_
    rintro e w1 ⟨rfl, hw1⟩
    subst hw1
    go_wp2_with fail
    refine (HAw.out _ (Below.refl _ _)).mono ?_
    rintro e w1 ⟨rfl, k1⟩
    go_wp2_with fail
    go_ret
    exact ⟨rfl, k1⟩
  rw [hf'] at HF2
  have HS := Lib.hid (scSame_calls a len cap L a' len' cap' M w h h')
  have HR := Lib.hid (fun w1 (hb : Below w.heap.size w w1) => lawSame_calls a len cap L a' len' cap' M w1 (h.below hb) (h'.below hb) hf hf')
  have HO := Lib.hid (fun w1 (hb : Below w.heap.size w w1) => scSame_calls a len cap L a len cap L w1 (h.below hb) (h.below hb))
  rw [decide_eq_true (rfl : L = L)] at HO
  clear hf hf' h h' hw
  generalize decide (L = M) = r at HS HR
  have t1 : (r == r) = true := by simp
  go_enter Tryd.func5, Tryd.ntmps5
  go_wp2_with fail
  refine HF1.out.mono ?_
  rintro e w1 ⟨rfl, hw1⟩
  subst hw1
  go_wp2_with fail
  refine HF2.out.mono ?_
  rintro e w1 ⟨rfl, hw1⟩
  subst hw1
  go_wp2_with fail
  refine HS.out.mono ?_
  rintro e w1 ⟨rfl, k1⟩
  have HB1 := Lib.hid k1
  clear k1
  go_wp2_with fail
  refine (HR.out _ HB1.out).mono ?_
  rintro e w2 ⟨rfl, k2⟩
  have HB2 := Lib.hid (HB1.out.trans (k2.mono HB1.out.size))
  clear k2
  go_wp2_with fail
  refine (HO.out _ HB2.out).mono ?_
  rintro e w3 ⟨rfl, k3⟩
  have HB3 := Lib.hid (HB2.out.trans (k3.mono HB2.out.size))
  clear k3
  go_wp2_with fail
  refine (HAw.out _ HB3.out).mono ?_
  rintro e w4 ⟨rfl, k4⟩
  have HB4 := Lib.hid (HB3.out.trans (k4.mono HB3.out.size))
  clear k4
  go_wp2_with fail
  go_ret
  exact ⟨rfl, HB4.out⟩
end Go.Proofs.YtpinjocnmdnmiaaDoor.schemaSame
