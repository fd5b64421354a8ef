/- What the reference's Under does with any two lists of slots. -/
import Derived.Test.YtjohiehlnbgdaaaDoorSlotRight
namespace Go.Proofs.YtjohiehlnbgdaaaDoor
open Go.RowKit
set_option linter.unusedVariables false

def refUnderOk (B : List Sd) (z : Sd) : Bool := getB B z.x && decide (getV B z.x = z.v)
def refUnderL (A B : List Sd) : Bool := A.all (refUnderOk B)
theorem refUnderL_step {A B : List Sd} {n : Nat} (h : n < A.length) (H : refUnderL A B = refUnderL (A.drop n) B) : refUnderL A B = (refUnderOk B (A.getD n default) && refUnderL (A.drop (n + 1)) B) := by
  rw [H, drop_at A n h, refUnderL, List.all_cons]
  rfl

set_option maxHeartbeats 2000000 in
set_option maxRecDepth 100000 in
theorem refUnder_calls (a b : Option Addr) (la ca lb cb : Nat) (A B : List Sd) (w : World) (hsA : SIn w a la A) (hsB : SIn w b lb B) :
    Calls Tryd.prog 10 #[.slice a la ca, .slice b lb cb] w fun e w' => e = .returned (.bool (refUnderL A B)) ∧ Below w.heap.size w w' := by
  have HA := Lib.hid hsA
  have HLA := Lib.hid hsA.leng
  have hsm := hsA.small
  have HG := Lib.hid (fun (v : Int) w1 (k : Below w.heap.size w w1) => refGet_calls b lb cb B v w1 (hsB.below k))
  clear hsA hsB
  go_enter Tryd.func10, Tryd.ntmps10
  go_wp2_with fail
  go_loopw [5] (fun i wr => ∃ (n : Nat), n ≤ la ∧ i = .int .i64 n ∧ Hid (refUnderL A B = refUnderL (A.drop n) B) ∧ Hid (Below w.heap.size w wr)) (fun i _ => la - (intOf i).toNat)
  case atStart => exact ⟨0, Nat.zero_le _, rfl, Lib.hid rfl, Lib.hid (Below.refl _ _)⟩
  case round =>
    obtain ⟨n, hn, rfl, HX, HB⟩ := hrel
    by_cases h : n < la
    case neg =>
      obtain rfl : n = la := by omega
      have HE : Hid (refUnderL A B = true) := Lib.hid (by rw [HX.out, List.drop_eq_nil_iff.2 (by rw [HLA.out]; exact Nat.le_refl _)]; rfl)
      go_wp2_with fail
      go_ret
      exact ⟨by rw [HE.out]; rfl, HB.out⟩
    case pos =>
      obtain ⟨g, off, rfl, hg, hc⟩ := HA.out.at' HB.out h
      have hgr : g < wr.heap.size := Nat.lt_of_lt_of_le hg HB.out.size
      have HS := Lib.hid (refUnderL_step (n := n) (by rw [HLA.out]; exact h) HX.out)
      generalize A.getD n default = z at hc HS
      have H1 := Lib.hid (HG.out z.x _ HB.out)
      have HO : Hid (refUnderOk B z = (getB B z.x && decide (getV B z.x = z.v))) := Lib.hid rfl
      generalize getV B z.x = x at H1 HO
      generalize getB B z.x = gb at H1 HO
      have HD := Lib.hid hc
      obtain ⟨c0, c1, c2, c3, c4⟩ := hc
      go_wp2_with fail
      refine H1.out.mono ?_
      rintro e w3 ⟨rfl, k3⟩
      have hkr := k3.alloc k3.size (.cells #[.int .i64 x.k, .int .i64 x.i, .string x.s, .bool x.b] 34)
      obtain ⟨w4, hw4⟩ : ∃ w4, w3.alloc (.cells #[.int .i64 x.k, .int .i64 x.i, .string x.s, .bool x.b] 34) = w4 := ⟨_, rfl⟩
      have HX3 : Hid (Boxed w3.heap.size x.k x.i x.s x.b w4) := Lib.hid (by rw [← hw4]; exact Boxed.new x.k x.i x.s x.b w3 34)
      rw [hw4] at hkr
      have HB4 := Lib.hid (HB.out.trans (hkr.mono HB.out.size))
      obtain ⟨d0, d1, d2, d3, d4⟩ := HD.out.below hkr hgr
      obtain ⟨x0, x1, x2, x3⟩ := HX3.out
      have q1 := fun w9 => eqIn x.k x.i x.s x.b z.v.k z.v.i z.v.s z.v.b w9
      rw [eqB_dec x z.v] at q1
      have q2 := guardV
      clear c0 c1 c2 c3 c4 k3 hkr H1
      by_cases hx : x = z.v
      · rw [decide_eq_true hx] at q1
        cases gb
        · have HE : Hid (refUnderL A B = false) := Lib.hid (by rw [HS.out, HO.out]; simp [hx])
          clear hx
          go_wp2_with fail
          clear hw4
          go_quiet (fail)
          go_wp2_with fail
          go_ret
          exact ⟨by rw [HE.out]; rfl, below_drewN _ HB4.out⟩
        · have HE : Hid (refUnderL A B = refUnderL (A.drop (n + 1)) B) := Lib.hid (by rw [HS.out, HO.out]; simp [hx])
          clear hx
          go_wp2_with fail
          clear hw4
          go_quiet (fail)
          go_wp2_with fail
          go_roundw
          case rel => exact ⟨n + 1, by omega, by go_num, HE, Lib.hid (below_drewN _ HB4.out)⟩
          case measure => simp [intOf]; omega
      · rw [decide_eq_false hx] at q1
        cases gb
        · have HE : Hid (refUnderL A B = false) := Lib.hid (by rw [HS.out, HO.out]; simp [hx])
          clear hx
          go_wp2_with fail
          clear hw4
          go_quiet (fail)
          go_wp2_with fail
          go_ret
          exact ⟨by rw [HE.out]; rfl, below_drewN _ HB4.out⟩
        · have HE : Hid (refUnderL A B = false) := Lib.hid (by rw [HS.out, HO.out]; simp [hx])
          clear hx
          go_wp2_with fail
          clear hw4
          go_quiet (fail)
          go_wp2_with fail
          go_ret
          exact ⟨by rw [HE.out]; rfl, below_drewN _ HB4.out⟩
end Go.Proofs.YtjohiehlnbgdaaaDoor
