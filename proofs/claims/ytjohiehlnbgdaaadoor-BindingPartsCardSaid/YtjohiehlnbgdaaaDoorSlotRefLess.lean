/- Which binding is ahead, by the reference's Less. -/
import Derived.Test.YtjohiehlnbgdaaaDoorSlotRight
namespace Go.Proofs.YtjohiehlnbgdaaaDoor
open Go.RowKit
set_option linter.unusedVariables false

def refLex : List Sd → List Sd → Bool
  | a :: A, b :: B => if a.x = b.x then (if a.v = b.v then refLex A B else lessD a.v b.v) else decide (a.x < b.x)
  | _, _ => false
def refLessL (A B : List Sd) : Bool := if A.length = B.length then refLex A B else decide (A.length < B.length)
theorem refLex_step {A B : List Sd} {n : Nat} (h1 : n < A.length) (h2 : n < B.length) (H : refLex A B = refLex (A.drop n) (B.drop n)) :
    refLex A B = if (A.getD n default).x = (B.getD n default).x then (if (A.getD n default).v = (B.getD n default).v then refLex (A.drop (n + 1)) (B.drop (n + 1)) else lessD (A.getD n default).v (B.getD n default).v) else decide ((A.getD n default).x < (B.getD n default).x) := by
  rw [H, drop_at A n h1, drop_at B n h2, refLex]
theorem rV_kind {v : Vd} (h : rV v = true) : v.k = 1 ∨ v.k = 2 ∨ v.k = 3 := right_kind h

set_option maxHeartbeats 4000000 in
set_option maxRecDepth 100000 in
theorem refLess_calls (a b : Option Addr) (la ca lb cb : Nat) (A B : List Sd) (w : World) (hsA : SIn w a la A) (hsB : SIn w b lb B) (hr : ∀ z ∈ A, rV z.v = true) :
    Calls Tryd.prog 15 #[.slice a la ca, .slice b lb cb] w fun e w' => e = .returned (.bool (refLessL A B)) ∧ Below w.heap.size w w' := by
  have HA := Lib.hid hsA
  have HB := Lib.hid hsB
  have HLA := Lib.hid hsA.leng
  have HLB := Lib.hid hsB.leng
  have HRt := Lib.hid hr
  have hsm := hsA.small
  have hsm' := hsB.small
  have HC := Lib.hid (fun (v u : Vd) w1 (h1 : v.s.size ≤ 9223372036854775807) (h2 : u.s.size ≤ 9223372036854775807) (hk : v.k = 1 ∨ v.k = 2 ∨ v.k = 3) => refVLess_calls v.k v.i v.s v.b u.k u.i u.s u.b w1 h1 h2 hk)
  clear hsA hsB hr
  by_cases hll : la = lb
  case neg =>
    have t0 : ((la : Int) != (lb : Int)) = true := by rw [bne_iff_ne]; omega
    have HX : Hid (refLessL A B = decide (la < lb)) := Lib.hid (by rw [refLessL, if_neg (by rw [HLA.out, HLB.out]; exact hll), HLA.out, HLB.out])
    go_enter Tryd.func15, Tryd.ntmps15
    go_wp2_with fail
    go_ret
    refine ⟨?_, Below.refl _ _⟩
    rw [HX.out]
    simp
  subst hll
  have t0 : ((la : Int) != (la : Int)) = false := by simp
  have HZ : Hid (refLessL A B = refLex A B) := Lib.hid (by rw [refLessL, if_pos (by rw [HLA.out, HLB.out])])
  go_enter Tryd.func15, Tryd.ntmps15
  go_wp2_with fail
  go_loopw [5] (fun i wr => ∃ (n : Nat), n ≤ la ∧ i = .int .i64 n ∧ Hid (refLex A B = refLex (A.drop n) (B.drop n)) ∧ Hid (Below w.heap.size w wr)) (fun i _ => la - (intOf i).toNat)
  case atStart => exact ⟨0, Nat.zero_le _, rfl, Lib.hid rfl, Lib.hid (Below.refl _ _)⟩
  case round =>
    obtain ⟨n, hn, rfl, HX, HBe⟩ := hrel
    by_cases h : n < la
    case neg =>
      obtain rfl : n = la := by omega
      have HE : Hid (refLex A B = false) := Lib.hid (by rw [HX.out, List.drop_eq_nil_iff (l := A).2 (by rw [HLA.out]; exact Nat.le_refl _)]; rfl)
      go_wp2_with fail
      go_ret
      exact ⟨by rw [HZ.out, HE.out]; rfl, HBe.out⟩
    case pos =>
      obtain ⟨g, off, rfl, hg, hc⟩ := HA.out.at' HBe.out h
      obtain ⟨g', off', rfl, hg', hc'⟩ := HB.out.at' HBe.out h
      have hgr : g < wr.heap.size := Nat.lt_of_lt_of_le hg HBe.out.size
      have hgr' : g' < wr.heap.size := Nat.lt_of_lt_of_le hg' HBe.out.size
      have HS := Lib.hid (refLex_step (n := n) (by rw [HLA.out]; exact h) (by rw [HLB.out]; exact h) HX.out)
      have hfx := HA.out.fit h
      have hfy := HB.out.fit h
      have hrv := HRt.out _ (getD_mem (L := A) (n := n) (by rw [HLA.out]; exact h))
      generalize A.getD n default = x at hc HS hfx hrv
      generalize B.getD n default = y at hc' HS hfy
      have H1 := Lib.hid (fun w1 => HC.out x.v y.v w1 hfx.2.1 hfy.2.1 (rV_kind hrv))
      have HLx := Lib.hid hc
      have HLy := Lib.hid hc'
      obtain ⟨c0, c1, c2, c3, c4⟩ := hc
      obtain ⟨d0, d1, d2, d3, d4⟩ := hc'
      clear hfx hfy hrv
      by_cases hx : x.x = y.x
      case neg =>
        have t1 : (x.x != y.x) = true := by rw [bne_iff_ne]; exact hx
        have HE : Hid (refLex A B = decide (x.x < y.x)) := Lib.hid (by rw [HS.out, if_neg hx])
        clear hx
        go_wp2_with fail
        go_quiet (fail)
        obtain ⟨wq, hwq⟩ : ∃ wv, wr.drewN nq = wv := ⟨_, rfl⟩
        have HLxq : Hid (LiesS g (off + n * 5) x wq) := Lib.hid (by rw [← hwq]; exact HLx.out)
        have HLyq : Hid (LiesS g' (off' + n * 5) y wq) := Lib.hid (by rw [← hwq]; exact HLy.out)
        have HBq : Hid (Below w.heap.size w wq) := Lib.hid (by rw [← hwq]; exact below_drewN _ HBe.out)
        have hgrq : g < wq.heap.size := by rw [← hwq]; exact hgr
        have hgrq' : g' < wq.heap.size := by rw [← hwq]; exact hgr'
        rw [hwq]
        clear hwq c0 c1 c2 c3 c4 d0 d1 d2 d3 d4
        obtain ⟨cq0, cq1, cq2, cq3, cq4⟩ := HLxq.out
        obtain ⟨dq0, dq1, dq2, dq3, dq4⟩ := HLyq.out
        go_wp2_with fail
        go_quiet (fail)
        go_wp2_with fail
        go_ret
        exact ⟨by rw [HZ.out, HE.out]; rfl, below_drewN _ HBq.out⟩
      have t1 : (x.x != y.x) = false := by simp [hx]
      have q1 := fun w9 => eqIn x.v.k x.v.i x.v.s x.v.b y.v.k y.v.i y.v.s y.v.b w9
      rw [eqB_dec x.v y.v] at q1
      have q2 := guardV
      by_cases hv : x.v = y.v
      case pos =>
        have HE : Hid (refLex A B = refLex (A.drop (n + 1)) (B.drop (n + 1))) := Lib.hid (by rw [HS.out, if_pos hx, if_pos hv])
        rw [decide_eq_true hv] at q1
        clear hx hv
        go_wp2_with fail
        go_quiet (fail)
        obtain ⟨wq, hwq⟩ : ∃ wv, wr.drewN nq = wv := ⟨_, rfl⟩
        have HLxq : Hid (LiesS g (off + n * 5) x wq) := Lib.hid (by rw [← hwq]; exact HLx.out)
        have HLyq : Hid (LiesS g' (off' + n * 5) y wq) := Lib.hid (by rw [← hwq]; exact HLy.out)
        have HBq : Hid (Below w.heap.size w wq) := Lib.hid (by rw [← hwq]; exact below_drewN _ HBe.out)
        have hgrq : g < wq.heap.size := by rw [← hwq]; exact hgr
        have hgrq' : g' < wq.heap.size := by rw [← hwq]; exact hgr'
        rw [hwq]
        clear hwq c0 c1 c2 c3 c4 d0 d1 d2 d3 d4
        obtain ⟨cq0, cq1, cq2, cq3, cq4⟩ := HLxq.out
        obtain ⟨dq0, dq1, dq2, dq3, dq4⟩ := HLyq.out
        go_wp2_with fail
        go_quiet (fail)
        go_wp2_with fail
        go_roundw
        case rel => exact ⟨n + 1, by omega, by go_num, HE, Lib.hid (below_drewN _ HBq.out)⟩
        case measure => simp [intOf]; omega
      case neg =>
        have HE : Hid (refLex A B = lessD x.v y.v) := Lib.hid (by rw [HS.out, if_pos hx, if_neg hv])
        rw [decide_eq_false hv] at q1
        change Hid (∀ w1, Calls _ _ _ _ fun e w' => e = .returned (.bool (lessD x.v y.v)) ∧ _) at H1
        generalize lessD x.v y.v = r at H1 HE
        clear hx hv
        go_wp2_with fail
        go_quiet (fail)
        obtain ⟨wq, hwq⟩ : ∃ wv, wr.drewN nq = wv := ⟨_, rfl⟩
        have HLxq : Hid (LiesS g (off + n * 5) x wq) := Lib.hid (by rw [← hwq]; exact HLx.out)
        have HLyq : Hid (LiesS g' (off' + n * 5) y wq) := Lib.hid (by rw [← hwq]; exact HLy.out)
        have HBq : Hid (Below w.heap.size w wq) := Lib.hid (by rw [← hwq]; exact below_drewN _ HBe.out)
        have hgrq : g < wq.heap.size := by rw [← hwq]; exact hgr
        have hgrq' : g' < wq.heap.size := by rw [← hwq]; exact hgr'
        rw [hwq]
        clear hwq c0 c1 c2 c3 c4 d0 d1 d2 d3 d4
        obtain ⟨cq0, cq1, cq2, cq3, cq4⟩ := HLxq.out
        obtain ⟨dq0, dq1, dq2, dq3, dq4⟩ := HLyq.out
        go_wp2_with fail
        go_quiet (fail)
        obtain ⟨wp, hwp⟩ : ∃ wv, wq.drewN nq = wv := ⟨_, rfl⟩
        have HLxp : Hid (LiesS g (off + n * 5) x wp) := Lib.hid (by rw [← hwp]; exact HLxq.out)
        have HLyp : Hid (LiesS g' (off' + n * 5) y wp) := Lib.hid (by rw [← hwp]; exact HLyq.out)
        have HBp : Hid (Below w.heap.size w wp) := Lib.hid (by rw [← hwp]; exact below_drewN _ HBq.out)
        have hgrp : g < wp.heap.size := by rw [← hwp]; exact hgrq
        have hgrp' : g' < wp.heap.size := by rw [← hwp]; exact hgrq'
        rw [hwp]
        clear hwp cq0 cq1 cq2 cq3 cq4 dq0 dq1 dq2 dq3 dq4
        obtain ⟨cp0, cp1, cp2, cp3, cp4⟩ := HLxp.out
        obtain ⟨dp0, dp1, dp2, dp3, dp4⟩ := HLyp.out
        have HSS := Lib.hid (And.intro HLxp.out HLyp.out)
        clear q1
        go_wp2_with fail
        go_region_held3 (fun w9 => (w9.cell? ⟨g, off + n * 5, none⟩ = some (.int .i64 x.x) ∧ w9.cell? ⟨g, off + n * 5 + 1, none⟩ = some (.int .i64 x.v.k) ∧ w9.cell? ⟨g, off + n * 5 + 2, none⟩ = some (.int .i64 x.v.i) ∧ w9.cell? ⟨g, off + n * 5 + 3, none⟩ = some (.string x.v.s) ∧ w9.cell? ⟨g, off + n * 5 + 4, none⟩ = some (.bool x.v.b)) ∧ (w9.cell? ⟨g', off' + n * 5, none⟩ = some (.int .i64 y.x) ∧ w9.cell? ⟨g', off' + n * 5 + 1, none⟩ = some (.int .i64 y.v.k) ∧ w9.cell? ⟨g', off' + n * 5 + 2, none⟩ = some (.int .i64 y.v.i) ∧ w9.cell? ⟨g', off' + n * 5 + 3, none⟩ = some (.string y.v.s) ∧ w9.cell? ⟨g', off' + n * 5 + 4, none⟩ = some (.bool y.v.b))) (first | exact HS3.out | exact HSS.out) (first
          | (go_at_call 32; refine (H1.out _).mono ?_; rintro e w5 ⟨rfl, k5⟩; have HB5 := Lib.hid (HBp.out.drew.trans (k5.mono HBp.out.size)); have HS3 := Lib.hid (And.intro (HLxp.out.below ((Below.refl _ wp).drew.trans k5) hgrp) (HLyp.out.below ((Below.refl _ wp).drew.trans k5) hgrp')); clear k5))
        go_wp2_with fail
        go_ret
        exact ⟨by rw [HZ.out, HE.out]; rfl, HB5.out⟩
end Go.Proofs.YtjohiehlnbgdaaaDoor
