/- What the laws' own helper below does: which of two lists of values is ahead. -/
import Derived.Test.YtppplkfidjjodaaDoorKeyHelp
namespace Go.Proofs.YtppplkfidjjodaaDoor
open Go.RowKit
set_option linter.unusedVariables false

set_option maxHeartbeats 4000000 in
set_option maxRecDepth 100000 in
theorem lawBelow_calls (a a' : Option Addr) (len len' cap cap' : Nat) (A B : List Vd) (w : World) (hv : VIn w a len A) (hv' : VIn w a' len' B) (hA : allD A) (hB : allD B) :
    Calls Tryd.prog 16 #[.slice a len cap, .slice a' len' cap'] w fun e w' => e = .returned (.bool (belowL A B)) ∧ Below w.heap.size w w' := by
  have hsm := hv.small
  have hsm' := hv'.small
  have HV := Lib.hid hv
  have HL := Lib.hid hv.leng
  have HV' := Lib.hid hv'
  have HL' := Lib.hid hv'.leng
  have HA := Lib.hid hA
  have HBb := Lib.hid hB
  have q2 := guardV
  have HEq := Lib.hid (fun v u : Vd => eqIn v.k v.i v.s v.b u.k u.i u.s u.b)
  have HLess := Lib.hid (fun (v u : Vd) (h : rightD v) (h' : rightD u) w1 => refVLess_calls v.k v.i v.s v.b u.k u.i u.s u.b w1 (by have := right_size h.1; omega) (by have := right_size h'.1; omega) (right_kind h.1))
  obtain ⟨N, hN⟩ : ∃ N, N = belowL A B := ⟨_, rfl⟩
  have HN := Lib.hid hN
  rw [← hN]
  clear hv hv' hN hA hB
  go_enter Tryd.func16, Tryd.ntmps16
  go_wp2_with fail
  go_loopw [5] (fun i wr => ∃ (n : Nat), n ≤ len ∧ n ≤ len' ∧ i = .int .i64 n ∧ Hid (A.take n = B.take n) ∧ Hid (Below w.heap.size w wr)) (fun i _ => len - (intOf i).toNat)
  case atStart => exact ⟨0, Nat.zero_le _, Nat.zero_le _, rfl, Lib.hid rfl, Lib.hid (Below.refl _ _)⟩
  case round =>
    obtain ⟨n, hn, hn', rfl, HT, HB⟩ := hrel
    by_cases h : n < len ∧ n < len'
    case neg =>
      have HNE : Hid (N = decide (len < len')) := Lib.hid (by
        rw [HN.out, below_end A B n (by rw [HL.out]; exact hn) (by rw [HL'.out]; exact hn') HT.out (by rw [HL.out, HL'.out]; omega), HL.out, HL'.out])
      by_cases h1 : n < len
      · have t1 : decide ((n : Int) < (len : Int)) = true := by simp; omega
        have t2 : decide ((n : Int) < (len' : Int)) = false := by simp; omega
        have t1' : decide (n < len) = true := by simpa using h1
        have t2' : decide (n < len') = false := by simp; omega
        have t3 : decide (len < len') = false := by simp; omega
        rw [t3] at HNE
        clear h h1
        go_wp2_with fail
        go_ret
        exact ⟨by rw [HNE.out]; first | rfl | simp_all, HB.out⟩
      · have t1 : decide ((n : Int) < (len : Int)) = false := by simp; omega
        have t1' : decide (n < len) = false := by simpa using h1
        clear h h1
        go_wp2_with fail
        go_ret
        exact ⟨by rw [HNE.out]; first | rfl | simp, HB.out⟩
    case pos =>
      obtain ⟨h1, h2⟩ := h
      have hnA : n < A.length := by rw [HL.out]; exact h1
      have hnB : n < B.length := by rw [HL'.out]; exact h2
      have t1 : decide ((n : Int) < (len : Int)) = true := by simp; omega
      have t2 : decide ((n : Int) < (len' : Int)) = true := by simp; omega
      have t1' : decide (n < len) = true := by simpa using h1
      have t2' : decide (n < len') = true := by simpa using h2
      obtain ⟨g0, off0, rfl, hE⟩ := (HV.out.below HB.out).at' h1
      obtain ⟨g1, off1, rfl, hF⟩ := (HV'.out.below HB.out).at' h2
      have HNx := Lib.hid (take_next A B n hnA hnB HT.out)
      have HNo := Lib.hid (below_at A B n hnA hnB HT.out)
      have hrv := allD_at HA.out hnA
      have hru := allD_at HBb.out hnB
      obtain ⟨v, hv⟩ : ∃ v, v = A.getD n default := ⟨_, rfl⟩
      obtain ⟨u, hu⟩ : ∃ u, u = B.getD n default := ⟨_, rfl⟩
      rw [← hv] at hE HNx HNo hrv
      rw [← hu] at hF HNx HNo hru
      have hE8 : Hid (Lies g0 (off0 + n * 4) v wr ∧ Lies g1 (off1 + n * 4) u wr) := Lib.hid ⟨hE, hF⟩
      have HAt := Lib.hid (fun w1 (hb : Below w.heap.size w w1) => (show Lies g0 (off0 + n * 4) v w1 ∧ Lies g1 (off1 + n * 4) u w1 from by
        obtain ⟨g0', off0', e0, hE'⟩ := (HV.out.below hb).at' h1
        obtain ⟨g1', off1', e1, hF'⟩ := (HV'.out.below hb).at' h2
        cases e0
        cases e1
        rw [← hv] at hE'
        rw [← hu] at hF'
        exact ⟨hE', hF'⟩))
      have HC := Lib.hid (HLess.out v u hrv hru)
      obtain ⟨c0, c1, c2, c3⟩ := hE
      obtain ⟨d0, d1, d2, d3⟩ := hF
      have q1 := HEq.out v u
      have i1 : (0 : Int) ≤ (n : Int) := by omega
      have i2 : (n : Int) < (len : Int) := by omega
      have i3 : (n : Int) < (len' : Int) := by omega
      cases hq : eqB v.k v.i v.s v.b u.k u.i u.s u.b
      · rw [hq] at q1
        have HNE : Hid (N = lessB v.k v.i v.s v.b u.k u.i u.s u.b) := Lib.hid (by rw [HN.out]; exact HNo.out hq)
        have HB8 : Hid (wr.cell? ⟨g0, off0 + n * 4, none⟩ = some (.int .i64 v.k) ∧ wr.cell? ⟨g0, off0 + n * 4 + 1, none⟩ = some (.int .i64 v.i) ∧ wr.cell? ⟨g0, off0 + n * 4 + 2, none⟩ = some (.string v.s) ∧ wr.cell? ⟨g0, off0 + n * 4 + 3, none⟩ = some (.bool v.b) ∧ wr.cell? ⟨g1, off1 + n * 4, none⟩ = some (.int .i64 u.k) ∧ wr.cell? ⟨g1, off1 + n * 4 + 1, none⟩ = some (.int .i64 u.i) ∧ wr.cell? ⟨g1, off1 + n * 4 + 2, none⟩ = some (.string u.s) ∧ wr.cell? ⟨g1, off1 + n * 4 + 3, none⟩ = some (.bool u.b)) := Lib.hid ⟨c0, c1, c2, c3, d0, d1, d2, d3⟩
        clear hv hu hq hnA hnB hrv hru
        go_wp2_with fail
        go_quiet (fail)
        go_wp2_with fail
        go_region_held3 (fun w1 => w1.cell? ⟨g0, off0 + n * 4, none⟩ = some (.int .i64 v.k) ∧ w1.cell? ⟨g0, off0 + n * 4 + 1, none⟩ = some (.int .i64 v.i) ∧ w1.cell? ⟨g0, off0 + n * 4 + 2, none⟩ = some (.string v.s) ∧ w1.cell? ⟨g0, off0 + n * 4 + 3, none⟩ = some (.bool v.b) ∧ w1.cell? ⟨g1, off1 + n * 4, none⟩ = some (.int .i64 u.k) ∧ w1.cell? ⟨g1, off1 + n * 4 + 1, none⟩ = some (.int .i64 u.i) ∧ w1.cell? ⟨g1, off1 + n * 4 + 2, none⟩ = some (.string u.s) ∧ w1.cell? ⟨g1, off1 + n * 4 + 3, none⟩ = some (.bool u.b)) (first | exact HB9.out | exact HB8.out) (first
          | (go_at_call 27; refine (HC.out _).mono ?_; rintro e w4 ⟨rfl, k6⟩; have HK4 := Lib.hid ((below_drewN _ HB.out).drew.trans (k6.mono HB.out.size)); obtain ⟨⟨y0, y1, y2, y3⟩, ⟨z0, z1, z2, z3⟩⟩ := HAt.out _ HK4.out; have HB9 := Lib.hid (And.intro y0 (And.intro y1 (And.intro y2 (And.intro y3 (And.intro z0 (And.intro z1 (And.intro z2 z3))))))); clear k6 y0 y1 y2 y3 z0 z1 z2 z3))
        go_wp2_with fail
        go_ret
        exact ⟨by rw [HNE.out]; rfl, HK4.out⟩
      · rw [hq] at q1
        have HT2 := Lib.hid (HNx.out hq)
        clear hv hu hq hnA hnB hrv hru
        go_wp2_with fail
        go_quiet (fail)
        go_wp2_with fail
        go_roundw
        case rel => exact ⟨n + 1, by omega, by omega, by go_num, HT2, Lib.hid (below_drewN _ HB.out)⟩
        case measure => simp [intOf]; omega
end Go.Proofs.YtppplkfidjjodaaDoor
