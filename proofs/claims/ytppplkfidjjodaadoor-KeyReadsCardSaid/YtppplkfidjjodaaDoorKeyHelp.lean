/- What the laws' own helpers on lists of values do: right, same, below. -/
import Derived.Test.YtppplkfidjjodaaDoorKeyOf
import Derived.Deep.QuietTactic
import Derived.BigQuiet
import Derived.Deep.RegionHeld3
namespace Go.Proofs.YtppplkfidjjodaaDoor
open Go.RowKit
set_option linter.unusedVariables false

def rB (v : Vd) : Bool := rightB v.k v.i v.s v.b
/-- Whether all values may be: 1 yes, 0 no, -1 they are too many, or too long. -/
def rN (L : List Vd) : Int := if 10 < L.length then -1 else if L.any (fun v => decide (5000 < v.s.size)) then -1 else if L.all rB then 1 else 0
theorem all_next (L : List Vd) (n : Nat) (h : n < L.length) : (L.take (n + 1)).all rB = ((L.take n).all rB && rB (L.getD n default)) := by
  have e : L.getD n default = L[n] := by simp [List.getD, h]
  rw [List.take_succ_eq_append_getElem h, List.all_append, e]
  simp
theorem any_next (L : List Vd) (n : Nat) (h : n < L.length) : (L.take (n + 1)).any (fun v => decide (5000 < v.s.size)) = ((L.take n).any (fun v => decide (5000 < v.s.size)) || decide (5000 < (L.getD n default).s.size)) := by
  have e : L.getD n default = L[n] := by simp [List.getD, h]
  rw [List.take_succ_eq_append_getElem h, List.any_append, e]
  simp
theorem any_yes (L : List Vd) (n : Nat) (h : n < L.length) (hs : 5000 < (L.getD n default).s.size) : L.any (fun v => decide (5000 < v.s.size)) = true := by
  have e : L.getD n default = L[n] := by simp [List.getD, h]
  rw [List.any_eq_true]
  exact ⟨L[n], List.getElem_mem h, by rw [← e]; simpa using hs⟩
def bN (b : Bool) : Int := if b then 1 else 0

set_option maxHeartbeats 4000000 in
set_option maxRecDepth 100000 in
theorem lawRight_calls (a : Option Addr) (len cap : Nat) (L : List Vd) (w : World) (hv : VIn w a len L) :
    Calls Tryd.prog 7 #[.slice a len cap] w fun e w' => e = .returned (.int .i64 (rN L)) ∧ Below w.heap.size w w' := by
  have hsm := hv.small
  have HV := Lib.hid hv
  have HL := Lib.hid hv.leng
  by_cases h10 : 10 < len
  · have hr : rN L = -1 := by unfold rN; rw [if_pos (by rw [hv.leng]; exact h10)]
    rw [hr]
    have t1 : decide ((10 : Int) < (len : Int)) = true := by simp; omega
    clear hv h10 hr
    go_enter Tryd.func7, Tryd.ntmps7
    go_wp2_with fail
    go_ret
    exact ⟨rfl, Below.refl _ _⟩
  have t1 : decide ((10 : Int) < (len : Int)) = false := by simp; omega
  have hr : rN L = if L.any (fun v => decide (5000 < v.s.size)) then -1 else if L.all rB then 1 else 0 := by unfold rN; rw [if_neg (by rw [hv.leng]; exact h10)]
  obtain ⟨N, hN⟩ : ∃ N, N = rN L := ⟨_, rfl⟩
  rw [← hN]
  have HN : Hid (N = if L.any (fun v => decide (5000 < v.s.size)) then -1 else if L.all rB then 1 else 0) := Lib.hid (by rw [hN, hr])
  have HF := Lib.hid hv.fits
  have HR := Lib.hid (fun (v : Vd) (h : v.s.size ≤ 9223372036854775807) w1 => refVRight_calls v.k v.i v.s v.b w1 h)
  clear hv hN hr
  go_enter Tryd.func7, Tryd.ntmps7
  go_wp2_with fail
  go_loopw [3, 4] (fun z i wr => ∃ (n : Nat), n ≤ len ∧ i = .int .i64 n ∧ z = .int .i64 (bN ((L.take n).all rB)) ∧ Hid ((L.take n).any (fun v => decide (5000 < v.s.size)) = false) ∧ Hid (Below w.heap.size w wr)) (fun _ i _ => len - (intOf i).toNat)
  case atStart => exact ⟨0, Nat.zero_le _, rfl, rfl, Lib.hid rfl, Lib.hid (Below.refl _ _)⟩
  case round =>
    obtain ⟨n, hn, rfl, rfl, HA, HB⟩ := hrel
    by_cases h : n < len
    case neg =>
      obtain rfl : n = len := by omega
      have HE : Hid (L.take n = L) := Lib.hid (List.take_of_length_le (by rw [HL.out]; exact Nat.le_refl _))
      have HNE : Hid (bN ((L.take n).all rB) = N) := Lib.hid (by
        have hA := HA.out
        rw [HE.out] at hA ⊢
        rw [HN.out, hA, bN]
        simp)
      rw [HNE.out]
      go_wp2_with fail
      go_ret
      exact ⟨rfl, HB.out⟩
    case pos =>
      have hnL : n < L.length := by rw [HL.out]; exact h
      obtain ⟨g0, off0, rfl, hE⟩ := (HV.out.below HB.out).at' h
      have hfit := (HF.out n hnL).1
      have HAn := Lib.hid (all_next L n hnL)
      have HYn := Lib.hid (any_next L n hnL)
      have HYs := Lib.hid (any_yes L n hnL)
      obtain ⟨v, hv⟩ : ∃ v, v = L.getD n default := ⟨_, rfl⟩
      rw [← hv] at hE hfit HAn HYn HYs
      obtain ⟨c0, c1, c2, c3⟩ := hE
      have h1 := HR.out v hfit
      by_cases h5 : 5000 < v.s.size
      · have t5 : decide ((5000 : Int) < (v.s.size : Int)) = true := by simp; omega
        have HNE : Hid (N = -1) := Lib.hid (by rw [HN.out, HYs.out h5]; rfl)
        clear hv h1 h5
        go_wp2_with fail
        go_ret
        exact ⟨by rw [HNE.out]; rfl, HB.out⟩
      · have t5 : decide ((5000 : Int) < (v.s.size : Int)) = false := by simp; omega
        have HA2 : Hid ((L.take (n + 1)).any (fun v => decide (5000 < v.s.size)) = false) := Lib.hid (by rw [HYn.out, HA.out]; simpa using h5)
        obtain ⟨z, hz⟩ : ∃ z, z = (L.take n).all rB := ⟨_, rfl⟩
        rw [← hz] at HAn ⊢
        cases hq : rightB v.k v.i v.s v.b
        · rw [hq] at h1
          have H1 := Lib.hid h1
          have HZ : Hid (bN ((L.take (n + 1)).all rB) = 0) := Lib.hid (by rw [HAn.out, rB, hq, Bool.and_false]; rfl)
          clear hv h1 h5 hz hq
          go_wp2_with fail
          refine (H1.out _).mono ?_
          rintro e w1 ⟨rfl, k1⟩
          have HB1 := Lib.hid (HB.out.trans (k1.mono HB.out.size))
          clear c0 c1 c2 c3 k1
          go_wp2_with fail
          go_roundw
          case rel => exact ⟨n + 1, by omega, by go_num, by rw [HZ.out], HA2, HB1⟩
          case measure => simp [intOf]; omega
        · rw [hq] at h1
          have H1 := Lib.hid h1
          have HZ : Hid (bN ((L.take (n + 1)).all rB) = bN z) := Lib.hid (by rw [HAn.out, rB, hq, Bool.and_true])
          clear hv h1 h5 hz hq
          go_wp2_with fail
          refine (H1.out _).mono ?_
          rintro e w1 ⟨rfl, k1⟩
          have HB1 := Lib.hid (HB.out.trans (k1.mono HB.out.size))
          clear c0 c1 c2 c3 k1
          go_wp2_with fail
          go_roundw
          case rel => exact ⟨n + 1, by omega, by go_num, by rw [HZ.out], HA2, HB1⟩
          case measure => simp [intOf]; omega

set_option maxHeartbeats 4000000 in
set_option maxRecDepth 100000 in
theorem lawSame_calls (a a' : Option Addr) (len len' cap cap' : Nat) (A B : List Vd) (w : World) (hv : VIn w a len A) (hv' : VIn w a' len' B) :
    Calls Tryd.prog 12 #[.slice a len cap, .slice a' len' cap'] w fun e w' => e = .returned (.bool (sameL A B)) ∧ Below w.heap.size w w' := by
  have hsm := hv.small
  have hsm' := hv'.small
  have HV := Lib.hid hv
  have HL := Lib.hid hv.leng
  have HV' := Lib.hid hv'
  have HL' := Lib.hid hv'.leng
  by_cases hll : len = len'
  case neg =>
    have hr : sameL A B = false := by
      cases hs : sameL A B
      · rfl
      · exact absurd (by rw [← hv.leng, ← hv'.leng, (sameL_iff A B).1 hs]) hll
    rw [hr]
    have t1 : ((len : Int) != (len' : Int)) = true := by rw [bne_iff_ne]; omega
    clear hv hv' hr
    go_enter Tryd.func12, Tryd.ntmps12
    go_wp2_with fail
    go_ret
    exact ⟨rfl, Below.refl _ _⟩
  case pos =>
    subst hll
    have t1 : ((len : Int) != (len : Int)) = false := by simp
    have q2 := guardV
    have HEq := Lib.hid (fun v u : Vd => eqIn v.k v.i v.s v.b u.k u.i u.s u.b)
    obtain ⟨N, hN⟩ : ∃ N, N = sameL A B := ⟨_, rfl⟩
    have HN := Lib.hid hN
    rw [← hN]
    clear hv hv' hN
    go_enter Tryd.func12, Tryd.ntmps12
    go_wp2_with fail
    go_loopw [5] (fun i wr => ∃ (n : Nat), n ≤ len ∧ i = .int .i64 n ∧ Hid (A.take n = B.take n) ∧ Hid (Below w.heap.size w wr)) (fun i _ => len - (intOf i).toNat)
    case atStart => exact ⟨0, Nat.zero_le _, rfl, Lib.hid rfl, Lib.hid (Below.refl _ _)⟩
    case round =>
      obtain ⟨n, hn, rfl, HT, HB⟩ := hrel
      by_cases h : n < len
      case neg =>
        obtain rfl : n = len := by omega
        have HNE : Hid (N = true) := Lib.hid (by
          rw [HN.out, sameL_iff]
          have := HT.out
          rwa [List.take_of_length_le (by rw [HL.out]; exact Nat.le_refl _), List.take_of_length_le (by rw [HL'.out]; exact Nat.le_refl _)] at this)
        go_wp2_with fail
        go_ret
        exact ⟨by rw [HNE.out]; rfl, HB.out⟩
      case pos =>
        have hnA : n < A.length := by rw [HL.out]; exact h
        have hnB : n < B.length := by rw [HL'.out]; exact h
        obtain ⟨g0, off0, rfl, hE⟩ := (HV.out.below HB.out).at' h
        obtain ⟨g1, off1, rfl, hF⟩ := (HV'.out.below HB.out).at' h
        have HNx := Lib.hid (take_next A B n hnA hnB HT.out)
        have HNo := Lib.hid (same_no A B n hnA hnB)
        obtain ⟨v, hv⟩ : ∃ v, v = A.getD n default := ⟨_, rfl⟩
        obtain ⟨u, hu⟩ : ∃ u, u = B.getD n default := ⟨_, rfl⟩
        rw [← hv] at hE HNx HNo
        rw [← hu] at hF HNx HNo
        obtain ⟨c0, c1, c2, c3⟩ := hE
        obtain ⟨d0, d1, d2, d3⟩ := hF
        have q1 := HEq.out v u
        have i1 : (0 : Int) ≤ (n : Int) := by omega
        have i2 : (n : Int) < (len : Int) := by omega
        cases hq : eqB v.k v.i v.s v.b u.k u.i u.s u.b
        · rw [hq] at q1
          have HNE : Hid (N = false) := Lib.hid (by rw [HN.out]; exact HNo.out hq)
          clear hv hu hq hnA hnB
          go_wp2_with fail
          go_quiet (fail)
          go_wp2_with fail
          go_ret
          exact ⟨by rw [HNE.out]; rfl, below_drewN _ HB.out⟩
        · rw [hq] at q1
          have HT2 := Lib.hid (HNx.out hq)
          clear hv hu hq hnA hnB
          go_wp2_with fail
          go_quiet (fail)
          go_wp2_with fail
          go_roundw
          case rel => exact ⟨n + 1, by omega, by go_num, HT2, Lib.hid (below_drewN _ HB.out)⟩
          case measure => simp [intOf]; omega
end Go.Proofs.YtppplkfidjjodaaDoor
