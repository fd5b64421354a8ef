/- The laws' own small: which bindings they speak of. -/
import Derived.Test.YtjohiehlnbgdaaaDoorSlotRefRight
namespace Go.Proofs.YtjohiehlnbgdaaaDoor
open Go.RowKit
set_option linter.unusedVariables false

def smallL (L : List Sd) : Bool := decide (L.length ≤ 8) && (L.all (fun z => decide (z.v.s.size ≤ 1000)) && rightL L)
theorem small_right {L : List Sd} (h : smallL L = true) : rightL L = true ∧ L.length ≤ 8 := by
  simp only [smallL, Bool.and_eq_true, decide_eq_true_eq] at h
  exact ⟨h.2.2, h.1⟩
theorem all_step {L : List Sd} {n : Nat} (h : n < L.length) (H : L.all (fun z => decide (z.v.s.size ≤ 1000)) = (L.drop n).all (fun z => decide (z.v.s.size ≤ 1000))) : L.all (fun z => decide (z.v.s.size ≤ 1000)) = (decide ((L.getD n default).v.s.size ≤ 1000) && (L.drop (n + 1)).all (fun z => decide (z.v.s.size ≤ 1000))) := by
  rw [H, drop_at L n h, List.all_cons]

set_option maxHeartbeats 1000000 in
theorem small_calls (a : Option Addr) (len cap : Nat) (L : List Sd) (w : World) (hs : SIn w a len L) :
    Calls Tryd.prog 5 #[.slice a len cap] w fun e w' => e = .returned (.bool (smallL L)) ∧ Below w.heap.size w w' := by
  have H := Lib.hid hs
  have HL := Lib.hid hs.leng
  have hsm := hs.small
  have HC := Lib.hid (fun w1 (k : Below w.heap.size w w1) => refRight_calls a len cap L w1 (hs.below k))
  clear hs
  by_cases h8 : 8 < len
  · have t0 : decide ((8 : Int) < (len : Int)) = true := decide_eq_true (by omega)
    have HX : Hid (smallL L = false) := Lib.hid (by rw [smallL, HL.out, decide_eq_false (by omega)]; rfl)
    go_enter Tryd.func5, Tryd.ntmps5
    go_wp2_with fail
    go_ret
    exact ⟨by rw [HX.out]; rfl, Below.refl _ _⟩
  have t0 : decide ((8 : Int) < (len : Int)) = false := decide_eq_false (by omega)
  have HZ : Hid (smallL L = (L.all (fun z => decide (z.v.s.size ≤ 1000)) && rightL L)) := Lib.hid (by rw [smallL, HL.out, decide_eq_true (by omega)]; rfl)
  generalize rightL L = rl at HC HZ
  go_enter Tryd.func5, Tryd.ntmps5
  go_wp2_with fail
  go_loopw [3] (fun i wr => ∃ (n : Nat), n ≤ len ∧ i = .int .i64 n ∧ Hid (L.all (fun z => decide (z.v.s.size ≤ 1000)) = (L.drop n).all (fun z => decide (z.v.s.size ≤ 1000))) ∧ Hid (Below w.heap.size w wr)) (fun i _ => len - (intOf i).toNat)
  case atStart => exact ⟨0, Nat.zero_le _, rfl, Lib.hid rfl, Lib.hid (Below.refl _ _)⟩
  case round =>
    obtain ⟨n, hn, rfl, HX, HB⟩ := hrel
    by_cases h : n < len
    case neg =>
      obtain rfl : n = len := by omega
      have HE : Hid (smallL L = rl) := Lib.hid (by rw [HZ.out, HX.out, List.drop_eq_nil_iff.2 (by rw [HL.out]; exact Nat.le_refl _)]; rfl)
      go_wp2_with fail
      refine (HC.out _ HB.out).mono ?_
      rintro e w1 ⟨rfl, k1⟩
      have HB1 := Lib.hid (HB.out.trans (k1.mono HB.out.size))
      clear k1
      go_wp2_with fail
      go_ret
      exact ⟨by rw [HE.out]; rfl, HB1.out⟩
    case pos =>
      obtain ⟨g, off, rfl, hg, hc⟩ := H.out.at' HB.out h
      have HS := Lib.hid (all_step (n := n) (by rw [HL.out]; exact h) HX.out)
      have hfit := (H.out.fit h).2.1
      generalize L.getD n default = z at hc HS hfit
      obtain ⟨c0, c1, c2, c3, c4⟩ := hc
      by_cases hz : 1000 < z.v.s.size
      · have HE : Hid (smallL L = false) := Lib.hid (by rw [HZ.out, HS.out, decide_eq_false (by omega)]; rfl)
        have t1 : decide ((1000 : Int) < (z.v.s.size : Int)) = true := decide_eq_true (by omega)
        go_wp2_with fail
        go_ret
        exact ⟨by rw [HE.out]; rfl, HB.out⟩
      · have HE : Hid (L.all (fun z => decide (z.v.s.size ≤ 1000)) = (L.drop (n + 1)).all (fun z => decide (z.v.s.size ≤ 1000))) := Lib.hid (by rw [HS.out, decide_eq_true (by omega)]; rfl)
        have t1 : decide ((1000 : Int) < (z.v.s.size : Int)) = false := decide_eq_false (by omega)
        go_wp2_with fail
        go_roundw
        case rel => exact ⟨n + 1, by omega, by go_num, HE, HB⟩
        case measure => simp [intOf]; omega
end Go.Proofs.YtjohiehlnbgdaaaDoor
