/- Lists of whole numbers in memory; and what slices.Contains does with them. -/
import Derived.Test.YtjohiehlnbgdaaaDoorSlotGet
namespace Go.Proofs.YtjohiehlnbgdaaaDoor
open Go.RowKit
set_option linter.unusedVariables false

/-- A list of whole numbers in memory. -/
structure IIn (w : World) (a : Option Addr) (len : Nat) (V : List Int) : Prop where
  leng : V.length = len
  small : len ≤ 9223372036854775807
  row : 0 < len → ∃ g off, a = some ⟨g, off, none⟩ ∧ g < w.heap.size ∧ ∀ n, n < len → w.cell? ⟨g, off + n, none⟩ = some (.int .i64 (V.getD n 0))
theorem IIn.below {w w' : World} {a : Option Addr} {len : Nat} {V : List Int} (h : IIn w a len V) (hb : Below w.heap.size w w') : IIn w' a len V :=
  ⟨h.leng, h.small, fun h0 => by
    obtain ⟨g, off, e, hg, hr⟩ := h.row h0
    exact ⟨g, off, e, Nat.lt_of_lt_of_le hg hb.size, fun n hn => (hb.cell (p := ⟨g, off + n, none⟩) hg).trans (hr n hn)⟩⟩
theorem dropI_at (V : List Int) (n : Nat) (h : n < V.length) : V.drop n = V.getD n 0 :: V.drop (n + 1) := by
  rw [List.drop_eq_getElem_cons h]
  simp [List.getD, h]

set_option maxHeartbeats 1000000 in
theorem indexI_calls (a : Option Addr) (len cap : Nat) (V : List Int) (x : Int) (w : World) (hl : IIn w a len V) :
    Calls Tryd.prog 53 #[.slice a len cap, .int .i64 x] w fun e w' => (∃ i : Int, e = .returned (.int .i64 i) ∧ decide (0 ≤ i) = decide (x ∈ V)) ∧ Below w.heap.size w w' := by
  have H := Lib.hid hl
  have HL := Lib.hid hl.leng
  have hsm := hl.small
  clear hl
  go_enter Tryd.func53, Tryd.ntmps53
  go_wp2_with fail
  go_loopw [8] (fun i wr => ∃ (n : Nat), n ≤ len ∧ i = .int .i64 n ∧ Hid (x ∈ V ↔ x ∈ V.drop n) ∧ Hid (Below w.heap.size w wr)) (fun i _ => len - (intOf i).toNat)
  case atStart => exact ⟨0, Nat.zero_le _, rfl, Lib.hid Iff.rfl, Lib.hid (Below.refl _ _)⟩
  case round =>
    obtain ⟨n, hn, rfl, HX, HB⟩ := hrel
    by_cases h : n < len
    case neg =>
      obtain rfl : n = len := by omega
      have HE : Hid (decide (x ∈ V) = false) := Lib.hid (decide_eq_false (by rw [HX.out, List.drop_eq_nil_iff.2 (by rw [HL.out]; exact Nat.le_refl _)]; simp))
      go_wp2_with fail
      go_ret
      exact ⟨⟨-1, rfl, by rw [HE.out]; rfl⟩, HB.out⟩
    case pos =>
      obtain ⟨g, off, rfl, hg, hr⟩ := (H.out.below HB.out).row (by omega)
      have hc := hr n h
      clear hr hg
      have HD := Lib.hid (dropI_at V n (by rw [HL.out]; exact h))
      generalize V.getD n 0 = y at hc HD
      by_cases e : x = y
      · subst e
        have HE : Hid (decide (x ∈ V) = true) := Lib.hid (decide_eq_true (by rw [HX.out, HD.out]; simp))
        have t0 : (x == x) = true := by simp
        go_wp2_with fail
        go_ret
        exact ⟨⟨n, rfl, by rw [HE.out]; exact decide_eq_true (by omega)⟩, HB.out⟩
      · have HX2 : Hid (x ∈ V ↔ x ∈ V.drop (n + 1)) := Lib.hid (by rw [HX.out, HD.out, List.mem_cons]; exact ⟨fun h => h.elim (fun h => absurd h e) id, .inr⟩)
        have t0 : (x == y) = false := by simp [e]
        go_wp2_with fail
        go_roundw
        case rel => exact ⟨n + 1, by omega, by go_num, HX2, HB⟩
        case measure => simp [intOf]; omega
set_option maxHeartbeats 400000 in
theorem containsI_calls (a : Option Addr) (len cap : Nat) (V : List Int) (x : Int) (w : World) (hl : IIn w a len V) :
    Calls Tryd.prog 38 #[.slice a len cap, .int .i64 x] w fun e w' => e = .returned (.bool (decide (x ∈ V))) ∧ Below w.heap.size w w' := by
  have HC := Lib.hid (indexI_calls a len cap V x w hl)
  clear hl
  go_enter Tryd.func38, Tryd.ntmps38
  go_wp2_with fail
  refine HC.out.mono ?_
  rintro e w1 ⟨⟨i, rfl, hi⟩, k1⟩
  have HI := Lib.hid hi
  clear hi
  go_wp2_with fail
  go_ret
  exact ⟨by rw [← HI.out]; rfl, k1⟩
end Go.Proofs.YtjohiehlnbgdaaaDoor
