/- The laws' own same: whether two lists of bindings are the same. -/
import Derived.Test.YtjohiehlnbgdaaaDoorSlotPut
namespace Go.Proofs.YtjohiehlnbgdaaaDoor
open Go.RowKit
set_option linter.unusedVariables false

theorem takeL_step {LL MM : List (List Sd)} {n : Nat} (h1 : n < LL.length) (h2 : n < MM.length) (h : LL.take n = MM.take n) (e : LL.getD n [] = MM.getD n []) : LL.take (n + 1) = MM.take (n + 1) := by
  rw [List.take_succ_eq_append_getElem h1, List.take_succ_eq_append_getElem h2, h]
  simp [List.getD, h1, h2] at e
  rw [e]
theorem neqL_at {LL MM : List (List Sd)} {n : Nat} (e : LL.getD n [] ≠ MM.getD n []) : LL ≠ MM := fun h => e (by rw [h])

set_option maxHeartbeats 2000000 in
set_option maxRecDepth 100000 in
theorem same_calls (a : Option Addr) (len cap : Nat) (LL : List (List Sd)) (vs : List Value) (a' : Option Addr) (len' cap' : Nat) (MM : List (List Sd)) (us : List Value) (w : World) (hl : LIn w a len LL vs) (hl' : LIn w a' len' MM us) :
    Calls Tryd.prog 21 #[.slice a len cap, .slice a' len' cap'] w fun e w' => e = .returned (.bool (decide (LL = MM))) ∧ Below w.heap.size w w' := by
  have H := Lib.hid hl
  have H' := Lib.hid hl'
  have HL := Lib.hid hl.leng
  have HL' := Lib.hid hl'.leng
  have hsm := hl.small
  have hsm' := hl'.small
  have HC := Lib.hid (fun (x y : Option Addr) (cx cy : Nat) (X Y : List Sd) w1 (hx : SIn w1 x X.length X) (hy : SIn w1 y Y.length Y) => refSame_calls x X.length cx X y Y.length cy Y w1 hx hy)
  clear hl hl'
  by_cases hll : len = len'
  case neg =>
    have t0 : ((len : Int) != (len' : Int)) = true := by rw [bne_iff_ne]; omega
    have HX : Hid (decide (LL = MM) = false) := Lib.hid (decide_eq_false (fun e => hll (by rw [← HL.out, ← HL'.out, e])))
    go_enter Tryd.func21, Tryd.ntmps21
    go_wp2_with fail
    go_ret
    exact ⟨by rw [HX.out]; rfl, Below.refl _ _⟩
  subst hll
  have t0 : ((len : Int) != (len : Int)) = false := by simp
  go_enter Tryd.func21, Tryd.ntmps21
  go_wp2_with fail
  go_loopw [5] (fun i wr => ∃ (n : Nat), n ≤ len ∧ i = .int .i64 n ∧ Hid (LL.take n = MM.take n) ∧ Hid (Below w.heap.size w wr)) (fun i _ => len - (intOf i).toNat)
  case atStart => exact ⟨0, Nat.zero_le _, rfl, Lib.hid rfl, Lib.hid (Below.refl _ _)⟩
  case round =>
    obtain ⟨n, hn, rfl, HT, HB⟩ := hrel
    by_cases h : n < len
    case neg =>
      obtain rfl : n = len := by omega
      have HX : Hid (decide (LL = MM) = true) := Lib.hid (decide_eq_true (by have := HT.out; rwa [List.take_of_length_le (by rw [HL.out]; exact Nat.le_refl _), List.take_of_length_le (by rw [HL'.out]; exact Nat.le_refl _)] at this))
      go_wp2_with fail
      go_ret
      exact ⟨by rw [HX.out]; rfl, HB.out⟩
    case pos =>
      obtain ⟨g, off, xa, xc, rfl, hc, hx⟩ := H.out.at' HB.out h
      obtain ⟨g', off', ya, yc, rfl, hc', hy⟩ := H'.out.at' HB.out h
      have HE := Lib.hid (takeL_step (n := n) (by rw [HL.out]; exact h) (by rw [HL'.out]; exact h) HT.out)
      have HN := Lib.hid (neqL_at (LL := LL) (MM := MM) (n := n))
      have hg := lt_of_cell hc
      have hg' := lt_of_cell hc'
      generalize LL.getD n [] = X at hc hx HE HN
      generalize MM.getD n [] = Y at hc' hy HE HN
      have H1 := Lib.hid (HC.out xa ya xc yc X Y wr.drew (hx.below (Below.refl _ wr).drew) (hy.below (Below.refl _ wr).drew))
      have HCe := Lib.hid (And.intro hc hc')
      clear hx hy
      by_cases e : X = Y
      · have HX := Lib.hid (HE.out e)
        rw [decide_eq_true e] at H1
        clear e HE HN
        go_wp2_with fail
        go_region_held3 (fun w9 => w9.cell? ⟨g, off + n, none⟩ = some (.slice xa X.length xc) ∧ w9.cell? ⟨g', off' + n, none⟩ = some (.slice ya Y.length yc)) (first | exact HC2.out | exact HCe.out) (first
          | (go_at_call 13; refine H1.out.mono ?_; rintro e w2 ⟨rfl, k2⟩; have HB2 := Lib.hid (HB.out.drew.trans (k2.mono HB.out.size)); have HC2 := Lib.hid (And.intro ((k2.cell (p := ⟨g, off + n, none⟩) hg).trans HCe.out.1) ((k2.cell (p := ⟨g', off' + n, none⟩) hg').trans HCe.out.2)); clear k2))
        go_wp2_with fail
        go_roundw
        case rel => exact ⟨n + 1, by omega, by go_num, HX, HB2⟩
        case measure => simp [intOf]; omega
      · have HX : Hid (decide (LL = MM) = false) := Lib.hid (decide_eq_false (HN.out e))
        rw [decide_eq_false e] at H1
        clear e HE HN
        go_wp2_with fail
        go_region_held3 (fun w9 => w9.cell? ⟨g, off + n, none⟩ = some (.slice xa X.length xc) ∧ w9.cell? ⟨g', off' + n, none⟩ = some (.slice ya Y.length yc)) (first | exact HC2.out | exact HCe.out) (first
          | (go_at_call 13; refine H1.out.mono ?_; rintro e w2 ⟨rfl, k2⟩; have HB2 := Lib.hid (HB.out.drew.trans (k2.mono HB.out.size)); have HC2 := Lib.hid (And.intro ((k2.cell (p := ⟨g, off + n, none⟩) hg).trans HCe.out.1) ((k2.cell (p := ⟨g', off' + n, none⟩) hg').trans HCe.out.2)); clear k2))
        go_wp2_with fail
        go_ret
        exact ⟨by rw [HX.out]; rfl, HB2.out⟩
end Go.Proofs.YtjohiehlnbgdaaaDoor
