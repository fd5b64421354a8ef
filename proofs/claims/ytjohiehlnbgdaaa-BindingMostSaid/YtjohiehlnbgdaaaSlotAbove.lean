/- Whether one of a row of bindings is above a binding: slices.ContainsFunc with binding.Most's closure. -/
import Derived.Test.YtjohiehlnbgdaaaSlotList
import Derived.Test.YtjohiehlnbgdaaaSlotUnder
namespace Go.Proofs.Ytjohiehlnbgdaaa
open Go.RowKit
set_option linter.unusedVariables false

theorem LIn.drop {w : World} {g off len : Nat} {LL : List (List Sd)} {vs : List Value} (h : LIn w (some ⟨g, off, none⟩) len LL vs) (m : Nat) : LIn w (some ⟨g, off + m, none⟩) (len - m) (LL.drop m) (vs.drop m) :=
  ⟨h.vals.drop m, by rw [List.length_drop, h.leng], by have := h.small; omega, fun h0 => by
    obtain ⟨g', off', e, hg, hr⟩ := h.row (by omega)
    cases e
    refine ⟨g, off + m, rfl, hg, fun j u hj => ?_⟩
    rw [List.getElem?_drop] at hj
    rw [Nat.add_assoc]
    exact hr _ _ hj⟩

set_option maxHeartbeats 400000 in
theorem above_calls (xa ya : Option Addr) (xc yc : Nat) (X Y : List Sd) (Bb : Nat) (w : World) (hx : SIn w xa X.length X) (hy : SIn w ya Y.length Y) (hc : w.cell? ⟨Bb, 0, none⟩ = some (.slice xa X.length xc)) (hlt : Bb < w.heap.size) :
    Calls Try.prog 31 #[.slice ya Y.length yc, .pointer (some ⟨Bb, 0, none⟩)] w fun e w' => e = .returned (.bool (underL X Y)) ∧ Below w.heap.size w w' := by
  have HC := Lib.hid (bUnder_calls xa ya X.length xc Y.length yc X Y w hx hy)
  clear hx hy
  go_enter Try.func31, Try.ntmps31
  go_wp2_with fail
  refine HC.out.mono ?_
  rintro e w1 ⟨rfl, k1⟩
  go_wp2_with fail
  go_ret
  exact ⟨rfl, k1⟩
set_option maxHeartbeats 1000000 in
theorem indexL_calls (a : Option Addr) (len cap : Nat) (LL : List (List Sd)) (vs : List Value) (xa : Option Addr) (xc : Nat) (X : List Sd) (Bb : Nat) (w : World) (hl : LIn w a len LL vs) (hx : SIn w xa X.length X) (hcx : w.cell? ⟨Bb, 0, none⟩ = some (.slice xa X.length xc)) (hlt : Bb < w.heap.size) :
    Calls Try.prog 47 #[.slice a len cap, .func (.func 31) #[] #[.pointer (some ⟨Bb, 0, none⟩)]] w fun e w' => (∃ i : Int, e = .returned (.int .i64 i) ∧ decide (0 ≤ i) = LL.any (underL X)) ∧ Below w.heap.size w w' := by
  have H := Lib.hid hl
  have HL := Lib.hid hl.leng
  have hsm := hl.small
  have eg : ∀ args w, (callFunc 31 args).run Try.prog w = .ok (.enter 31 args) w := enters_of Try.func31 (by kernel_rfl) rfl
  have HC := Lib.hid (fun (y : Option Addr) (cy : Nat) (Y : List Sd) w1 (hy : SIn w1 y Y.length Y) (k : Below w.heap.size w w1) => above_calls xa y xc cy X Y Bb w1 (hx.below k) hy ((k.cell (p := ⟨Bb, 0, none⟩) hlt).trans hcx) (Nat.lt_of_lt_of_le hlt k.size))
  clear hl hx hcx
  go_enter Try.func47, Try.ntmps47
  go_wp2_with fail
  go_loopw [8] (fun i wr => ∃ (n : Nat), n ≤ len ∧ i = .int .i64 n ∧ Hid (LL.any (underL X) = (LL.drop n).any (underL X)) ∧ Hid (Below w.heap.size w wr)) (fun i _ => len - (intOf i).toNat)
  case atStart => exact ⟨0, Nat.zero_le _, rfl, Lib.hid rfl, Lib.hid (Below.refl _ _)⟩
  case round =>
    obtain ⟨n, hn, rfl, HX, HB⟩ := hrel
    by_cases h : n < len
    case neg =>
      obtain rfl : n = len := by omega
      have HE : Hid (LL.any (underL X) = false) := Lib.hid (by rw [HX.out, List.drop_eq_nil_iff.2 (by rw [HL.out]; exact Nat.le_refl _)]; rfl)
      go_wp2_with fail
      go_ret
      exact ⟨⟨-1, rfl, by rw [HE.out]; rfl⟩, HB.out⟩
    case pos =>
      obtain ⟨g, off, ya, yc, rfl, hc, hy⟩ := H.out.at' HB.out h
      have HD := Lib.hid (dropL_at LL n (by rw [HL.out]; exact h))
      generalize LL.getD n [] = Y at hc hy HD
      have H1 := Lib.hid (HC.out ya yc Y _ hy HB.out)
      clear hy
      cases e : underL X Y
      · have HX2 : Hid (LL.any (underL X) = (LL.drop (n + 1)).any (underL X)) := Lib.hid (by rw [HX.out, HD.out, List.any_cons, e]; rfl)
        rw [e] at H1
        clear e
        go_wp2_with fail
        refine H1.out.mono ?_
        rintro e w1 ⟨rfl, k1⟩
        have HB1 := Lib.hid (HB.out.trans (k1.mono HB.out.size))
        clear k1
        go_wp2_with fail
        go_roundw
        case rel => exact ⟨n + 1, by omega, by go_num, HX2, HB1⟩
        case measure => simp [intOf]; omega
      · have HE : Hid (LL.any (underL X) = true) := Lib.hid (by rw [HX.out, HD.out, List.any_cons, e]; rfl)
        rw [e] at H1
        clear e
        go_wp2_with fail
        refine H1.out.mono ?_
        rintro e w1 ⟨rfl, k1⟩
        have HB1 := Lib.hid (HB.out.trans (k1.mono HB.out.size))
        clear k1
        go_wp2_with fail
        go_ret
        exact ⟨⟨n, rfl, by rw [HE.out]; exact decide_eq_true (by omega)⟩, HB1.out⟩
set_option maxHeartbeats 400000 in
theorem anyL_calls (a : Option Addr) (len cap : Nat) (LL : List (List Sd)) (vs : List Value) (xa : Option Addr) (xc : Nat) (X : List Sd) (Bb : Nat) (w : World) (hl : LIn w a len LL vs) (hx : SIn w xa X.length X) (hcx : w.cell? ⟨Bb, 0, none⟩ = some (.slice xa X.length xc)) (hlt : Bb < w.heap.size) :
    Calls Try.prog 32 #[.slice a len cap, .func (.func 31) #[] #[.pointer (some ⟨Bb, 0, none⟩)]] w fun e w' => e = .returned (.bool (LL.any (underL X))) ∧ Below w.heap.size w w' := by
  have HC := Lib.hid (indexL_calls a len cap LL vs xa xc X Bb w hl hx hcx hlt)
  clear hl hx hcx
  go_enter Try.func32, Try.ntmps32
  go_wp2_with fail
  refine HC.out.mono ?_
  rintro e w1 ⟨⟨i, rfl, hi⟩, k1⟩
  have HI := Lib.hid hi
  clear hi
  go_wp2_with fail
  go_ret
  exact ⟨by rw [← HI.out]; rfl, k1⟩
end Go.Proofs.Ytjohiehlnbgdaaa
