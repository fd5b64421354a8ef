/- What the laws' own helpers on values say: few, awake, and what the rows' list gives. -/
import Derived.Test.YtmpoloninpakbaaDoorValParse
import Derived.Test.YtmpoloninpakbaaDoorValText
import Derived.Test.YtmpoloninpakbaaDoorQuoteLaid
import Derived.Deep.RegionHeld3
namespace Go.Proofs.YtmpoloninpakbaaDoor
open Go.RowKit
set_option linter.unusedVariables false

set_option maxHeartbeats 400000 in
theorem few_calls (k i : Int) (s : ByteArray) (b : Bool) (w : World) (hs : s.size ≤ 9223372036854775807) :
    Calls Tryd.prog 7 #[.agg #[.int .i64 k, .int .i64 i, .string s, .bool b]] w fun e w' => e = .returned (.bool (decide ((s.size : Int) ≤ 5000))) ∧ Below w.heap.size w w' := by
  go_enter Tryd.func7, Tryd.ntmps7
  go_wp2
  go_ret
  refine ⟨rfl, ?_⟩
  repeat' (first | exact Below.refl _ _ | refine Below.alloc ?_ (by simp <;> omega) _)

set_option maxHeartbeats 400000 in
theorem vKindBool_calls (w : World) :
    Calls Tryd.prog 21 #[.string ⟨#[98, 111, 111, 108]⟩] w fun e w' => e = .returned (.int .i64 3) ∧ w = w' := by
  go_enter Tryd.func21, Tryd.ntmps21
  go_wp2
  go_ret
  exact ⟨rfl, rfl⟩

theorem itoa5 : Lib.itoa 5 = [53] := by decide +kernel
theorem right5 : rightB 1 5 ⟨#[]⟩ false = true := by simp [rightB, ByteArray.toList_eq]
theorem quote5 : quoteL [53] = [34, 53, 34] := by decide
theorem parsed5 : (parsedV [34, 53, 34]).val = .tuple #[.agg #[.int .i64 2, .int .i64 0, .string ⟨#[53]⟩, .bool false], .int .i64 0] := by
  rw [← quote5, parsed_str rfl, unq_quote]; rfl
theorem text5 : valText 1 5 ⟨#[]⟩ false = [53] := by rw [valText1 right5, itoa5]
theorem eq5 (w : World) : (Op.equalIn 10000 23 (.agg #[.int .i64 2, .int .i64 0, .string ⟨#[53]⟩, .bool false]) (.agg #[.int .i64 2, .int .i64 0, .string ⟨#[53]⟩, .bool false])).run Tryd.prog w = .ok true w := by
  rw [eqIn, (eqB_iff _ _ _ _ _ _ _ _).2 ⟨rfl, rfl, rfl, rfl⟩]

set_option maxHeartbeats 1000000 in
theorem awake_calls (w : World) (hL : Laid w) :
    Calls Tryd.prog 8 #[] w fun e w' => e = .returned (.bool true) ∧ Below w.heap.size w w' := by
  have h1 := vParse_calls ⟨#[34, 53, 34]⟩ w (by show 3 ≤ _; omega) hL
  rw [show (⟨#[34, 53, 34]⟩ : ByteArray).data.toList = [34, 53, 34] from rfl, parsed5] at h1
  have h2 := fun w1 (h : Laid w1) => vText_calls 1 5 ⟨#[]⟩ false w1 ⟨by omega, by omega⟩ (by show 0 ≤ _; omega) h
  rw [text5] at h2
  have H1 := Lib.hid h1
  have H2 := Lib.hid h2
  have HL := Lib.hid (fun w1 (hb : Below w.heap.size w w1) => hL.below hb)
  have H3 := Lib.hid (fun w1 => vInt_calls 5 w1)
  have H4 := Lib.hid (fun w1 => vStr_calls ⟨#[53]⟩ w1)
  have H5 := Lib.hid (fun w1 => vKindBool_calls w1)
  have q1 := eq5
  have q2 := guardV
  clear h1 h2 hL
  go_enter Tryd.func8, Tryd.ntmps8
  go_wp2_with fail
  refine H1.out.mono ?_
  rintro e w1 ⟨rfl, k1⟩
  have HK := Lib.hid k1
  have HB := Lib.hid (Boxed.new 2 0 ⟨#[53]⟩ false w1 23)
  have HA := Lib.hid (k1.alloc k1.size (.cells #[.int .i64 2, .int .i64 0, .string ⟨#[53]⟩, .bool false] 23))
  clear k1
  go_wp2_with fail
  go_region_held3 (fun w2 => w2.cell? ⟨w1.heap.size, 0, none⟩ = some (.int .i64 2) ∧ w2.cell? ⟨w1.heap.size, 1, none⟩ = some (.int .i64 0) ∧ w2.cell? ⟨w1.heap.size, 2, none⟩ = some (.string ⟨#[53]⟩) ∧ w2.cell? ⟨w1.heap.size, 3, none⟩ = some (.bool false)) (first | exact HB4.out | exact HB3.out | exact HB2.out | exact HB.out) (first
    | (go_at_call 19; refine (H3.out _).mono ?_; rintro e w2 ⟨rfl, k2⟩; have HB2 := Lib.hid (HB.out.drew.below k2 (by simp)); have HS2 : Hid (w1.heap.size < w2.heap.size) := Lib.hid (by have := k2.size; simp at this; omega); have HK2 := Lib.hid (HA.out.drew.trans (k2.mono HA.out.size)); clear k2)
    | (go_at_call 11; refine (H2.out _ (HL.out _ HK2.out)).mono ?_; rintro e w3 ⟨rfl, k3⟩; have HB3 := Lib.hid (HB2.out.below k3 HS2.out); have HS3 : Hid (w1.heap.size < w3.heap.size) := Lib.hid (by have := k3.size; have := HS2.out; omega); have HK3 := Lib.hid (HK2.out.trans (k3.mono HK2.out.size)); clear k3)
    | (go_at_call 20; refine (H4.out _).mono ?_; rintro e w4 ⟨rfl, k4⟩; have HB4 := Lib.hid (HB3.out.below k4 HS3.out); have HK4 := Lib.hid (HK3.out.trans (k4.mono HK3.out.size)); clear k4)
    | (go_at_call 21; refine (H5.out _).mono ?_; rintro e w5 ⟨rfl, rfl⟩))
  all_goals (go_wp2_with fail)
  all_goals go_ret
  all_goals exact ⟨rfl, HK4.out⟩
end Go.Proofs.YtmpoloninpakbaaDoor
