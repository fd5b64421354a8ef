/- What schema.faultsOf makes, and what its four closures answer. -/
import Derived.Test.YtpinjocnmdnmiaaDoorScDecl
import Derived.OwnWalk
namespace Go.Proofs.YtpinjocnmdnmiaaDoor
open Go.RowKit
set_option linter.unusedVariables false

/-- The faults that schema.faultsOf makes, with the list in a block of its own. -/
def faultsV (B : Nat) : Array Value := #[.int .i64 11, .func (.func 30) #[] #[.pointer (some ⟨B, 0, none⟩)], .int .i64 10, .func (.func 31) #[] #[.pointer (some ⟨B, 0, none⟩)], .int .i64 14, .func (.func 32) #[] #[.pointer (some ⟨B, 0, none⟩)], .int .i64 8, .func (.func 33) #[] #[.pointer (some ⟨B, 0, none⟩)]]
set_option maxHeartbeats 1000000 in
theorem faultsOf_calls (a : Option Addr) (len cap : Nat) (w : World) :
    Calls Tryd.prog 24 #[.slice a len cap] w fun e w' => e = .returned (.slice (some ⟨w.heap.size + 1, 0, none⟩) 4 4) ∧ w' = (w.alloc (.cells #[.slice a len cap] 26)).alloc (.cells (faultsV w.heap.size) 48) := by
  go_enter Tryd.func24, Tryd.ntmps24
  go_wp2_with fail
  go_ret
  exact ⟨rfl, rfl⟩

set_option maxHeartbeats 1000000 in
theorem fault1_calls (a : Option Addr) (len cap : Nat) (L : List Dc) (Bb n : Nat) (w : World) (h : DIn w a len L) (hc : w.cell? ⟨Bb, 0, none⟩ = some (.slice a len cap)) (hn : n < len) (hw : Wds w) :
    Calls Tryd.prog 30 #[.int .i64 n, .pointer (some ⟨Bb, 0, none⟩)] w fun e w' => e = .returned (.bool (!nameB (nmAt L n))) ∧ w = w' := by
  obtain ⟨g, off, b, c, rfl, hg, h1, h2, h3, h4⟩ := h.at' n hn
  have hsm := h.small
  have H1 := Lib.hid (scName_calls (nmAt L n) w h4 hw)
  clear h h2 h3 h4 hw
  generalize nmAt L n = y at h1 H1
  generalize nameB y = r at H1
  go_enter Tryd.func30, Tryd.ntmps30
  go_wp2_with fail
  refine H1.out.mono ?_
  rintro e w1 ⟨rfl, rfl⟩
  go_wp2_with fail
  go_ret
  exact ⟨rfl, rfl⟩
set_option maxHeartbeats 1000000 in
theorem fault2_calls (a : Option Addr) (len cap : Nat) (L : List Dc) (Bb n : Nat) (w : World) (h : DIn w a len L) (hc : w.cell? ⟨Bb, 0, none⟩ = some (.slice a len cap)) (hn : n < len) (hlc : len ≤ cap) (hcm : cap ≤ 9223372036854775807) :
    Calls Tryd.prog 31 #[.int .i64 n, .pointer (some ⟨Bb, 0, none⟩)] w fun e w' => e = .returned (.bool (findB (L.take n) (nmAt L n))) ∧ Below w.heap.size w w' := by
  obtain ⟨g, off, b, c, rfl, hg, h1, h2, h3, h4⟩ := h.at' n hn
  have hT := h.take (Nat.le_of_lt hn)
  have HC := Lib.hid (fun y w1 (h1 : DIn w1 (some ⟨g, off, none⟩) n (L.take n)) => (scFind_calls (some ⟨g, off, none⟩) n cap (L.take n) y w1 h1).mono (fun e w' he => (⟨he.1, he.2.symm⟩ : e = .returned (.tuple #[.int .i64 (findI (L.take n) y), .bool (findB (L.take n) y)]) ∧ w' = w1)))
  have HD : Hid (∀ k, DIn (w.drewN k) (some ⟨g, off, none⟩) n (L.take n)) := Lib.hid (fun k => hT.below (below_drewN (Below.refl _ _) k))
  have hn0 : n ≤ cap := by omega
  have hsm := h.small
  clear h h2 h3 h4 hT
  generalize nmAt L n = y at h1
  go_enter Tryd.func31, Tryd.ntmps31
  go_wp2_with fail
  go_quiet ((go_at_call 18; exact Calls.quiet_of_same (HC.out _ _ (HD.out _))))
  all_goals (go_wp2_with fail)
  go_ret
  exact ⟨rfl, below_drewN (Below.refl _ _) _⟩
set_option maxHeartbeats 1000000 in
theorem fault3_calls (a : Option Addr) (len cap : Nat) (L : List Dc) (Bb n : Nat) (w : World) (h : DIn w a len L) (hc : w.cell? ⟨Bb, 0, none⟩ = some (.slice a len cap)) (hn : n < len) :
    Calls Tryd.prog 32 #[.int .i64 n, .pointer (some ⟨Bb, 0, none⟩)] w fun e w' => e = .returned (.bool (decide (8 < (ksAt L n).length))) ∧ w = w' := by
  obtain ⟨g, off, b, c, rfl, hg, h1, h2, h3, h4⟩ := h.at' n hn
  have hsm := h.small
  have hk := h3.small
  clear h h1 h3 h4
  generalize (ksAt L n).length = m at h2 hk
  go_enter Tryd.func32, Tryd.ntmps32
  go_wp2_with fail
  go_ret
  refine ⟨?_, rfl⟩
  rw [show decide (8 < m) = decide ((8 : Int) < (m : Int)) by rw [decide_eq_decide]; omega]
  rfl
set_option maxHeartbeats 1000000 in
theorem fault4_calls (a : Option Addr) (len cap : Nat) (L : List Dc) (Bb n : Nat) (w : World) (h : DIn w a len L) (hc : w.cell? ⟨Bb, 0, none⟩ = some (.slice a len cap)) (hn : n < len) :
    Calls Tryd.prog 33 #[.int .i64 n, .pointer (some ⟨Bb, 0, none⟩)] w fun e w' => e = .returned (.bool ((ksAt L n).any noKind)) ∧ w = w' := by
  obtain ⟨g, off, b, c, rfl, hg, h1, h2, h3, h4⟩ := h.at' n hn
  have hsm := h.small
  have hk := h3.small
  have H1 := Lib.hid (scContains_calls b (ksAt L n).length c (ksAt L n) w h3)
  clear h h1 h3 h4
  generalize (ksAt L n).length = m at h2 hk H1
  generalize (ksAt L n).any noKind = r at H1
  go_enter Tryd.func33, Tryd.ntmps33
  go_wp2_with fail
  refine H1.out.mono ?_
  rintro e w1 ⟨rfl, rfl⟩
  go_wp2_with fail
  go_ret
  exact ⟨rfl, rfl⟩
end Go.Proofs.YtpinjocnmdnmiaaDoor
