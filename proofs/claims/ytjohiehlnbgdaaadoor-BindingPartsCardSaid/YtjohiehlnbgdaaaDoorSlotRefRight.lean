/- Which bindings may be: the reference's Right. -/
import Derived.Test.YtjohiehlnbgdaaaDoorSlotRight
namespace Go.Proofs.YtjohiehlnbgdaaaDoor
open Go.RowKit
set_option linter.unusedVariables false

set_option maxHeartbeats 4000000 in
set_option maxRecDepth 100000 in
theorem refRight_calls (a : Option Addr) (len cap : Nat) (L : List Sd) (w : World) (hs : SIn w a len L) :
    Calls Tryd.prog 23 #[.slice a len cap] w fun e w' => e = .returned (.bool (rightL L)) ∧ Below w.heap.size w w' := by
  have H := Lib.hid hs
  have HL := Lib.hid hs.leng
  have hsm := hs.small
  have HC := Lib.hid (fun (v : Vd) (h : v.s.size ≤ 9223372036854775807) w1 => refVRight_calls v.k v.i v.s v.b w1 h)
  clear hs
  go_enter Tryd.func23, Tryd.ntmps23
  go_wp2_with fail
  go_loopw [3] (fun i wr => ∃ (n : Nat) (lo : Int), n ≤ len ∧ i = .int .i64 n ∧ 0 ≤ lo ∧ Hid ((n = 0 → lo = 0) ∧ ∀ m, n = m + 1 → lo = (L.getD m default).x + 1) ∧ Hid (rightL L = rightFrom lo (L.drop n)) ∧ Hid (Below w.heap.size w wr)) (fun i _ => len - (intOf i).toNat)
  case atStart => exact ⟨0, 0, Nat.zero_le _, rfl, by omega, Lib.hid ⟨fun _ => rfl, fun m h => by omega⟩, Lib.hid rfl, Lib.hid (Below.refl _ _)⟩
  case round =>
    obtain ⟨n, lo, hn, rfl, hlo, HP, HG, HB⟩ := hrel
    by_cases h : n < len
    case neg =>
      obtain rfl : n = len := by omega
      have HX : Hid (rightL L = true) := Lib.hid (by rw [HG.out, List.drop_eq_nil_iff.2 (by rw [HL.out]; exact Nat.le_refl _)]; rfl)
      go_wp2_with fail
      go_ret
      exact ⟨by rw [HX.out]; rfl, HB.out⟩
    case pos =>
      have HNx : Hid ((n + 1 = 0 → (L.getD n default).x + 1 = 0) ∧ ∀ m, n + 1 = m + 1 → (L.getD n default).x + 1 = (L.getD m default).x + 1) := Lib.hid ⟨fun e => by omega, fun m e => by rw [show m = n by omega]⟩
      obtain ⟨g, off, rfl, hg, hc⟩ := H.out.at' HB.out h
      have hfit := H.out.fit h
      have HS := Lib.hid (right_step (n := n) (by rw [HL.out]; exact h) HG.out)
      have HQ : Hid (∀ m, n = m + 1 → LiesS g (off + m * 5) (L.getD m default) wr ∧ lo = (L.getD m default).x + 1) := Lib.hid (fun m e => by
        obtain ⟨g', off', e', _, hc'⟩ := H.out.at' HB.out (n := m) (by omega)
        cases e'
        exact ⟨hc', HP.out.2 m e⟩)
      generalize L.getD n default = z at hc HS hfit HNx
      have H1 := Lib.hid (HC.out z.v hfit.2.1)
      obtain ⟨hx1, hx2⟩ := hfit.1
      have HD := Lib.hid hc
      obtain ⟨c0, c1, c2, c3, c4⟩ := hc
      clear hfit
      by_cases k1 : z.x < 0
      · have HX : Hid (rightL L = false) := Lib.hid (by rw [HS.out]; exact rf1 (decide_eq_false (by omega)))
        have t1 : decide (z.x < 0) = true := decide_eq_true k1
        clear k1
        go_wp2_with fail
        refine wp_region_held_drew (S := (fun w1 => (w1.cell? ⟨g, off + n * 5, none⟩ = some (.int .i64 z.x) ∧ w1.cell? ⟨g, off + n * 5 + 1, none⟩ = some (.int .i64 z.v.k) ∧ w1.cell? ⟨g, off + n * 5 + 2, none⟩ = some (.int .i64 z.v.i) ∧ w1.cell? ⟨g, off + n * 5 + 3, none⟩ = some (.string z.v.s) ∧ w1.cell? ⟨g, off + n * 5 + 4, none⟩ = some (.bool z.v.b)))) (by kernel_rfl) (HD.out) (fun hH0 => ?_)
        refine wpAnyH_take (i := 0) (v := .slice (some ⟨g, off, none⟩) len cap) rfl (by kernel_rfl) (by kernel_rfl) (by kernel_rfl) (fun _ _ _ h => h) (Or.inl ⟨by kernel_rfl, fun wS hSw => by (try dsimp only at hSw); go_simp⟩) hH0 ?_
        refine wpAnyH_take (i := 1) (v := .int .i64 n) rfl (by kernel_rfl) (by kernel_rfl) (by kernel_rfl) (fun _ _ _ h => h) (Or.inl ⟨by kernel_rfl, fun wS hSw => by (try dsimp only at hSw); go_simp⟩) hH0 ?_
        refine wpAnyH_take (i := 2) (v := .pointer (some ⟨g, off + n * 5, none⟩)) rfl (by kernel_rfl) (by kernel_rfl) (by kernel_rfl) (fun _ _ _ h => h) (Or.inl ⟨by kernel_rfl, fun wS hSw => by (try dsimp only at hSw); go_simp⟩) hH0 ?_
        refine wpAnyH_take (i := 3) (v := .pointer (some ⟨g, off + n * 5, none⟩)) rfl (by kernel_rfl) (by kernel_rfl) (by kernel_rfl) (fun _ _ _ h => h) (Or.inl ⟨by kernel_rfl, fun wS hSw => by (try dsimp only at hSw); go_simp⟩) hH0 ?_
        refine wpAnyH_take (i := 4) (v := .int .i64 z.x) rfl (by kernel_rfl) (by kernel_rfl) (by kernel_rfl) (fun _ _ _ h => h) (Or.inl ⟨by kernel_rfl, fun wS hSw => by (try dsimp only at hSw); go_simp⟩) hH0 ?_
        refine wpAnyH_take (i := 5) (v := .bool true) rfl (by kernel_rfl) (by kernel_rfl) (by kernel_rfl) (fun _ _ _ h => h) (Or.inl ⟨by kernel_rfl, fun wS hSw => by (try dsimp only at hSw); go_simp⟩) hH0 ?_
        refine wpAnyH_take (i := 6) (v := .bool true) rfl (by kernel_rfl) (by kernel_rfl) (by kernel_rfl) (fun _ _ _ h => h) (Or.inl ⟨by kernel_rfl, fun wS hSw => by (try dsimp only at hSw); go_simp⟩) hH0 ?_
        refine wpAnyH_take (i := 7) (v := undef) rfl (by kernel_rfl) (by kernel_rfl) (by kernel_rfl) (fun _ _ _ h => h) (Or.inr ⟨by kernel_rfl, rfl⟩) hH0 ?_
        refine wpAnyH_take (i := 8) (v := undef) rfl (by kernel_rfl) (by kernel_rfl) (by kernel_rfl) (fun _ _ _ h => h) (Or.inr ⟨by kernel_rfl, rfl⟩) hH0 ?_
        refine wpAnyH_take (i := 9) (v := undef) rfl (by kernel_rfl) (by kernel_rfl) (by kernel_rfl) (fun _ _ _ h => h) (Or.inr ⟨by kernel_rfl, rfl⟩) hH0 ?_
        refine wpAnyH_take (i := 10) (v := undef) rfl (by kernel_rfl) (by kernel_rfl) (by kernel_rfl) (fun _ _ _ h => h) (Or.inr ⟨by kernel_rfl, rfl⟩) hH0 ?_
        refine wpAnyH_take (i := 11) (v := undef) rfl (by kernel_rfl) (by kernel_rfl) (by kernel_rfl) (fun _ _ _ h => h) (Or.inr ⟨by kernel_rfl, rfl⟩) hH0 ?_
        refine wpAnyH_take (i := 12) (v := undef) rfl (by kernel_rfl) (by kernel_rfl) (by kernel_rfl) (fun _ _ _ h => h) (Or.inr ⟨by kernel_rfl, rfl⟩) hH0 ?_
        refine wpAnyH_take (i := 13) (v := .bool true) rfl (by kernel_rfl) (by kernel_rfl) (by kernel_rfl) (fun _ _ _ h => h) (Or.inl ⟨by kernel_rfl, fun wS hSw => by (try dsimp only at hSw); go_simp⟩) hH0 ?_
        refine wpAnyH_take (i := 14) (v := .bool true) rfl (by kernel_rfl) (by kernel_rfl) (by kernel_rfl) (fun _ _ _ h => h) (Or.inl ⟨by kernel_rfl, fun wS hSw => by (try dsimp only at hSw); go_simp⟩) hH0 ?_
        refine wpAnyH_take (i := 15) (v := undef) rfl (by kernel_rfl) (by kernel_rfl) (by kernel_rfl) (fun _ _ _ h => h) (Or.inr ⟨by kernel_rfl, rfl⟩) hH0 ?_
        refine wpAnyH_take (i := 16) (v := undef) rfl (by kernel_rfl) (by kernel_rfl) (by kernel_rfl) (fun _ _ _ h => h) (Or.inr ⟨by kernel_rfl, rfl⟩) hH0 ?_
        refine wpAnyH_take (i := 17) (v := undef) rfl (by kernel_rfl) (by kernel_rfl) (by kernel_rfl) (fun _ _ _ h => h) (Or.inr ⟨by kernel_rfl, rfl⟩) hH0 ?_
        refine wpAnyH_take (i := 18) (v := undef) rfl (by kernel_rfl) (by kernel_rfl) (by kernel_rfl) (fun _ _ _ h => h) (Or.inr ⟨by kernel_rfl, rfl⟩) hH0 ?_
        refine wpAnyH_take (i := 19) (v := undef) rfl (by kernel_rfl) (by kernel_rfl) (by kernel_rfl) (fun _ _ _ h => h) (Or.inr ⟨by kernel_rfl, rfl⟩) hH0 ?_
        refine wpAnyH_take (i := 20) (v := undef) rfl (by kernel_rfl) (by kernel_rfl) (by kernel_rfl) (fun _ _ _ h => h) (Or.inr ⟨by kernel_rfl, rfl⟩) hH0 ?_
        refine wpAnyH_take (i := 21) (v := undef) rfl (by kernel_rfl) (by kernel_rfl) (by kernel_rfl) (fun _ _ _ h => h) (Or.inr ⟨by kernel_rfl, rfl⟩) hH0 ?_
        refine wpAnyH_take (i := 22) (v := .bool true) rfl (by kernel_rfl) (by kernel_rfl) (by kernel_rfl) (fun _ _ _ h => h) (Or.inl ⟨by kernel_rfl, fun wS hSw => by (try dsimp only at hSw); go_simp⟩) hH0 ?_
        refine wpAnyH_take (i := 23) (v := .bool true) rfl (by kernel_rfl) (by kernel_rfl) (by kernel_rfl) (fun _ _ _ h => h) (Or.inl ⟨by kernel_rfl, fun wS hSw => by (try dsimp only at hSw); go_simp⟩) hH0 ?_
        refine wpAnyH_take (i := 24) (v := undef) rfl (by kernel_rfl) (by kernel_rfl) (by kernel_rfl) (fun _ _ _ h => h) (Or.inr ⟨by kernel_rfl, rfl⟩) hH0 ?_
        refine wpAnyH_take (i := 25) (v := undef) rfl (by kernel_rfl) (by kernel_rfl) (by kernel_rfl) (fun _ _ _ h => h) (Or.inr ⟨by kernel_rfl, rfl⟩) hH0 ?_
        refine wpAnyH_take (i := 26) (v := undef) rfl (by kernel_rfl) (by kernel_rfl) (by kernel_rfl) (fun _ _ _ h => h) (Or.inr ⟨by kernel_rfl, rfl⟩) hH0 ?_
        refine wpAnyH_take (i := 27) (v := undef) rfl (by kernel_rfl) (by kernel_rfl) (by kernel_rfl) (fun _ _ _ h => h) (Or.inr ⟨by kernel_rfl, rfl⟩) hH0 ?_
        refine wpAnyH_take (i := 28) (v := undef) rfl (by kernel_rfl) (by kernel_rfl) (by kernel_rfl) (fun _ _ _ h => h) (Or.inr ⟨by kernel_rfl, rfl⟩) hH0 ?_
        refine wpAnyH_take (i := 29) (v := undef) rfl (by kernel_rfl) (by kernel_rfl) (by kernel_rfl) (fun _ _ _ h => h) (Or.inr ⟨by kernel_rfl, rfl⟩) hH0 ?_
        refine wpAnyH_take (i := 30) (v := undef) rfl (by kernel_rfl) (by kernel_rfl) (by kernel_rfl) (fun _ _ _ h => h) (Or.inr ⟨by kernel_rfl, rfl⟩) hH0 ?_
        refine wpAnyH_take (i := 31) (v := undef) rfl (by kernel_rfl) (by kernel_rfl) (by kernel_rfl) (fun _ _ _ h => h) (Or.inr ⟨by kernel_rfl, rfl⟩) hH0 ?_
        refine wpAnyH_take (i := 32) (v := undef) rfl (by kernel_rfl) (by kernel_rfl) (by kernel_rfl) (fun _ _ _ h => h) (Or.inr ⟨by kernel_rfl, rfl⟩) hH0 ?_
        refine wpAnyH_take (i := 33) (v := undef) rfl (by kernel_rfl) (by kernel_rfl) (by kernel_rfl) (fun _ _ _ h => h) (Or.inr ⟨by kernel_rfl, rfl⟩) hH0 ?_
        refine wpAnyH_take (i := 34) (v := undef) rfl (by kernel_rfl) (by kernel_rfl) (by kernel_rfl) (fun _ _ _ h => h) (Or.inr ⟨by kernel_rfl, rfl⟩) hH0 ?_
        refine wpAnyH_take (i := 35) (v := undef) rfl (by kernel_rfl) (by kernel_rfl) (by kernel_rfl) (fun _ _ _ h => h) (Or.inr ⟨by kernel_rfl, rfl⟩) hH0 ?_
        refine wpAnyH_take (i := 36) (v := undef) rfl (by kernel_rfl) (by kernel_rfl) (by kernel_rfl) (fun _ _ _ h => h) (Or.inr ⟨by kernel_rfl, rfl⟩) hH0 ?_
        refine wpAnyH_take (i := 37) (v := undef) rfl (by kernel_rfl) (by kernel_rfl) (by kernel_rfl) (fun _ _ _ h => h) (Or.inr ⟨by kernel_rfl, rfl⟩) hH0 ?_
        refine wpAnyH_take (i := 38) (v := undef) rfl (by kernel_rfl) (by kernel_rfl) (by kernel_rfl) (fun _ _ _ h => h) (Or.inr ⟨by kernel_rfl, rfl⟩) hH0 ?_
        refine wpAnyH_take (i := 39) (v := undef) rfl (by kernel_rfl) (by kernel_rfl) (by kernel_rfl) (fun _ _ _ h => h) (Or.inr ⟨by kernel_rfl, rfl⟩) hH0 ?_
        refine wpAnyH_take (i := 40) (v := .bool true) rfl (by kernel_rfl) (by kernel_rfl) (by kernel_rfl) (fun _ _ _ h => h) (Or.inl ⟨by kernel_rfl, fun wS hSw => by (try dsimp only at hSw); go_simp⟩) hH0 ?_
        refine wpAnyH_done (by kernel_rfl) ?_ _
        go_simp
        go_wp2_with fail
        go_ret
        exact ⟨by rw [HX.out]; rfl, HB.out.drew⟩
      have t1 : decide (z.x < 0) = false := decide_eq_false k1
      by_cases k2 : 7 < z.x
      · have HX : Hid (rightL L = false) := Lib.hid (by rw [HS.out]; exact rf2 (decide_eq_false (by omega)))
        have t2 : decide ((7 : Int) < z.x) = true := decide_eq_true k2
        clear k2
        go_wp2_with fail
        refine wp_region_held_drew (S := (fun w1 => (w1.cell? ⟨g, off + n * 5, none⟩ = some (.int .i64 z.x) ∧ w1.cell? ⟨g, off + n * 5 + 1, none⟩ = some (.int .i64 z.v.k) ∧ w1.cell? ⟨g, off + n * 5 + 2, none⟩ = some (.int .i64 z.v.i) ∧ w1.cell? ⟨g, off + n * 5 + 3, none⟩ = some (.string z.v.s) ∧ w1.cell? ⟨g, off + n * 5 + 4, none⟩ = some (.bool z.v.b)))) (by kernel_rfl) (HD.out) (fun hH0 => ?_)
        refine wpAnyH_take (i := 0) (v := .slice (some ⟨g, off, none⟩) len cap) rfl (by kernel_rfl) (by kernel_rfl) (by kernel_rfl) (fun _ _ _ h => h) (Or.inl ⟨by kernel_rfl, fun wS hSw => by (try dsimp only at hSw); go_simp⟩) hH0 ?_
        refine wpAnyH_take (i := 1) (v := .int .i64 n) rfl (by kernel_rfl) (by kernel_rfl) (by kernel_rfl) (fun _ _ _ h => h) (Or.inl ⟨by kernel_rfl, fun wS hSw => by (try dsimp only at hSw); go_simp⟩) hH0 ?_
        refine wpAnyH_take (i := 2) (v := .pointer (some ⟨g, off + n * 5, none⟩)) rfl (by kernel_rfl) (by kernel_rfl) (by kernel_rfl) (fun _ _ _ h => h) (Or.inl ⟨by kernel_rfl, fun wS hSw => by (try dsimp only at hSw); go_simp⟩) hH0 ?_
        refine wpAnyH_take (i := 3) (v := .pointer (some ⟨g, off + n * 5, none⟩)) rfl (by kernel_rfl) (by kernel_rfl) (by kernel_rfl) (fun _ _ _ h => h) (Or.inl ⟨by kernel_rfl, fun wS hSw => by (try dsimp only at hSw); go_simp⟩) hH0 ?_
        refine wpAnyH_take (i := 4) (v := .int .i64 z.x) rfl (by kernel_rfl) (by kernel_rfl) (by kernel_rfl) (fun _ _ _ h => h) (Or.inl ⟨by kernel_rfl, fun wS hSw => by (try dsimp only at hSw); go_simp⟩) hH0 ?_
        refine wpAnyH_take (i := 5) (v := .bool false) rfl (by kernel_rfl) (by kernel_rfl) (by kernel_rfl) (fun _ _ _ h => h) (Or.inl ⟨by kernel_rfl, fun wS hSw => by (try dsimp only at hSw); go_simp⟩) hH0 ?_
        refine wpAnyH_take (i := 6) (v := .bool false) rfl (by kernel_rfl) (by kernel_rfl) (by kernel_rfl) (fun _ _ _ h => h) (Or.inl ⟨by kernel_rfl, fun wS hSw => by (try dsimp only at hSw); go_simp⟩) hH0 ?_
        refine wpAnyH_take (i := 7) (v := .slice (some ⟨g, off, none⟩) len cap) rfl (by kernel_rfl) (by kernel_rfl) (by kernel_rfl) (fun _ _ _ h => h) (Or.inl ⟨by kernel_rfl, fun wS hSw => by (try dsimp only at hSw); go_simp⟩) hH0 ?_
        refine wpAnyH_take (i := 8) (v := .int .i64 n) rfl (by kernel_rfl) (by kernel_rfl) (by kernel_rfl) (fun _ _ _ h => h) (Or.inl ⟨by kernel_rfl, fun wS hSw => by (try dsimp only at hSw); go_simp⟩) hH0 ?_
        refine wpAnyH_take (i := 9) (v := .pointer (some ⟨g, off + n * 5, none⟩)) rfl (by kernel_rfl) (by kernel_rfl) (by kernel_rfl) (fun _ _ _ h => h) (Or.inl ⟨by kernel_rfl, fun wS hSw => by (try dsimp only at hSw); go_simp⟩) hH0 ?_
        refine wpAnyH_take (i := 10) (v := .pointer (some ⟨g, off + n * 5, none⟩)) rfl (by kernel_rfl) (by kernel_rfl) (by kernel_rfl) (fun _ _ _ h => h) (Or.inl ⟨by kernel_rfl, fun wS hSw => by (try dsimp only at hSw); go_simp⟩) hH0 ?_
        refine wpAnyH_take (i := 11) (v := .int .i64 z.x) rfl (by kernel_rfl) (by kernel_rfl) (by kernel_rfl) (fun _ _ _ h => h) (Or.inl ⟨by kernel_rfl, fun wS hSw => by (try dsimp only at hSw); go_simp⟩) hH0 ?_
        refine wpAnyH_take (i := 12) (v := .bool true) rfl (by kernel_rfl) (by kernel_rfl) (by kernel_rfl) (fun _ _ _ h => h) (Or.inl ⟨by kernel_rfl, fun wS hSw => by (try dsimp only at hSw); go_simp⟩) hH0 ?_
        refine wpAnyH_take (i := 13) (v := .bool true) rfl (by kernel_rfl) (by kernel_rfl) (by kernel_rfl) (fun _ _ _ h => h) (Or.inl ⟨by kernel_rfl, fun wS hSw => by (try dsimp only at hSw); go_simp⟩) hH0 ?_
        refine wpAnyH_take (i := 14) (v := .bool true) rfl (by kernel_rfl) (by kernel_rfl) (by kernel_rfl) (fun _ _ _ h => h) (Or.inl ⟨by kernel_rfl, fun wS hSw => by (try dsimp only at hSw); go_simp⟩) hH0 ?_
        refine wpAnyH_take (i := 15) (v := undef) rfl (by kernel_rfl) (by kernel_rfl) (by kernel_rfl) (fun _ _ _ h => h) (Or.inr ⟨by kernel_rfl, rfl⟩) hH0 ?_
        refine wpAnyH_take (i := 16) (v := undef) rfl (by kernel_rfl) (by kernel_rfl) (by kernel_rfl) (fun _ _ _ h => h) (Or.inr ⟨by kernel_rfl, rfl⟩) hH0 ?_
        refine wpAnyH_take (i := 17) (v := undef) rfl (by kernel_rfl) (by kernel_rfl) (by kernel_rfl) (fun _ _ _ h => h) (Or.inr ⟨by kernel_rfl, rfl⟩) hH0 ?_
        refine wpAnyH_take (i := 18) (v := undef) rfl (by kernel_rfl) (by kernel_rfl) (by kernel_rfl) (fun _ _ _ h => h) (Or.inr ⟨by kernel_rfl, rfl⟩) hH0 ?_
        refine wpAnyH_take (i := 19) (v := undef) rfl (by kernel_rfl) (by kernel_rfl) (by kernel_rfl) (fun _ _ _ h => h) (Or.inr ⟨by kernel_rfl, rfl⟩) hH0 ?_
        refine wpAnyH_take (i := 20) (v := undef) rfl (by kernel_rfl) (by kernel_rfl) (by kernel_rfl) (fun _ _ _ h => h) (Or.inr ⟨by kernel_rfl, rfl⟩) hH0 ?_
        refine wpAnyH_take (i := 21) (v := undef) rfl (by kernel_rfl) (by kernel_rfl) (by kernel_rfl) (fun _ _ _ h => h) (Or.inr ⟨by kernel_rfl, rfl⟩) hH0 ?_
        refine wpAnyH_take (i := 22) (v := .bool true) rfl (by kernel_rfl) (by kernel_rfl) (by kernel_rfl) (fun _ _ _ h => h) (Or.inl ⟨by kernel_rfl, fun wS hSw => by (try dsimp only at hSw); go_simp⟩) hH0 ?_
        refine wpAnyH_take (i := 23) (v := .bool true) rfl (by kernel_rfl) (by kernel_rfl) (by kernel_rfl) (fun _ _ _ h => h) (Or.inl ⟨by kernel_rfl, fun wS hSw => by (try dsimp only at hSw); go_simp⟩) hH0 ?_
        refine wpAnyH_take (i := 24) (v := undef) rfl (by kernel_rfl) (by kernel_rfl) (by kernel_rfl) (fun _ _ _ h => h) (Or.inr ⟨by kernel_rfl, rfl⟩) hH0 ?_
        refine wpAnyH_take (i := 25) (v := undef) rfl (by kernel_rfl) (by kernel_rfl) (by kernel_rfl) (fun _ _ _ h => h) (Or.inr ⟨by kernel_rfl, rfl⟩) hH0 ?_
        refine wpAnyH_take (i := 26) (v := undef) rfl (by kernel_rfl) (by kernel_rfl) (by kernel_rfl) (fun _ _ _ h => h) (Or.inr ⟨by kernel_rfl, rfl⟩) hH0 ?_
        refine wpAnyH_take (i := 27) (v := undef) rfl (by kernel_rfl) (by kernel_rfl) (by kernel_rfl) (fun _ _ _ h => h) (Or.inr ⟨by kernel_rfl, rfl⟩) hH0 ?_
        refine wpAnyH_take (i := 28) (v := undef) rfl (by kernel_rfl) (by kernel_rfl) (by kernel_rfl) (fun _ _ _ h => h) (Or.inr ⟨by kernel_rfl, rfl⟩) hH0 ?_
        refine wpAnyH_take (i := 29) (v := undef) rfl (by kernel_rfl) (by kernel_rfl) (by kernel_rfl) (fun _ _ _ h => h) (Or.inr ⟨by kernel_rfl, rfl⟩) hH0 ?_
        refine wpAnyH_take (i := 30) (v := undef) rfl (by kernel_rfl) (by kernel_rfl) (by kernel_rfl) (fun _ _ _ h => h) (Or.inr ⟨by kernel_rfl, rfl⟩) hH0 ?_
        refine wpAnyH_take (i := 31) (v := undef) rfl (by kernel_rfl) (by kernel_rfl) (by kernel_rfl) (fun _ _ _ h => h) (Or.inr ⟨by kernel_rfl, rfl⟩) hH0 ?_
        refine wpAnyH_take (i := 32) (v := undef) rfl (by kernel_rfl) (by kernel_rfl) (by kernel_rfl) (fun _ _ _ h => h) (Or.inr ⟨by kernel_rfl, rfl⟩) hH0 ?_
        refine wpAnyH_take (i := 33) (v := undef) rfl (by kernel_rfl) (by kernel_rfl) (by kernel_rfl) (fun _ _ _ h => h) (Or.inr ⟨by kernel_rfl, rfl⟩) hH0 ?_
        refine wpAnyH_take (i := 34) (v := undef) rfl (by kernel_rfl) (by kernel_rfl) (by kernel_rfl) (fun _ _ _ h => h) (Or.inr ⟨by kernel_rfl, rfl⟩) hH0 ?_
        refine wpAnyH_take (i := 35) (v := undef) rfl (by kernel_rfl) (by kernel_rfl) (by kernel_rfl) (fun _ _ _ h => h) (Or.inr ⟨by kernel_rfl, rfl⟩) hH0 ?_
        refine wpAnyH_take (i := 36) (v := undef) rfl (by kernel_rfl) (by kernel_rfl) (by kernel_rfl) (fun _ _ _ h => h) (Or.inr ⟨by kernel_rfl, rfl⟩) hH0 ?_
        refine wpAnyH_take (i := 37) (v := undef) rfl (by kernel_rfl) (by kernel_rfl) (by kernel_rfl) (fun _ _ _ h => h) (Or.inr ⟨by kernel_rfl, rfl⟩) hH0 ?_
        refine wpAnyH_take (i := 38) (v := undef) rfl (by kernel_rfl) (by kernel_rfl) (by kernel_rfl) (fun _ _ _ h => h) (Or.inr ⟨by kernel_rfl, rfl⟩) hH0 ?_
        refine wpAnyH_take (i := 39) (v := undef) rfl (by kernel_rfl) (by kernel_rfl) (by kernel_rfl) (fun _ _ _ h => h) (Or.inr ⟨by kernel_rfl, rfl⟩) hH0 ?_
        refine wpAnyH_take (i := 40) (v := .bool true) rfl (by kernel_rfl) (by kernel_rfl) (by kernel_rfl) (fun _ _ _ h => h) (Or.inl ⟨by kernel_rfl, fun wS hSw => by (try dsimp only at hSw); go_simp⟩) hH0 ?_
        refine wpAnyH_done (by kernel_rfl) ?_ _
        go_simp
        go_wp2_with fail
        go_ret
        exact ⟨by rw [HX.out]; rfl, HB.out.drew⟩
      have t2 : decide ((7 : Int) < z.x) = false := decide_eq_false k2
      cases hr : rightB z.v.k z.v.i z.v.s z.v.b
      · have HX : Hid (rightL L = false) := Lib.hid (by rw [HS.out]; exact rf3 hr)
        rw [hr] at H1
        clear hr k1 k2
        go_wp2_with fail
        refine wp_region_held_drew (S := (fun w1 => (w1.cell? ⟨g, off + n * 5, none⟩ = some (.int .i64 z.x) ∧ w1.cell? ⟨g, off + n * 5 + 1, none⟩ = some (.int .i64 z.v.k) ∧ w1.cell? ⟨g, off + n * 5 + 2, none⟩ = some (.int .i64 z.v.i) ∧ w1.cell? ⟨g, off + n * 5 + 3, none⟩ = some (.string z.v.s) ∧ w1.cell? ⟨g, off + n * 5 + 4, none⟩ = some (.bool z.v.b)))) (by kernel_rfl) (HD.out) (fun hH0 => ?_)
        refine wpAnyH_take (i := 0) (v := .slice (some ⟨g, off, none⟩) len cap) rfl (by kernel_rfl) (by kernel_rfl) (by kernel_rfl) (fun _ _ _ h => h) (Or.inl ⟨by kernel_rfl, fun wS hSw => by (try dsimp only at hSw); go_simp⟩) hH0 ?_
        refine wpAnyH_take (i := 1) (v := .int .i64 n) rfl (by kernel_rfl) (by kernel_rfl) (by kernel_rfl) (fun _ _ _ h => h) (Or.inl ⟨by kernel_rfl, fun wS hSw => by (try dsimp only at hSw); go_simp⟩) hH0 ?_
        refine wpAnyH_take (i := 2) (v := .pointer (some ⟨g, off + n * 5, none⟩)) rfl (by kernel_rfl) (by kernel_rfl) (by kernel_rfl) (fun _ _ _ h => h) (Or.inl ⟨by kernel_rfl, fun wS hSw => by (try dsimp only at hSw); go_simp⟩) hH0 ?_
        refine wpAnyH_take (i := 3) (v := .pointer (some ⟨g, off + n * 5, none⟩)) rfl (by kernel_rfl) (by kernel_rfl) (by kernel_rfl) (fun _ _ _ h => h) (Or.inl ⟨by kernel_rfl, fun wS hSw => by (try dsimp only at hSw); go_simp⟩) hH0 ?_
        refine wpAnyH_take (i := 4) (v := .int .i64 z.x) rfl (by kernel_rfl) (by kernel_rfl) (by kernel_rfl) (fun _ _ _ h => h) (Or.inl ⟨by kernel_rfl, fun wS hSw => by (try dsimp only at hSw); go_simp⟩) hH0 ?_
        refine wpAnyH_take (i := 5) (v := .bool false) rfl (by kernel_rfl) (by kernel_rfl) (by kernel_rfl) (fun _ _ _ h => h) (Or.inl ⟨by kernel_rfl, fun wS hSw => by (try dsimp only at hSw); go_simp⟩) hH0 ?_
        refine wpAnyH_take (i := 6) (v := .bool false) rfl (by kernel_rfl) (by kernel_rfl) (by kernel_rfl) (fun _ _ _ h => h) (Or.inl ⟨by kernel_rfl, fun wS hSw => by (try dsimp only at hSw); go_simp⟩) hH0 ?_
        refine wpAnyH_take (i := 7) (v := .slice (some ⟨g, off, none⟩) len cap) rfl (by kernel_rfl) (by kernel_rfl) (by kernel_rfl) (fun _ _ _ h => h) (Or.inl ⟨by kernel_rfl, fun wS hSw => by (try dsimp only at hSw); go_simp⟩) hH0 ?_
        refine wpAnyH_take (i := 8) (v := .int .i64 n) rfl (by kernel_rfl) (by kernel_rfl) (by kernel_rfl) (fun _ _ _ h => h) (Or.inl ⟨by kernel_rfl, fun wS hSw => by (try dsimp only at hSw); go_simp⟩) hH0 ?_
        refine wpAnyH_take (i := 9) (v := .pointer (some ⟨g, off + n * 5, none⟩)) rfl (by kernel_rfl) (by kernel_rfl) (by kernel_rfl) (fun _ _ _ h => h) (Or.inl ⟨by kernel_rfl, fun wS hSw => by (try dsimp only at hSw); go_simp⟩) hH0 ?_
        refine wpAnyH_take (i := 10) (v := .pointer (some ⟨g, off + n * 5, none⟩)) rfl (by kernel_rfl) (by kernel_rfl) (by kernel_rfl) (fun _ _ _ h => h) (Or.inl ⟨by kernel_rfl, fun wS hSw => by (try dsimp only at hSw); go_simp⟩) hH0 ?_
        refine wpAnyH_take (i := 11) (v := .int .i64 z.x) rfl (by kernel_rfl) (by kernel_rfl) (by kernel_rfl) (fun _ _ _ h => h) (Or.inl ⟨by kernel_rfl, fun wS hSw => by (try dsimp only at hSw); go_simp⟩) hH0 ?_
        refine wpAnyH_take (i := 12) (v := .bool false) rfl (by kernel_rfl) (by kernel_rfl) (by kernel_rfl) (fun _ _ _ h => h) (Or.inl ⟨by kernel_rfl, fun wS hSw => by (try dsimp only at hSw); go_simp⟩) hH0 ?_
        refine wpAnyH_take (i := 13) (v := .bool false) rfl (by kernel_rfl) (by kernel_rfl) (by kernel_rfl) (fun _ _ _ h => h) (Or.inl ⟨by kernel_rfl, fun wS hSw => by (try dsimp only at hSw); go_simp⟩) hH0 ?_
        refine wpAnyH_take (i := 14) (v := .bool false) rfl (by kernel_rfl) (by kernel_rfl) (by kernel_rfl) (fun _ _ _ h => h) (Or.inl ⟨by kernel_rfl, fun wS hSw => by (try dsimp only at hSw); go_simp⟩) hH0 ?_
        refine wpAnyH_take (i := 15) (v := .slice (some ⟨g, off, none⟩) len cap) rfl (by kernel_rfl) (by kernel_rfl) (by kernel_rfl) (fun _ _ _ h => h) (Or.inl ⟨by kernel_rfl, fun wS hSw => by (try dsimp only at hSw); go_simp⟩) hH0 ?_
        refine wpAnyH_take (i := 16) (v := .int .i64 n) rfl (by kernel_rfl) (by kernel_rfl) (by kernel_rfl) (fun _ _ _ h => h) (Or.inl ⟨by kernel_rfl, fun wS hSw => by (try dsimp only at hSw); go_simp⟩) hH0 ?_
        refine wpAnyH_take (i := 17) (v := .pointer (some ⟨g, off + n * 5, none⟩)) rfl (by kernel_rfl) (by kernel_rfl) (by kernel_rfl) (fun _ _ _ h => h) (Or.inl ⟨by kernel_rfl, fun wS hSw => by (try dsimp only at hSw); go_simp⟩) hH0 ?_
        refine wpAnyH_take (i := 18) (v := .pointer (some ⟨g, off + n * 5 + 1, none⟩)) rfl (by kernel_rfl) (by kernel_rfl) (by kernel_rfl) (fun _ _ _ h => h) (Or.inl ⟨by kernel_rfl, fun wS hSw => by (try dsimp only at hSw); go_simp⟩) hH0 ?_
        refine wpAnyH_take (i := 19) (v := .agg #[.int .i64 z.v.k, .int .i64 z.v.i, .string z.v.s, .bool z.v.b]) rfl (by kernel_rfl) (by kernel_rfl) (by kernel_rfl) (fun _ _ _ h => h) (Or.inl ⟨by kernel_rfl, fun wS hSw => by (try dsimp only at hSw); go_simp⟩) hH0 ?_
        refine wpAnyH_ready (rs := [20]) (by kernel_rfl) (by simp) ?_
        refine AllReadyH.cons rfl (fun K hK => ?_) AllReadyH.nil
        rw [if_pos (by kernel_rfl)]
        go_simp
        refine (H1.out _).mono ?_
        rintro e w1 ⟨rfl, kb⟩
        have HB3 := Lib.hid (HB.out.trans (((Below.refl wr.heap.size wr).drew.trans kb).mono HB.out.size))
        have HD2 := Lib.hid (HD.out.below ((Below.refl wr.heap.size wr).drew.trans kb) (Nat.lt_of_lt_of_le hg HB.out.size))
        clear kb
        refine hK.out _ _ (HD2.out) (fun hH1 => ?_)
        clear hK K
        refine wpAnyH_take (i := 21) (v := .bool true) rfl (by kernel_rfl) (by kernel_rfl) (by kernel_rfl) (fun _ _ _ h => h) (Or.inl ⟨by kernel_rfl, fun wS hSw => by (try dsimp only at hSw); go_simp⟩) hH1 ?_
        refine wpAnyH_take (i := 22) (v := .bool true) rfl (by kernel_rfl) (by kernel_rfl) (by kernel_rfl) (fun _ _ _ h => h) (Or.inl ⟨by kernel_rfl, fun wS hSw => by (try dsimp only at hSw); go_simp⟩) hH1 ?_
        refine wpAnyH_take (i := 23) (v := .bool true) rfl (by kernel_rfl) (by kernel_rfl) (by kernel_rfl) (fun _ _ _ h => h) (Or.inl ⟨by kernel_rfl, fun wS hSw => by (try dsimp only at hSw); go_simp⟩) hH1 ?_
        refine wpAnyH_take (i := 24) (v := undef) rfl (by kernel_rfl) (by kernel_rfl) (by kernel_rfl) (fun _ _ _ h => h) (Or.inr ⟨by kernel_rfl, rfl⟩) hH1 ?_
        refine wpAnyH_take (i := 25) (v := undef) rfl (by kernel_rfl) (by kernel_rfl) (by kernel_rfl) (fun _ _ _ h => h) (Or.inr ⟨by kernel_rfl, rfl⟩) hH1 ?_
        refine wpAnyH_take (i := 26) (v := undef) rfl (by kernel_rfl) (by kernel_rfl) (by kernel_rfl) (fun _ _ _ h => h) (Or.inr ⟨by kernel_rfl, rfl⟩) hH1 ?_
        refine wpAnyH_take (i := 27) (v := undef) rfl (by kernel_rfl) (by kernel_rfl) (by kernel_rfl) (fun _ _ _ h => h) (Or.inr ⟨by kernel_rfl, rfl⟩) hH1 ?_
        refine wpAnyH_take (i := 28) (v := undef) rfl (by kernel_rfl) (by kernel_rfl) (by kernel_rfl) (fun _ _ _ h => h) (Or.inr ⟨by kernel_rfl, rfl⟩) hH1 ?_
        refine wpAnyH_take (i := 29) (v := undef) rfl (by kernel_rfl) (by kernel_rfl) (by kernel_rfl) (fun _ _ _ h => h) (Or.inr ⟨by kernel_rfl, rfl⟩) hH1 ?_
        refine wpAnyH_take (i := 30) (v := undef) rfl (by kernel_rfl) (by kernel_rfl) (by kernel_rfl) (fun _ _ _ h => h) (Or.inr ⟨by kernel_rfl, rfl⟩) hH1 ?_
        refine wpAnyH_take (i := 31) (v := undef) rfl (by kernel_rfl) (by kernel_rfl) (by kernel_rfl) (fun _ _ _ h => h) (Or.inr ⟨by kernel_rfl, rfl⟩) hH1 ?_
        refine wpAnyH_take (i := 32) (v := undef) rfl (by kernel_rfl) (by kernel_rfl) (by kernel_rfl) (fun _ _ _ h => h) (Or.inr ⟨by kernel_rfl, rfl⟩) hH1 ?_
        refine wpAnyH_take (i := 33) (v := undef) rfl (by kernel_rfl) (by kernel_rfl) (by kernel_rfl) (fun _ _ _ h => h) (Or.inr ⟨by kernel_rfl, rfl⟩) hH1 ?_
        refine wpAnyH_take (i := 34) (v := undef) rfl (by kernel_rfl) (by kernel_rfl) (by kernel_rfl) (fun _ _ _ h => h) (Or.inr ⟨by kernel_rfl, rfl⟩) hH1 ?_
        refine wpAnyH_take (i := 35) (v := undef) rfl (by kernel_rfl) (by kernel_rfl) (by kernel_rfl) (fun _ _ _ h => h) (Or.inr ⟨by kernel_rfl, rfl⟩) hH1 ?_
        refine wpAnyH_take (i := 36) (v := undef) rfl (by kernel_rfl) (by kernel_rfl) (by kernel_rfl) (fun _ _ _ h => h) (Or.inr ⟨by kernel_rfl, rfl⟩) hH1 ?_
        refine wpAnyH_take (i := 37) (v := undef) rfl (by kernel_rfl) (by kernel_rfl) (by kernel_rfl) (fun _ _ _ h => h) (Or.inr ⟨by kernel_rfl, rfl⟩) hH1 ?_
        refine wpAnyH_take (i := 38) (v := undef) rfl (by kernel_rfl) (by kernel_rfl) (by kernel_rfl) (fun _ _ _ h => h) (Or.inr ⟨by kernel_rfl, rfl⟩) hH1 ?_
        refine wpAnyH_take (i := 39) (v := undef) rfl (by kernel_rfl) (by kernel_rfl) (by kernel_rfl) (fun _ _ _ h => h) (Or.inr ⟨by kernel_rfl, rfl⟩) hH1 ?_
        refine wpAnyH_take (i := 40) (v := .bool true) rfl (by kernel_rfl) (by kernel_rfl) (by kernel_rfl) (fun _ _ _ h => h) (Or.inl ⟨by kernel_rfl, fun wS hSw => by (try dsimp only at hSw); go_simp⟩) hH1 ?_
        refine wpAnyH_done (by kernel_rfl) ?_ _
        go_simp
        go_wp2_with fail
        go_ret
        exact ⟨by rw [HX.out]; rfl, HB3.out⟩
      rw [hr] at H1
      rcases Nat.eq_zero_or_pos n with hn0 | hn0
      · have HX : Hid (rightL L = rightFrom (z.x + 1) (L.drop (n + 1))) := Lib.hid (by rw [HS.out, HP.out.1 hn0]; exact rf4 (decide_eq_true (by omega)) (decide_eq_true (by omega)) hr)
        have t3 : decide ((0 : Int) < (n : Int)) = false := decide_eq_false (by omega)
        have HN0 := Lib.hid hn0
        clear hr hn0
        go_wp2_with fail
        refine wp_region_held_drew (S := (fun w1 => (w1.cell? ⟨g, off + n * 5, none⟩ = some (.int .i64 z.x) ∧ w1.cell? ⟨g, off + n * 5 + 1, none⟩ = some (.int .i64 z.v.k) ∧ w1.cell? ⟨g, off + n * 5 + 2, none⟩ = some (.int .i64 z.v.i) ∧ w1.cell? ⟨g, off + n * 5 + 3, none⟩ = some (.string z.v.s) ∧ w1.cell? ⟨g, off + n * 5 + 4, none⟩ = some (.bool z.v.b)))) (by kernel_rfl) (HD.out) (fun hH0 => ?_)
        refine wpAnyH_take (i := 0) (v := .slice (some ⟨g, off, none⟩) len cap) rfl (by kernel_rfl) (by kernel_rfl) (by kernel_rfl) (fun _ _ _ h => h) (Or.inl ⟨by kernel_rfl, fun wS hSw => by (try dsimp only at hSw); go_simp⟩) hH0 ?_
        refine wpAnyH_take (i := 1) (v := .int .i64 n) rfl (by kernel_rfl) (by kernel_rfl) (by kernel_rfl) (fun _ _ _ h => h) (Or.inl ⟨by kernel_rfl, fun wS hSw => by (try dsimp only at hSw); go_simp⟩) hH0 ?_
        refine wpAnyH_take (i := 2) (v := .pointer (some ⟨g, off + n * 5, none⟩)) rfl (by kernel_rfl) (by kernel_rfl) (by kernel_rfl) (fun _ _ _ h => h) (Or.inl ⟨by kernel_rfl, fun wS hSw => by (try dsimp only at hSw); go_simp⟩) hH0 ?_
        refine wpAnyH_take (i := 3) (v := .pointer (some ⟨g, off + n * 5, none⟩)) rfl (by kernel_rfl) (by kernel_rfl) (by kernel_rfl) (fun _ _ _ h => h) (Or.inl ⟨by kernel_rfl, fun wS hSw => by (try dsimp only at hSw); go_simp⟩) hH0 ?_
        refine wpAnyH_take (i := 4) (v := .int .i64 z.x) rfl (by kernel_rfl) (by kernel_rfl) (by kernel_rfl) (fun _ _ _ h => h) (Or.inl ⟨by kernel_rfl, fun wS hSw => by (try dsimp only at hSw); go_simp⟩) hH0 ?_
        refine wpAnyH_take (i := 5) (v := .bool false) rfl (by kernel_rfl) (by kernel_rfl) (by kernel_rfl) (fun _ _ _ h => h) (Or.inl ⟨by kernel_rfl, fun wS hSw => by (try dsimp only at hSw); go_simp⟩) hH0 ?_
        refine wpAnyH_take (i := 6) (v := .bool false) rfl (by kernel_rfl) (by kernel_rfl) (by kernel_rfl) (fun _ _ _ h => h) (Or.inl ⟨by kernel_rfl, fun wS hSw => by (try dsimp only at hSw); go_simp⟩) hH0 ?_
        refine wpAnyH_take (i := 7) (v := .slice (some ⟨g, off, none⟩) len cap) rfl (by kernel_rfl) (by kernel_rfl) (by kernel_rfl) (fun _ _ _ h => h) (Or.inl ⟨by kernel_rfl, fun wS hSw => by (try dsimp only at hSw); go_simp⟩) hH0 ?_
        refine wpAnyH_take (i := 8) (v := .int .i64 n) rfl (by kernel_rfl) (by kernel_rfl) (by kernel_rfl) (fun _ _ _ h => h) (Or.inl ⟨by kernel_rfl, fun wS hSw => by (try dsimp only at hSw); go_simp⟩) hH0 ?_
        refine wpAnyH_take (i := 9) (v := .pointer (some ⟨g, off + n * 5, none⟩)) rfl (by kernel_rfl) (by kernel_rfl) (by kernel_rfl) (fun _ _ _ h => h) (Or.inl ⟨by kernel_rfl, fun wS hSw => by (try dsimp only at hSw); go_simp⟩) hH0 ?_
        refine wpAnyH_take (i := 10) (v := .pointer (some ⟨g, off + n * 5, none⟩)) rfl (by kernel_rfl) (by kernel_rfl) (by kernel_rfl) (fun _ _ _ h => h) (Or.inl ⟨by kernel_rfl, fun wS hSw => by (try dsimp only at hSw); go_simp⟩) hH0 ?_
        refine wpAnyH_take (i := 11) (v := .int .i64 z.x) rfl (by kernel_rfl) (by kernel_rfl) (by kernel_rfl) (fun _ _ _ h => h) (Or.inl ⟨by kernel_rfl, fun wS hSw => by (try dsimp only at hSw); go_simp⟩) hH0 ?_
        refine wpAnyH_take (i := 12) (v := .bool false) rfl (by kernel_rfl) (by kernel_rfl) (by kernel_rfl) (fun _ _ _ h => h) (Or.inl ⟨by kernel_rfl, fun wS hSw => by (try dsimp only at hSw); go_simp⟩) hH0 ?_
        refine wpAnyH_take (i := 13) (v := .bool false) rfl (by kernel_rfl) (by kernel_rfl) (by kernel_rfl) (fun _ _ _ h => h) (Or.inl ⟨by kernel_rfl, fun wS hSw => by (try dsimp only at hSw); go_simp⟩) hH0 ?_
        refine wpAnyH_take (i := 14) (v := .bool false) rfl (by kernel_rfl) (by kernel_rfl) (by kernel_rfl) (fun _ _ _ h => h) (Or.inl ⟨by kernel_rfl, fun wS hSw => by (try dsimp only at hSw); go_simp⟩) hH0 ?_
        refine wpAnyH_take (i := 15) (v := .slice (some ⟨g, off, none⟩) len cap) rfl (by kernel_rfl) (by kernel_rfl) (by kernel_rfl) (fun _ _ _ h => h) (Or.inl ⟨by kernel_rfl, fun wS hSw => by (try dsimp only at hSw); go_simp⟩) hH0 ?_
        refine wpAnyH_take (i := 16) (v := .int .i64 n) rfl (by kernel_rfl) (by kernel_rfl) (by kernel_rfl) (fun _ _ _ h => h) (Or.inl ⟨by kernel_rfl, fun wS hSw => by (try dsimp only at hSw); go_simp⟩) hH0 ?_
        refine wpAnyH_take (i := 17) (v := .pointer (some ⟨g, off + n * 5, none⟩)) rfl (by kernel_rfl) (by kernel_rfl) (by kernel_rfl) (fun _ _ _ h => h) (Or.inl ⟨by kernel_rfl, fun wS hSw => by (try dsimp only at hSw); go_simp⟩) hH0 ?_
        refine wpAnyH_take (i := 18) (v := .pointer (some ⟨g, off + n * 5 + 1, none⟩)) rfl (by kernel_rfl) (by kernel_rfl) (by kernel_rfl) (fun _ _ _ h => h) (Or.inl ⟨by kernel_rfl, fun wS hSw => by (try dsimp only at hSw); go_simp⟩) hH0 ?_
        refine wpAnyH_take (i := 19) (v := .agg #[.int .i64 z.v.k, .int .i64 z.v.i, .string z.v.s, .bool z.v.b]) rfl (by kernel_rfl) (by kernel_rfl) (by kernel_rfl) (fun _ _ _ h => h) (Or.inl ⟨by kernel_rfl, fun wS hSw => by (try dsimp only at hSw); go_simp⟩) hH0 ?_
        refine wpAnyH_ready (rs := [20]) (by kernel_rfl) (by simp) ?_
        refine AllReadyH.cons rfl (fun K hK => ?_) AllReadyH.nil
        rw [if_pos (by kernel_rfl)]
        go_simp
        refine (H1.out _).mono ?_
        rintro e w1 ⟨rfl, kb⟩
        have HB3 := Lib.hid (HB.out.trans (((Below.refl wr.heap.size wr).drew.trans kb).mono HB.out.size))
        have HD2 := Lib.hid (HD.out.below ((Below.refl wr.heap.size wr).drew.trans kb) (Nat.lt_of_lt_of_le hg HB.out.size))
        clear kb
        refine hK.out _ _ (HD2.out) (fun hH1 => ?_)
        clear hK K
        refine wpAnyH_take (i := 21) (v := .bool false) rfl (by kernel_rfl) (by kernel_rfl) (by kernel_rfl) (fun _ _ _ h => h) (Or.inl ⟨by kernel_rfl, fun wS hSw => by (try dsimp only at hSw); go_simp⟩) hH1 ?_
        refine wpAnyH_take (i := 22) (v := .bool false) rfl (by kernel_rfl) (by kernel_rfl) (by kernel_rfl) (fun _ _ _ h => h) (Or.inl ⟨by kernel_rfl, fun wS hSw => by (try dsimp only at hSw); go_simp⟩) hH1 ?_
        refine wpAnyH_take (i := 23) (v := .bool false) rfl (by kernel_rfl) (by kernel_rfl) (by kernel_rfl) (fun _ _ _ h => h) (Or.inl ⟨by kernel_rfl, fun wS hSw => by (try dsimp only at hSw); go_simp⟩) hH1 ?_
        refine wpAnyH_take (i := 24) (v := .int .i64 n) rfl (by kernel_rfl) (by kernel_rfl) (by kernel_rfl) (fun _ _ _ h => h) (Or.inl ⟨by kernel_rfl, fun wS hSw => by (try dsimp only at hSw); go_simp⟩) hH1 ?_
        refine wpAnyH_take (i := 25) (v := .bool false) rfl (by kernel_rfl) (by kernel_rfl) (by kernel_rfl) (fun _ _ _ h => h) (Or.inl ⟨by kernel_rfl, fun wS hSw => by (try dsimp only at hSw); (first | (go_simp; done) | (go_simp; exact HN0.out))⟩) hH1 ?_
        refine wpAnyH_take (i := 26) (v := .bool false) rfl (by kernel_rfl) (by kernel_rfl) (by kernel_rfl) (fun _ _ _ h => h) (Or.inl ⟨by kernel_rfl, fun wS hSw => by (try dsimp only at hSw); go_simp⟩) hH1 ?_
        refine wpAnyH_take (i := 27) (v := undef) rfl (by kernel_rfl) (by kernel_rfl) (by kernel_rfl) (fun _ _ _ h => h) (Or.inr ⟨by kernel_rfl, rfl⟩) hH1 ?_
        refine wpAnyH_take (i := 28) (v := undef) rfl (by kernel_rfl) (by kernel_rfl) (by kernel_rfl) (fun _ _ _ h => h) (Or.inr ⟨by kernel_rfl, rfl⟩) hH1 ?_
        refine wpAnyH_take (i := 29) (v := undef) rfl (by kernel_rfl) (by kernel_rfl) (by kernel_rfl) (fun _ _ _ h => h) (Or.inr ⟨by kernel_rfl, rfl⟩) hH1 ?_
        refine wpAnyH_take (i := 30) (v := undef) rfl (by kernel_rfl) (by kernel_rfl) (by kernel_rfl) (fun _ _ _ h => h) (Or.inr ⟨by kernel_rfl, rfl⟩) hH1 ?_
        refine wpAnyH_take (i := 31) (v := undef) rfl (by kernel_rfl) (by kernel_rfl) (by kernel_rfl) (fun _ _ _ h => h) (Or.inr ⟨by kernel_rfl, rfl⟩) hH1 ?_
        refine wpAnyH_take (i := 32) (v := undef) rfl (by kernel_rfl) (by kernel_rfl) (by kernel_rfl) (fun _ _ _ h => h) (Or.inr ⟨by kernel_rfl, rfl⟩) hH1 ?_
        refine wpAnyH_take (i := 33) (v := undef) rfl (by kernel_rfl) (by kernel_rfl) (by kernel_rfl) (fun _ _ _ h => h) (Or.inr ⟨by kernel_rfl, rfl⟩) hH1 ?_
        refine wpAnyH_take (i := 34) (v := undef) rfl (by kernel_rfl) (by kernel_rfl) (by kernel_rfl) (fun _ _ _ h => h) (Or.inr ⟨by kernel_rfl, rfl⟩) hH1 ?_
        refine wpAnyH_take (i := 35) (v := undef) rfl (by kernel_rfl) (by kernel_rfl) (by kernel_rfl) (fun _ _ _ h => h) (Or.inr ⟨by kernel_rfl, rfl⟩) hH1 ?_
        refine wpAnyH_take (i := 36) (v := undef) rfl (by kernel_rfl) (by kernel_rfl) (by kernel_rfl) (fun _ _ _ h => h) (Or.inr ⟨by kernel_rfl, rfl⟩) hH1 ?_
        refine wpAnyH_take (i := 37) (v := undef) rfl (by kernel_rfl) (by kernel_rfl) (by kernel_rfl) (fun _ _ _ h => h) (Or.inr ⟨by kernel_rfl, rfl⟩) hH1 ?_
        refine wpAnyH_take (i := 38) (v := undef) rfl (by kernel_rfl) (by kernel_rfl) (by kernel_rfl) (fun _ _ _ h => h) (Or.inr ⟨by kernel_rfl, rfl⟩) hH1 ?_
        refine wpAnyH_take (i := 39) (v := .bool false) rfl (by kernel_rfl) (by kernel_rfl) (by kernel_rfl) (fun _ _ _ h => h) (Or.inl ⟨by kernel_rfl, fun wS hSw => by (try dsimp only at hSw); go_simp⟩) hH1 ?_
        refine wpAnyH_take (i := 40) (v := .bool false) rfl (by kernel_rfl) (by kernel_rfl) (by kernel_rfl) (fun _ _ _ h => h) (Or.inl ⟨by kernel_rfl, fun wS hSw => by (try dsimp only at hSw); go_simp⟩) hH1 ?_
        refine wpAnyH_done (by kernel_rfl) ?_ _
        go_simp
        go_wp2_with fail
        go_roundw
        case rel => exact ⟨n + 1, z.x + 1, by omega, by go_num, by omega, HNx, HX, HB3⟩
        case measure => simp [intOf]; omega
      · obtain ⟨m, hm⟩ : ∃ m, n = m + 1 := ⟨n - 1, by omega⟩
        obtain ⟨⟨q0, _⟩, hlp⟩ := HQ.out m hm
        have hml : m < len := by omega
        have hws : IntKind.i64.wrap ((n : Int) - 1) = (m : Int) := by rw [hm, IntKind.wrap_i64]; push_cast; omega
        have HN0 := Lib.hid hn0
        clear hm hn0
        generalize L.getD m default = p at q0 hlp
        have t3 : decide ((0 : Int) < (n : Int)) = true := decide_eq_true (by have := HN0.out; omega)
        by_cases k3 : z.x ≤ p.x
        · have HX : Hid (rightL L = false) := Lib.hid (by rw [HS.out]; exact rf1 (decide_eq_false (by omega)))
          have t4 : decide (z.x ≤ p.x) = true := decide_eq_true k3
          clear hr k3
          go_wp2_with fail
          refine wp_region_held_drew (S := (fun w1 => (w1.cell? ⟨g, off + n * 5, none⟩ = some (.int .i64 z.x) ∧ w1.cell? ⟨g, off + n * 5 + 1, none⟩ = some (.int .i64 z.v.k) ∧ w1.cell? ⟨g, off + n * 5 + 2, none⟩ = some (.int .i64 z.v.i) ∧ w1.cell? ⟨g, off + n * 5 + 3, none⟩ = some (.string z.v.s) ∧ w1.cell? ⟨g, off + n * 5 + 4, none⟩ = some (.bool z.v.b)) ∧ w1.cell? ⟨g, off + m * 5, none⟩ = some (.int .i64 p.x))) (by kernel_rfl) (⟨HD.out, q0⟩) (fun hH0 => ?_)
          refine wpAnyH_take (i := 0) (v := .slice (some ⟨g, off, none⟩) len cap) rfl (by kernel_rfl) (by kernel_rfl) (by kernel_rfl) (fun _ _ _ h => h) (Or.inl ⟨by kernel_rfl, fun wS hSw => by (try dsimp only at hSw); go_simp⟩) hH0 ?_
          refine wpAnyH_take (i := 1) (v := .int .i64 n) rfl (by kernel_rfl) (by kernel_rfl) (by kernel_rfl) (fun _ _ _ h => h) (Or.inl ⟨by kernel_rfl, fun wS hSw => by (try dsimp only at hSw); go_simp⟩) hH0 ?_
          refine wpAnyH_take (i := 2) (v := .pointer (some ⟨g, off + n * 5, none⟩)) rfl (by kernel_rfl) (by kernel_rfl) (by kernel_rfl) (fun _ _ _ h => h) (Or.inl ⟨by kernel_rfl, fun wS hSw => by (try dsimp only at hSw); go_simp⟩) hH0 ?_
          refine wpAnyH_take (i := 3) (v := .pointer (some ⟨g, off + n * 5, none⟩)) rfl (by kernel_rfl) (by kernel_rfl) (by kernel_rfl) (fun _ _ _ h => h) (Or.inl ⟨by kernel_rfl, fun wS hSw => by (try dsimp only at hSw); go_simp⟩) hH0 ?_
          refine wpAnyH_take (i := 4) (v := .int .i64 z.x) rfl (by kernel_rfl) (by kernel_rfl) (by kernel_rfl) (fun _ _ _ h => h) (Or.inl ⟨by kernel_rfl, fun wS hSw => by (try dsimp only at hSw); go_simp⟩) hH0 ?_
          refine wpAnyH_take (i := 5) (v := .bool false) rfl (by kernel_rfl) (by kernel_rfl) (by kernel_rfl) (fun _ _ _ h => h) (Or.inl ⟨by kernel_rfl, fun wS hSw => by (try dsimp only at hSw); go_simp⟩) hH0 ?_
          refine wpAnyH_take (i := 6) (v := .bool false) rfl (by kernel_rfl) (by kernel_rfl) (by kernel_rfl) (fun _ _ _ h => h) (Or.inl ⟨by kernel_rfl, fun wS hSw => by (try dsimp only at hSw); go_simp⟩) hH0 ?_
          refine wpAnyH_take (i := 7) (v := .slice (some ⟨g, off, none⟩) len cap) rfl (by kernel_rfl) (by kernel_rfl) (by kernel_rfl) (fun _ _ _ h => h) (Or.inl ⟨by kernel_rfl, fun wS hSw => by (try dsimp only at hSw); go_simp⟩) hH0 ?_
          refine wpAnyH_take (i := 8) (v := .int .i64 n) rfl (by kernel_rfl) (by kernel_rfl) (by kernel_rfl) (fun _ _ _ h => h) (Or.inl ⟨by kernel_rfl, fun wS hSw => by (try dsimp only at hSw); go_simp⟩) hH0 ?_
          refine wpAnyH_take (i := 9) (v := .pointer (some ⟨g, off + n * 5, none⟩)) rfl (by kernel_rfl) (by kernel_rfl) (by kernel_rfl) (fun _ _ _ h => h) (Or.inl ⟨by kernel_rfl, fun wS hSw => by (try dsimp only at hSw); go_simp⟩) hH0 ?_
          refine wpAnyH_take (i := 10) (v := .pointer (some ⟨g, off + n * 5, none⟩)) rfl (by kernel_rfl) (by kernel_rfl) (by kernel_rfl) (fun _ _ _ h => h) (Or.inl ⟨by kernel_rfl, fun wS hSw => by (try dsimp only at hSw); go_simp⟩) hH0 ?_
          refine wpAnyH_take (i := 11) (v := .int .i64 z.x) rfl (by kernel_rfl) (by kernel_rfl) (by kernel_rfl) (fun _ _ _ h => h) (Or.inl ⟨by kernel_rfl, fun wS hSw => by (try dsimp only at hSw); go_simp⟩) hH0 ?_
          refine wpAnyH_take (i := 12) (v := .bool false) rfl (by kernel_rfl) (by kernel_rfl) (by kernel_rfl) (fun _ _ _ h => h) (Or.inl ⟨by kernel_rfl, fun wS hSw => by (try dsimp only at hSw); go_simp⟩) hH0 ?_
          refine wpAnyH_take (i := 13) (v := .bool false) rfl (by kernel_rfl) (by kernel_rfl) (by kernel_rfl) (fun _ _ _ h => h) (Or.inl ⟨by kernel_rfl, fun wS hSw => by (try dsimp only at hSw); go_simp⟩) hH0 ?_
          refine wpAnyH_take (i := 14) (v := .bool false) rfl (by kernel_rfl) (by kernel_rfl) (by kernel_rfl) (fun _ _ _ h => h) (Or.inl ⟨by kernel_rfl, fun wS hSw => by (try dsimp only at hSw); go_simp⟩) hH0 ?_
          refine wpAnyH_take (i := 15) (v := .slice (some ⟨g, off, none⟩) len cap) rfl (by kernel_rfl) (by kernel_rfl) (by kernel_rfl) (fun _ _ _ h => h) (Or.inl ⟨by kernel_rfl, fun wS hSw => by (try dsimp only at hSw); go_simp⟩) hH0 ?_
          refine wpAnyH_take (i := 16) (v := .int .i64 n) rfl (by kernel_rfl) (by kernel_rfl) (by kernel_rfl) (fun _ _ _ h => h) (Or.inl ⟨by kernel_rfl, fun wS hSw => by (try dsimp only at hSw); go_simp⟩) hH0 ?_
          refine wpAnyH_take (i := 17) (v := .pointer (some ⟨g, off + n * 5, none⟩)) rfl (by kernel_rfl) (by kernel_rfl) (by kernel_rfl) (fun _ _ _ h => h) (Or.inl ⟨by kernel_rfl, fun wS hSw => by (try dsimp only at hSw); go_simp⟩) hH0 ?_
          refine wpAnyH_take (i := 18) (v := .pointer (some ⟨g, off + n * 5 + 1, none⟩)) rfl (by kernel_rfl) (by kernel_rfl) (by kernel_rfl) (fun _ _ _ h => h) (Or.inl ⟨by kernel_rfl, fun wS hSw => by (try dsimp only at hSw); go_simp⟩) hH0 ?_
          refine wpAnyH_take (i := 19) (v := .agg #[.int .i64 z.v.k, .int .i64 z.v.i, .string z.v.s, .bool z.v.b]) rfl (by kernel_rfl) (by kernel_rfl) (by kernel_rfl) (fun _ _ _ h => h) (Or.inl ⟨by kernel_rfl, fun wS hSw => by (try dsimp only at hSw); go_simp⟩) hH0 ?_
          refine wpAnyH_ready (rs := [20]) (by kernel_rfl) (by simp) ?_
          refine AllReadyH.cons rfl (fun K hK => ?_) AllReadyH.nil
          rw [if_pos (by kernel_rfl)]
          go_simp
          refine (H1.out _).mono ?_
          rintro e w1 ⟨rfl, kb⟩
          have HB3 := Lib.hid (HB.out.trans (((Below.refl wr.heap.size wr).drew.trans kb).mono HB.out.size))
          have HD2 := Lib.hid (HD.out.below ((Below.refl wr.heap.size wr).drew.trans kb) (Nat.lt_of_lt_of_le hg HB.out.size))
          have HQ2 : Hid (w1.cell? ⟨g, off + m * 5, none⟩ = some (.int .i64 p.x)) := Lib.hid ((((Below.refl wr.heap.size wr).drew.trans kb).cell (p := ⟨g, off + m * 5, none⟩) (Nat.lt_of_lt_of_le hg HB.out.size)).trans q0)
          clear kb
          refine hK.out _ _ (⟨HD2.out, HQ2.out⟩) (fun hH1 => ?_)
          clear hK K
          refine wpAnyH_take (i := 21) (v := .bool false) rfl (by kernel_rfl) (by kernel_rfl) (by kernel_rfl) (fun _ _ _ h => h) (Or.inl ⟨by kernel_rfl, fun wS hSw => by (try dsimp only at hSw); go_simp⟩) hH1 ?_
          refine wpAnyH_take (i := 22) (v := .bool false) rfl (by kernel_rfl) (by kernel_rfl) (by kernel_rfl) (fun _ _ _ h => h) (Or.inl ⟨by kernel_rfl, fun wS hSw => by (try dsimp only at hSw); go_simp⟩) hH1 ?_
          refine wpAnyH_take (i := 23) (v := .bool false) rfl (by kernel_rfl) (by kernel_rfl) (by kernel_rfl) (fun _ _ _ h => h) (Or.inl ⟨by kernel_rfl, fun wS hSw => by (try dsimp only at hSw); go_simp⟩) hH1 ?_
          refine wpAnyH_take (i := 24) (v := .int .i64 n) rfl (by kernel_rfl) (by kernel_rfl) (by kernel_rfl) (fun _ _ _ h => h) (Or.inl ⟨by kernel_rfl, fun wS hSw => by (try dsimp only at hSw); go_simp⟩) hH1 ?_
          refine wpAnyH_take (i := 25) (v := .bool true) rfl (by kernel_rfl) (by kernel_rfl) (by kernel_rfl) (fun _ _ _ h => h) (Or.inl ⟨by kernel_rfl, fun wS hSw => by (try dsimp only at hSw); (first | (go_simp; done) | (go_simp; exact HN0.out))⟩) hH1 ?_
          refine wpAnyH_take (i := 26) (v := .bool true) rfl (by kernel_rfl) (by kernel_rfl) (by kernel_rfl) (fun _ _ _ h => h) (Or.inl ⟨by kernel_rfl, fun wS hSw => by (try dsimp only at hSw); go_simp⟩) hH1 ?_
          refine wpAnyH_take (i := 27) (v := .slice (some ⟨g, off, none⟩) len cap) rfl (by kernel_rfl) (by kernel_rfl) (by kernel_rfl) (fun _ _ _ h => h) (Or.inl ⟨by kernel_rfl, fun wS hSw => by (try dsimp only at hSw); go_simp⟩) hH1 ?_
          refine wpAnyH_take (i := 28) (v := .int .i64 n) rfl (by kernel_rfl) (by kernel_rfl) (by kernel_rfl) (fun _ _ _ h => h) (Or.inl ⟨by kernel_rfl, fun wS hSw => by (try dsimp only at hSw); go_simp⟩) hH1 ?_
          refine wpAnyH_take (i := 29) (v := .pointer (some ⟨g, off + n * 5, none⟩)) rfl (by kernel_rfl) (by kernel_rfl) (by kernel_rfl) (fun _ _ _ h => h) (Or.inl ⟨by kernel_rfl, fun wS hSw => by (try dsimp only at hSw); go_simp⟩) hH1 ?_
          refine wpAnyH_take (i := 30) (v := .pointer (some ⟨g, off + n * 5, none⟩)) rfl (by kernel_rfl) (by kernel_rfl) (by kernel_rfl) (fun _ _ _ h => h) (Or.inl ⟨by kernel_rfl, fun wS hSw => by (try dsimp only at hSw); go_simp⟩) hH1 ?_
          refine wpAnyH_take (i := 31) (v := .int .i64 z.x) rfl (by kernel_rfl) (by kernel_rfl) (by kernel_rfl) (fun _ _ _ h => h) (Or.inl ⟨by kernel_rfl, fun wS hSw => by (try dsimp only at hSw); go_simp⟩) hH1 ?_
          refine wpAnyH_take (i := 32) (v := .slice (some ⟨g, off, none⟩) len cap) rfl (by kernel_rfl) (by kernel_rfl) (by kernel_rfl) (fun _ _ _ h => h) (Or.inl ⟨by kernel_rfl, fun wS hSw => by (try dsimp only at hSw); go_simp⟩) hH1 ?_
          refine wpAnyH_take (i := 33) (v := .int .i64 n) rfl (by kernel_rfl) (by kernel_rfl) (by kernel_rfl) (fun _ _ _ h => h) (Or.inl ⟨by kernel_rfl, fun wS hSw => by (try dsimp only at hSw); go_simp⟩) hH1 ?_
          refine wpAnyH_take (i := 34) (v := .int .i64 m) rfl (by kernel_rfl) (by kernel_rfl) (by kernel_rfl) (fun _ _ _ h => h) (Or.inl ⟨by kernel_rfl, fun wS hSw => by (try dsimp only at hSw); go_simp⟩) hH1 ?_
          refine wpAnyH_take (i := 35) (v := .pointer (some ⟨g, off + m * 5, none⟩)) rfl (by kernel_rfl) (by kernel_rfl) (by kernel_rfl) (fun _ _ _ h => h) (Or.inl ⟨by kernel_rfl, fun wS hSw => by (try dsimp only at hSw); go_simp⟩) hH1 ?_
          refine wpAnyH_take (i := 36) (v := .pointer (some ⟨g, off + m * 5, none⟩)) rfl (by kernel_rfl) (by kernel_rfl) (by kernel_rfl) (fun _ _ _ h => h) (Or.inl ⟨by kernel_rfl, fun wS hSw => by (try dsimp only at hSw); go_simp⟩) hH1 ?_
          refine wpAnyH_take (i := 37) (v := .int .i64 p.x) rfl (by kernel_rfl) (by kernel_rfl) (by kernel_rfl) (fun _ _ _ h => h) (Or.inl ⟨by kernel_rfl, fun wS hSw => by (try dsimp only at hSw); go_simp⟩) hH1 ?_
          refine wpAnyH_take (i := 38) (v := .bool true) rfl (by kernel_rfl) (by kernel_rfl) (by kernel_rfl) (fun _ _ _ h => h) (Or.inl ⟨by kernel_rfl, fun wS hSw => by (try dsimp only at hSw); go_simp⟩) hH1 ?_
          refine wpAnyH_take (i := 39) (v := .bool true) rfl (by kernel_rfl) (by kernel_rfl) (by kernel_rfl) (fun _ _ _ h => h) (Or.inl ⟨by kernel_rfl, fun wS hSw => by (try dsimp only at hSw); go_simp⟩) hH1 ?_
          refine wpAnyH_take (i := 40) (v := .bool true) rfl (by kernel_rfl) (by kernel_rfl) (by kernel_rfl) (fun _ _ _ h => h) (Or.inl ⟨by kernel_rfl, fun wS hSw => by (try dsimp only at hSw); go_simp⟩) hH1 ?_
          refine wpAnyH_done (by kernel_rfl) ?_ _
          go_simp
          go_wp2_with fail
          go_ret
          exact ⟨by rw [HX.out]; rfl, HB3.out⟩
        · have HX : Hid (rightL L = rightFrom (z.x + 1) (L.drop (n + 1))) := Lib.hid (by rw [HS.out]; exact rf4 (decide_eq_true (by omega)) (decide_eq_true (by omega)) hr)
          have t4 : decide (z.x ≤ p.x) = false := decide_eq_false k3
          clear hr k3
          go_wp2_with fail
          refine wp_region_held_drew (S := (fun w1 => (w1.cell? ⟨g, off + n * 5, none⟩ = some (.int .i64 z.x) ∧ w1.cell? ⟨g, off + n * 5 + 1, none⟩ = some (.int .i64 z.v.k) ∧ w1.cell? ⟨g, off + n * 5 + 2, none⟩ = some (.int .i64 z.v.i) ∧ w1.cell? ⟨g, off + n * 5 + 3, none⟩ = some (.string z.v.s) ∧ w1.cell? ⟨g, off + n * 5 + 4, none⟩ = some (.bool z.v.b)) ∧ w1.cell? ⟨g, off + m * 5, none⟩ = some (.int .i64 p.x))) (by kernel_rfl) (⟨HD.out, q0⟩) (fun hH0 => ?_)
          refine wpAnyH_take (i := 0) (v := .slice (some ⟨g, off, none⟩) len cap) rfl (by kernel_rfl) (by kernel_rfl) (by kernel_rfl) (fun _ _ _ h => h) (Or.inl ⟨by kernel_rfl, fun wS hSw => by (try dsimp only at hSw); go_simp⟩) hH0 ?_
          refine wpAnyH_take (i := 1) (v := .int .i64 n) rfl (by kernel_rfl) (by kernel_rfl) (by kernel_rfl) (fun _ _ _ h => h) (Or.inl ⟨by kernel_rfl, fun wS hSw => by (try dsimp only at hSw); go_simp⟩) hH0 ?_
          refine wpAnyH_take (i := 2) (v := .pointer (some ⟨g, off + n * 5, none⟩)) rfl (by kernel_rfl) (by kernel_rfl) (by kernel_rfl) (fun _ _ _ h => h) (Or.inl ⟨by kernel_rfl, fun wS hSw => by (try dsimp only at hSw); go_simp⟩) hH0 ?_
          refine wpAnyH_take (i := 3) (v := .pointer (some ⟨g, off + n * 5, none⟩)) rfl (by kernel_rfl) (by kernel_rfl) (by kernel_rfl) (fun _ _ _ h => h) (Or.inl ⟨by kernel_rfl, fun wS hSw => by (try dsimp only at hSw); go_simp⟩) hH0 ?_
          refine wpAnyH_take (i := 4) (v := .int .i64 z.x) rfl (by kernel_rfl) (by kernel_rfl) (by kernel_rfl) (fun _ _ _ h => h) (Or.inl ⟨by kernel_rfl, fun wS hSw => by (try dsimp only at hSw); go_simp⟩) hH0 ?_
          refine wpAnyH_take (i := 5) (v := .bool false) rfl (by kernel_rfl) (by kernel_rfl) (by kernel_rfl) (fun _ _ _ h => h) (Or.inl ⟨by kernel_rfl, fun wS hSw => by (try dsimp only at hSw); go_simp⟩) hH0 ?_
          refine wpAnyH_take (i := 6) (v := .bool false) rfl (by kernel_rfl) (by kernel_rfl) (by kernel_rfl) (fun _ _ _ h => h) (Or.inl ⟨by kernel_rfl, fun wS hSw => by (try dsimp only at hSw); go_simp⟩) hH0 ?_
          refine wpAnyH_take (i := 7) (v := .slice (some ⟨g, off, none⟩) len cap) rfl (by kernel_rfl) (by kernel_rfl) (by kernel_rfl) (fun _ _ _ h => h) (Or.inl ⟨by kernel_rfl, fun wS hSw => by (try dsimp only at hSw); go_simp⟩) hH0 ?_
          refine wpAnyH_take (i := 8) (v := .int .i64 n) rfl (by kernel_rfl) (by kernel_rfl) (by kernel_rfl) (fun _ _ _ h => h) (Or.inl ⟨by kernel_rfl, fun wS hSw => by (try dsimp only at hSw); go_simp⟩) hH0 ?_
          refine wpAnyH_take (i := 9) (v := .pointer (some ⟨g, off + n * 5, none⟩)) rfl (by kernel_rfl) (by kernel_rfl) (by kernel_rfl) (fun _ _ _ h => h) (Or.inl ⟨by kernel_rfl, fun wS hSw => by (try dsimp only at hSw); go_simp⟩) hH0 ?_
          refine wpAnyH_take (i := 10) (v := .pointer (some ⟨g, off + n * 5, none⟩)) rfl (by kernel_rfl) (by kernel_rfl) (by kernel_rfl) (fun _ _ _ h => h) (Or.inl ⟨by kernel_rfl, fun wS hSw => by (try dsimp only at hSw); go_simp⟩) hH0 ?_
          refine wpAnyH_take (i := 11) (v := .int .i64 z.x) rfl (by kernel_rfl) (by kernel_rfl) (by kernel_rfl) (fun _ _ _ h => h) (Or.inl ⟨by kernel_rfl, fun wS hSw => by (try dsimp only at hSw); go_simp⟩) hH0 ?_
          refine wpAnyH_take (i := 12) (v := .bool false) rfl (by kernel_rfl) (by kernel_rfl) (by kernel_rfl) (fun _ _ _ h => h) (Or.inl ⟨by kernel_rfl, fun wS hSw => by (try dsimp only at hSw); go_simp⟩) hH0 ?_
          refine wpAnyH_take (i := 13) (v := .bool false) rfl (by kernel_rfl) (by kernel_rfl) (by kernel_rfl) (fun _ _ _ h => h) (Or.inl ⟨by kernel_rfl, fun wS hSw => by (try dsimp only at hSw); go_simp⟩) hH0 ?_
          refine wpAnyH_take (i := 14) (v := .bool false) rfl (by kernel_rfl) (by kernel_rfl) (by kernel_rfl) (fun _ _ _ h => h) (Or.inl ⟨by kernel_rfl, fun wS hSw => by (try dsimp only at hSw); go_simp⟩) hH0 ?_
          refine wpAnyH_take (i := 15) (v := .slice (some ⟨g, off, none⟩) len cap) rfl (by kernel_rfl) (by kernel_rfl) (by kernel_rfl) (fun _ _ _ h => h) (Or.inl ⟨by kernel_rfl, fun wS hSw => by (try dsimp only at hSw); go_simp⟩) hH0 ?_
          refine wpAnyH_take (i := 16) (v := .int .i64 n) rfl (by kernel_rfl) (by kernel_rfl) (by kernel_rfl) (fun _ _ _ h => h) (Or.inl ⟨by kernel_rfl, fun wS hSw => by (try dsimp only at hSw); go_simp⟩) hH0 ?_
          refine wpAnyH_take (i := 17) (v := .pointer (some ⟨g, off + n * 5, none⟩)) rfl (by kernel_rfl) (by kernel_rfl) (by kernel_rfl) (fun _ _ _ h => h) (Or.inl ⟨by kernel_rfl, fun wS hSw => by (try dsimp only at hSw); go_simp⟩) hH0 ?_
          refine wpAnyH_take (i := 18) (v := .pointer (some ⟨g, off + n * 5 + 1, none⟩)) rfl (by kernel_rfl) (by kernel_rfl) (by kernel_rfl) (fun _ _ _ h => h) (Or.inl ⟨by kernel_rfl, fun wS hSw => by (try dsimp only at hSw); go_simp⟩) hH0 ?_
          refine wpAnyH_take (i := 19) (v := .agg #[.int .i64 z.v.k, .int .i64 z.v.i, .string z.v.s, .bool z.v.b]) rfl (by kernel_rfl) (by kernel_rfl) (by kernel_rfl) (fun _ _ _ h => h) (Or.inl ⟨by kernel_rfl, fun wS hSw => by (try dsimp only at hSw); go_simp⟩) hH0 ?_
          refine wpAnyH_ready (rs := [20]) (by kernel_rfl) (by simp) ?_
          refine AllReadyH.cons rfl (fun K hK => ?_) AllReadyH.nil
          rw [if_pos (by kernel_rfl)]
          go_simp
          refine (H1.out _).mono ?_
          rintro e w1 ⟨rfl, kb⟩
          have HB3 := Lib.hid (HB.out.trans (((Below.refl wr.heap.size wr).drew.trans kb).mono HB.out.size))
          have HD2 := Lib.hid (HD.out.below ((Below.refl wr.heap.size wr).drew.trans kb) (Nat.lt_of_lt_of_le hg HB.out.size))
          have HQ2 : Hid (w1.cell? ⟨g, off + m * 5, none⟩ = some (.int .i64 p.x)) := Lib.hid ((((Below.refl wr.heap.size wr).drew.trans kb).cell (p := ⟨g, off + m * 5, none⟩) (Nat.lt_of_lt_of_le hg HB.out.size)).trans q0)
          clear kb
          refine hK.out _ _ (⟨HD2.out, HQ2.out⟩) (fun hH1 => ?_)
          clear hK K
          refine wpAnyH_take (i := 21) (v := .bool false) rfl (by kernel_rfl) (by kernel_rfl) (by kernel_rfl) (fun _ _ _ h => h) (Or.inl ⟨by kernel_rfl, fun wS hSw => by (try dsimp only at hSw); go_simp⟩) hH1 ?_
          refine wpAnyH_take (i := 22) (v := .bool false) rfl (by kernel_rfl) (by kernel_rfl) (by kernel_rfl) (fun _ _ _ h => h) (Or.inl ⟨by kernel_rfl, fun wS hSw => by (try dsimp only at hSw); go_simp⟩) hH1 ?_
          refine wpAnyH_take (i := 23) (v := .bool false) rfl (by kernel_rfl) (by kernel_rfl) (by kernel_rfl) (fun _ _ _ h => h) (Or.inl ⟨by kernel_rfl, fun wS hSw => by (try dsimp only at hSw); go_simp⟩) hH1 ?_
          refine wpAnyH_take (i := 24) (v := .int .i64 n) rfl (by kernel_rfl) (by kernel_rfl) (by kernel_rfl) (fun _ _ _ h => h) (Or.inl ⟨by kernel_rfl, fun wS hSw => by (try dsimp only at hSw); go_simp⟩) hH1 ?_
          refine wpAnyH_take (i := 25) (v := .bool true) rfl (by kernel_rfl) (by kernel_rfl) (by kernel_rfl) (fun _ _ _ h => h) (Or.inl ⟨by kernel_rfl, fun wS hSw => by (try dsimp only at hSw); (first | (go_simp; done) | (go_simp; exact HN0.out))⟩) hH1 ?_
          refine wpAnyH_take (i := 26) (v := .bool true) rfl (by kernel_rfl) (by kernel_rfl) (by kernel_rfl) (fun _ _ _ h => h) (Or.inl ⟨by kernel_rfl, fun wS hSw => by (try dsimp only at hSw); go_simp⟩) hH1 ?_
          refine wpAnyH_take (i := 27) (v := .slice (some ⟨g, off, none⟩) len cap) rfl (by kernel_rfl) (by kernel_rfl) (by kernel_rfl) (fun _ _ _ h => h) (Or.inl ⟨by kernel_rfl, fun wS hSw => by (try dsimp only at hSw); go_simp⟩) hH1 ?_
          refine wpAnyH_take (i := 28) (v := .int .i64 n) rfl (by kernel_rfl) (by kernel_rfl) (by kernel_rfl) (fun _ _ _ h => h) (Or.inl ⟨by kernel_rfl, fun wS hSw => by (try dsimp only at hSw); go_simp⟩) hH1 ?_
          refine wpAnyH_take (i := 29) (v := .pointer (some ⟨g, off + n * 5, none⟩)) rfl (by kernel_rfl) (by kernel_rfl) (by kernel_rfl) (fun _ _ _ h => h) (Or.inl ⟨by kernel_rfl, fun wS hSw => by (try dsimp only at hSw); go_simp⟩) hH1 ?_
          refine wpAnyH_take (i := 30) (v := .pointer (some ⟨g, off + n * 5, none⟩)) rfl (by kernel_rfl) (by kernel_rfl) (by kernel_rfl) (fun _ _ _ h => h) (Or.inl ⟨by kernel_rfl, fun wS hSw => by (try dsimp only at hSw); go_simp⟩) hH1 ?_
          refine wpAnyH_take (i := 31) (v := .int .i64 z.x) rfl (by kernel_rfl) (by kernel_rfl) (by kernel_rfl) (fun _ _ _ h => h) (Or.inl ⟨by kernel_rfl, fun wS hSw => by (try dsimp only at hSw); go_simp⟩) hH1 ?_
          refine wpAnyH_take (i := 32) (v := .slice (some ⟨g, off, none⟩) len cap) rfl (by kernel_rfl) (by kernel_rfl) (by kernel_rfl) (fun _ _ _ h => h) (Or.inl ⟨by kernel_rfl, fun wS hSw => by (try dsimp only at hSw); go_simp⟩) hH1 ?_
          refine wpAnyH_take (i := 33) (v := .int .i64 n) rfl (by kernel_rfl) (by kernel_rfl) (by kernel_rfl) (fun _ _ _ h => h) (Or.inl ⟨by kernel_rfl, fun wS hSw => by (try dsimp only at hSw); go_simp⟩) hH1 ?_
          refine wpAnyH_take (i := 34) (v := .int .i64 m) rfl (by kernel_rfl) (by kernel_rfl) (by kernel_rfl) (fun _ _ _ h => h) (Or.inl ⟨by kernel_rfl, fun wS hSw => by (try dsimp only at hSw); go_simp⟩) hH1 ?_
          refine wpAnyH_take (i := 35) (v := .pointer (some ⟨g, off + m * 5, none⟩)) rfl (by kernel_rfl) (by kernel_rfl) (by kernel_rfl) (fun _ _ _ h => h) (Or.inl ⟨by kernel_rfl, fun wS hSw => by (try dsimp only at hSw); go_simp⟩) hH1 ?_
          refine wpAnyH_take (i := 36) (v := .pointer (some ⟨g, off + m * 5, none⟩)) rfl (by kernel_rfl) (by kernel_rfl) (by kernel_rfl) (fun _ _ _ h => h) (Or.inl ⟨by kernel_rfl, fun wS hSw => by (try dsimp only at hSw); go_simp⟩) hH1 ?_
          refine wpAnyH_take (i := 37) (v := .int .i64 p.x) rfl (by kernel_rfl) (by kernel_rfl) (by kernel_rfl) (fun _ _ _ h => h) (Or.inl ⟨by kernel_rfl, fun wS hSw => by (try dsimp only at hSw); go_simp⟩) hH1 ?_
          refine wpAnyH_take (i := 38) (v := .bool false) rfl (by kernel_rfl) (by kernel_rfl) (by kernel_rfl) (fun _ _ _ h => h) (Or.inl ⟨by kernel_rfl, fun wS hSw => by (try dsimp only at hSw); go_simp⟩) hH1 ?_
          refine wpAnyH_take (i := 39) (v := .bool false) rfl (by kernel_rfl) (by kernel_rfl) (by kernel_rfl) (fun _ _ _ h => h) (Or.inl ⟨by kernel_rfl, fun wS hSw => by (try dsimp only at hSw); go_simp⟩) hH1 ?_
          refine wpAnyH_take (i := 40) (v := .bool false) rfl (by kernel_rfl) (by kernel_rfl) (by kernel_rfl) (fun _ _ _ h => h) (Or.inl ⟨by kernel_rfl, fun wS hSw => by (try dsimp only at hSw); go_simp⟩) hH1 ?_
          refine wpAnyH_done (by kernel_rfl) ?_ _
          go_simp
          go_wp2_with fail
          go_roundw
          case rel => exact ⟨n + 1, z.x + 1, by omega, by go_num, by omega, HNx, HX, HB3⟩
          case measure => simp [intOf]; omega
end Go.Proofs.YtjohiehlnbgdaaaDoor
