/- Which bindings may be: the reference's Right and binding's. -/
import Derived.Test.YtjohiehlnbgdaaaDoorSlotGet
namespace Go.Proofs.YtjohiehlnbgdaaaDoor
open Go.RowKit
set_option linter.unusedVariables false

def rV (v : Vd) : Bool := rightB v.k v.i v.s v.b
/-- Whether slots may be a binding's, from a variable on. -/
def rightFrom (lo : Int) : List Sd → Bool
  | [] => true
  | z :: L => decide (lo ≤ z.x) && decide (z.x ≤ 7) && rV z.v && rightFrom (z.x + 1) L
def rightL (L : List Sd) : Bool := rightFrom 0 L
theorem right_step {L : List Sd} {n : Nat} {lo : Int} (h : n < L.length) (H : rightL L = rightFrom lo (L.drop n)) :
    rightL L = (decide (lo ≤ (L.getD n default).x) && decide ((L.getD n default).x ≤ 7) && rV (L.getD n default).v && rightFrom ((L.getD n default).x + 1) (L.drop (n + 1))) := by
  rw [H, drop_at L n h, rightFrom]
theorem rf1 {a b c d : Bool} (h : a = false) : (a && b && c && d) = false := by rw [h]; rfl
theorem rf2 {a b c d : Bool} (h : b = false) : (a && b && c && d) = false := by rw [h]; cases a <;> rfl
theorem rf3 {a b c d : Bool} (h : c = false) : (a && b && c && d) = false := by rw [h]; cases a <;> cases b <;> rfl
theorem rf4 {a b c d : Bool} (h1 : a = true) (h2 : b = true) (h3 : c = true) : (a && b && c && d) = d := by rw [h1, h2, h3]; rfl
theorem LiesS.drew {g o : Nat} {z : Sd} {w : World} (h : LiesS g o z w) : LiesS g o z w.drew := h
theorem LiesS.drewN {g o : Nat} {z : Sd} {w : World} (n : Nat) (h : LiesS g o z w) : LiesS g o z (w.drewN n) := h

set_option maxHeartbeats 1000000 in
theorem bRight_calls (a : Option Addr) (len cap : Nat) (L : List Sd) (w : World) (hs : SIn w a len L) :
    Calls Tryd.prog 24 #[.slice a len cap] w fun e w' => e = .returned (.bool (rightL L)) ∧ Below w.heap.size w w' := by
  have H := Lib.hid hs
  have HL := Lib.hid hs.leng
  have hsm := hs.small
  have HC := Lib.hid (fun (v : Vd) (h : v.s.size ≤ 9223372036854775807) w1 => vRight_calls v.k v.i v.s v.b w1 h)
  clear hs
  go_enter Tryd.func24, Tryd.ntmps24
  go_wp2_with fail
  go_loopw [3, 8] (fun l i wr => ∃ (n : Nat) (lo : Int), n ≤ len ∧ i = .int .i64 n ∧ l = .int .i64 lo ∧ 0 ≤ lo ∧ lo ≤ 8 ∧ Hid (rightL L = rightFrom lo (L.drop n)) ∧ Hid (Below w.heap.size w wr)) (fun _ i _ => len - (intOf i).toNat)
  case atStart => exact ⟨0, 0, Nat.zero_le _, rfl, rfl, by omega, by omega, Lib.hid rfl, Lib.hid (Below.refl _ _)⟩
  case round =>
    obtain ⟨n, lo, hn, rfl, rfl, hlo, hlo8, HG, HB⟩ := hrel
    by_cases h : n < len
    case neg =>
      obtain rfl : n = len := by omega
      have HX : Hid (rightL L = true) := Lib.hid (by rw [HG.out, List.drop_eq_nil_iff.2 (by rw [HL.out]; exact Nat.le_refl _)]; rfl)
      go_wp2_with fail
      go_ret
      exact ⟨by rw [HX.out]; rfl, HB.out⟩
    case pos =>
      obtain ⟨g, off, rfl, hg, hc⟩ := H.out.at' HB.out h
      have hfit := H.out.fit h
      have HS := Lib.hid (right_step (n := n) (by rw [HL.out]; exact h) HG.out)
      generalize L.getD n default = z at hc HS hfit
      have HB2 := Lib.hid (HB.out.alloc HB.out.size (.cells #[.int .i64 z.x, .int .i64 z.v.k, .int .i64 z.v.i, .string z.v.s, .bool z.v.b] 36))
      have H1 := Lib.hid (HC.out z.v hfit.2.1)
      obtain ⟨hx1, hx2⟩ := hfit.1
      obtain ⟨c0, c1, c2, c3, c4⟩ := hc
      clear hfit
      by_cases k1 : z.x < lo
      · have HX : Hid (rightL L = false) := Lib.hid (by rw [HS.out]; exact rf1 (decide_eq_false (by omega)))
        have t1 : decide (z.x < lo) = true := decide_eq_true k1
        go_wp2_with fail
        go_ret
        exact ⟨by rw [HX.out]; rfl, HB2.out⟩
      have t1 : decide (z.x < lo) = false := decide_eq_false k1
      by_cases k2 : 8 ≤ z.x
      · have HX : Hid (rightL L = false) := Lib.hid (by rw [HS.out]; exact rf2 (decide_eq_false (by omega)))
        have t2 : decide ((8 : Int) ≤ z.x) = true := decide_eq_true k2
        go_wp2_with fail
        go_ret
        exact ⟨by rw [HX.out]; rfl, HB2.out⟩
      have t2 : decide ((8 : Int) ≤ z.x) = false := decide_eq_false k2
      have HS2 : Hid (rV z.v = false → rightL L = false) := Lib.hid (fun e => by rw [HS.out]; exact rf3 e)
      have HS3 : Hid (rV z.v = true → rightL L = rightFrom (z.x + 1) (L.drop (n + 1))) := Lib.hid (fun e => by rw [HS.out]; exact rf4 (decide_eq_true (by omega)) (decide_eq_true (by omega)) e)
      have HD := Lib.hid (LiesS.new z wr 36)
      have hw : wr.heap.size < wr.heap.size + 1 := by omega
      go_wp2_with fail
      refine (H1.out _).mono ?_
      rintro e w1 ⟨rfl, kb⟩
      change Hid (rightB z.v.k z.v.i z.v.s z.v.b = false → _) at HS2
      change Hid (rightB z.v.k z.v.i z.v.s z.v.b = true → _) at HS3
      have HB3 := Lib.hid (HB2.out.trans (kb.mono HB2.out.size))
      obtain ⟨d0, d1, d2, d3, d4⟩ := HD.out.below kb (by simp)
      cases hr : rightB z.v.k z.v.i z.v.s z.v.b
      · have HX := Lib.hid (HS2.out hr)
        clear hr kb HS HS2 HS3
        go_wp2_with fail
        go_ret
        exact ⟨by rw [HX.out]; rfl, HB3.out⟩
      · have HX := Lib.hid (HS3.out hr)
        clear hr kb HS HS2 HS3
        go_wp2_with fail
        go_roundw
        case rel => exact ⟨n + 1, z.x + 1, by omega, by go_num, by go_num, by omega, by omega, HX, HB3⟩
        case measure => simp [intOf]; omega
end Go.Proofs.YtjohiehlnbgdaaaDoor
