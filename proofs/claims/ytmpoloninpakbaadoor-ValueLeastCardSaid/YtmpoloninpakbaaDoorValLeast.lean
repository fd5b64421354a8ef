/- What value.Least does with a row of values and the function that hands a value back. -/
import Derived.Test.YtmpoloninpakbaaDoorValRow
namespace Go.Proofs.YtmpoloninpakbaaDoor
open Go.RowKit
set_option linter.unusedVariables false

set_option maxHeartbeats 400000 in
theorem same_calls (k i : Int) (s : ByteArray) (b : Bool) (w : World) :
    Calls Tryd.prog 18 #[.agg #[.int .i64 k, .int .i64 i, .string s, .bool b]] w fun e w' => e = .returned (.agg #[.int .i64 k, .int .i64 i, .string s, .bool b]) ∧ Below w.heap.size w w' := by
  go_enter Tryd.func18, Tryd.ntmps18
  go_wp2
  refine bodyPost_ret (v := .agg #[.int .i64 k, .int .i64 i, .string s, .bool b]) ?_ rfl ⟨rfl, ?_⟩
  · rw [results_cell rfl]
    go_simp
  · repeat' (first | exact Below.refl _ _ | refine Below.alloc ?_ (by simp <;> omega) _)

theorem notNil (w : World) : (binOp .eql 37 (.func (.func 18) #[] #[]) .nilFunc).run Tryd.prog w = .ok (.bool false) w := by kernel_rfl

/-- What is kept from round to round: the least value's own cells. -/
def Keeps (w : World) (c : Vd) (wr : World) : Prop := Boxed w.heap.size c.k c.i c.s c.b wr ∧ Free4 w.heap.size wr ∧ Below w.heap.size w wr ∧ w.heap.size < wr.heap.size

theorem keeps_alloc {w wr : World} {c : Vd} (h : Keeps w c wr) (o : Obj) : Keeps w c (wr.alloc o) :=
  have hb : Below wr.heap.size wr (wr.alloc o) := (Below.refl _ _).alloc (Nat.le_refl _) _
  ⟨h.1.below hb h.2.2.2, h.2.1.below hb h.2.2.2, h.2.2.1.trans (hb.mono h.2.2.1.size), Nat.lt_of_lt_of_le h.2.2.2 hb.size⟩
theorem keeps_step {w wr w' : World} {c : Vd} (h : Keeps w c wr) (hb : Below wr.heap.size wr w') : Keeps w c w' :=
  ⟨h.1.below hb h.2.2.2, h.2.1.below hb h.2.2.2, h.2.2.1.trans (hb.mono h.2.2.1.size), Nat.lt_of_lt_of_le h.2.2.2 hb.size⟩
theorem keeps_set {w wr : World} {c : Vd} (h : Keeps w c wr) (k i : Int) (s : ByteArray) (b : Bool) :
    Keeps w ⟨k, i, s, b⟩ ((((wr.setCell ⟨w.heap.size, 0, none⟩ (.int .i64 k)).setCell ⟨w.heap.size, 1, none⟩ (.int .i64 i)).setCell ⟨w.heap.size, 2, none⟩ (.string s)).setCell ⟨w.heap.size, 3, none⟩ (.bool b)) :=
  ⟨h.1.set k i s b, h.2.1.set _ _ _ _ _ _ _ _, below_set4 h.2.2.1 (Nat.le_refl _) _ _ _ _, by rw [size_set4]; exact h.2.2.2⟩

set_option maxHeartbeats 4000000 in
set_option maxRecDepth 100000 in
theorem least_calls (g off cap : Nat) (L : List Vd) (w : World) (hr : VRow w g off L) (hl : L.length ≤ 9223372036854775806) :
    Calls Tryd.prog 17 #[.slice (some ⟨g, off, none⟩) L.length cap, .func (.func 18) #[] #[]] w fun e w' => e = .returned (.int .i64 (leastTo L L.length)) ∧ Below w.heap.size w w' := by
  have hfn := notNil
  have HR := Lib.hid hr
  obtain ⟨len, hlen⟩ : ∃ len, len = L.length := ⟨_, rfl⟩
  have HLen := Lib.hid hlen
  rw [← hlen] at hl ⊢
  have HSame := Lib.hid (fun k i s b w1 => same_calls k i s b w1)
  have HLess := Lib.hid (fun k i s b k' i' s' b' w1 => vLess_calls k i s b k' i' s' b' w1)
  have HK0 : Hid (Keeps w ⟨0, 0, ⟨#[]⟩, false⟩ (w.alloc (.cells #[.int .i64 0, .int .i64 0, .string ⟨#[]⟩, .bool false] 23))) := Lib.hid ⟨Boxed.new _ _ _ _ _ _, Free4.new _ _ _, (Below.refl _ _).alloc (Nat.le_refl _) _, by simp⟩
  clear hr hlen
  go_enter Tryd.func17, Tryd.ntmps17
  go_wp2_with fail
  go_loopw [6, 15] (fun p i wr => ∃ (n : Nat) (c : Vd), n ≤ len ∧ i = .int .i64 n ∧ p = .int .i64 (leastTo L n) ∧ Hid (Keeps w c wr) ∧ Hid (0 ≤ leastTo L n → c = L.getD (leastTo L n).toNat default)) (fun _ i _ => len - (intOf i).toNat)
  case atStart => exact ⟨0, _, Nat.zero_le _, rfl, rfl, HK0, Lib.hid (fun h => absurd h (by simp [leastTo]))⟩
  case round =>
    clear HK0
    obtain ⟨n, c, hn, rfl, rfl, HK, HC⟩ := hrel
    by_cases h : n < len
    case neg =>
      have HN : Hid (leastTo L n = leastTo L len) := Lib.hid (by rw [show n = len by omega])
      go_wp2_with fail
      go_ret
      rw [← HN.out]
      exact ⟨rfl, HK.out.2.2.1⟩
    case pos =>
      have hE := (HR.out.below HK.out.2.2.1).at' n (by rw [← HLen.out]; exact h)
      obtain ⟨v, hv⟩ : ∃ v, v = L.getD n default := ⟨_, rfl⟩
      rw [← hv] at hE
      have HV := Lib.hid hv
      obtain ⟨c0, c1, c2, c3⟩ := hE
      obtain ⟨p, hp⟩ : ∃ p, p = leastTo L n := ⟨_, rfl⟩
      have HP := Lib.hid hp
      rw [← hp]
      have hwr : w.heap.size < wr.heap.size := HK.out.2.2.2
      clear hv hp
      go_wp2_with fail
      refine (HSame.out _ _ _ _ _).mono ?_
      rintro e w1 ⟨rfl, k1⟩
      have HK1 := Lib.hid (keeps_step (keeps_alloc HK.out _) k1)
      clear c0 c1 c2 c3 hwr k1
      by_cases hp0 : p < 0
      · have t1 : decide (p < 0) = true := by simpa using hp0
        have hw1 : w.heap.size < w1.heap.size := HK1.out.2.2.2
        obtain ⟨d0, d1, d2, d3⟩ := HK1.out.1
        obtain ⟨f0, f1, f2, f3⟩ := HK1.out.2.1
        have HX : Hid (leastTo L (n + 1) = n) := Lib.hid (least_new (by rw [← HP.out]; exact hp0))
        clear hp0
        go_wp2_with fail
        go_roundw
        case rel => exact ⟨n + 1, ⟨v.k, v.i, v.s, v.b⟩, by omega, by go_num, by rw [HX.out], Lib.hid (keeps_alloc (keeps_set HK1.out _ _ _ _) _), Lib.hid (fun _ => by rw [HX.out, Int.toNat_natCast, ← HV.out])⟩
        case measure => simp [intOf]; omega
      · have t1 : decide (p < 0) = false := by simpa using hp0
        have hw1 : w.heap.size < w1.heap.size := HK1.out.2.2.2
        obtain ⟨d0, d1, d2, d3⟩ := HK1.out.1
        have HCV : Hid (c = L.getD (leastTo L n).toNat default) := Lib.hid (HC.out (by rw [← HP.out]; omega))
        have hlq := fun w2 => HLess.out v.k v.i v.s v.b c.k c.i c.s c.b w2
        have HP0 := Lib.hid hp0
        clear hp0
        cases hq : lessB v.k v.i v.s v.b c.k c.i c.s c.b
        · rw [hq] at hlq
          have HQ := Lib.hid hlq
          have HX : Hid (leastTo L (n + 1) = p) := Lib.hid (by rw [HP.out]; exact least_keep (by rw [← HP.out]; exact HP0.out) (by rw [← HCV.out, ← HV.out]; exact hq))
          clear hlq hq
          go_wp2_with fail
          refine (HQ.out _).mono ?_
          rintro e w2 ⟨rfl, k2⟩
          have HK2 := Lib.hid (keeps_step (keeps_alloc HK1.out _) k2)
          clear d0 d1 d2 d3 hw1 k2
          go_wp2_with fail
          go_roundw
          case rel => exact ⟨n + 1, c, by omega, by go_num, by rw [HX.out], HK2, Lib.hid (fun _ => by rw [HX.out, HP.out, ← HCV.out])⟩
          case measure => simp [intOf]; omega
        · rw [hq] at hlq
          have HQ := Lib.hid hlq
          have HX : Hid (leastTo L (n + 1) = n) := Lib.hid (least_less (by rw [← HCV.out, ← HV.out]; exact hq))
          have HBV := Lib.hid (Boxed.new v.k v.i v.s v.b w1 23)
          have HSV : Hid (w1.heap.size < (w1.alloc (.cells #[.int .i64 v.k, .int .i64 v.i, .string v.s, .bool v.b] 23)).heap.size) := Lib.hid (by simp)
          clear hlq hq
          go_wp2_with fail
          refine (HQ.out _).mono ?_
          rintro e w2 ⟨rfl, k2⟩
          have HK2 := Lib.hid (keeps_step (keeps_alloc HK1.out _) k2)
          obtain ⟨b0, b1, b2, b3⟩ := HBV.out.below k2 HSV.out
          clear d0 d1 d2 d3 hw1 k2
          obtain ⟨d0, d1, d2, d3⟩ := HK2.out.1
          obtain ⟨f0, f1, f2, f3⟩ := HK2.out.2.1
          go_wp2_with fail
          go_roundw
          case rel => exact ⟨n + 1, ⟨v.k, v.i, v.s, v.b⟩, by omega, by go_num, by rw [HX.out], Lib.hid (keeps_set HK2.out _ _ _ _), Lib.hid (fun _ => by rw [HX.out, Int.toNat_natCast, ← HV.out])⟩
          case measure => simp [intOf]; omega

set_option maxHeartbeats 1000000 in
theorem leastNone_calls (a : Option Addr) (cap : Nat) (w : World) :
    Calls Tryd.prog 17 #[.slice a 0 cap, .func (.func 18) #[] #[]] w fun e w' => e = .returned (.int .i64 (-1)) ∧ Below w.heap.size w w' := by
  have hfn := notNil
  have HB := Lib.hid ((Below.refl w.heap.size w).alloc (Nat.le_refl _) (.cells #[.int .i64 0, .int .i64 0, .string ⟨#[]⟩, .bool false] 23))
  go_enter Tryd.func17, Tryd.ntmps17
  go_wp2_with fail
  go_loopw [6, 15] (fun p i wr => i = .int .i64 0 ∧ p = .int .i64 (-1) ∧ Hid (Below w.heap.size w wr)) (fun _ _ _ => 0)
  case atStart => exact ⟨rfl, rfl, HB⟩
  case round =>
    obtain ⟨rfl, rfl, HK⟩ := hrel
    go_wp2_with fail
    go_ret
    exact ⟨rfl, HK.out⟩
end Go.Proofs.YtmpoloninpakbaaDoor
