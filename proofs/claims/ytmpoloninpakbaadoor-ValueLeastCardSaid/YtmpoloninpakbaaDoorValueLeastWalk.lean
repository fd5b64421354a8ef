/- The walk of the law ValueLeast: with any list of values it answers true. -/
import Derived.Test.YtmpoloninpakbaaDoorValAwake
import Derived.Test.YtmpoloninpakbaaDoorValLeast
import Derived.Test.YtmpoloninpakbaaDoorValRowOpen
import Derived.Deep.QuietTactic
import Derived.BigQuiet
import Derived.Deep.RegionHeld3
namespace Go.Proofs.YtmpoloninpakbaaDoor.valueLeast
open Go.RowKit
set_option linter.unusedVariables false

set_option maxHeartbeats 1000000 in
theorem walkMany (a : Option Addr) (len cap : Nat) (w : World) (hl : 30 < len) (hm : len ≤ maxLen) (hL : Laid w) :
    Calls Tryd.prog 6 #[.slice a len cap] w fun e w' => e = .returned (.bool true) ∧ Below w.heap.size w w' := by
  unfold maxLen at hm
  have t1 : decide ((30 : Int) < (len : Int)) = true := by simp; omega
  have H1 := Lib.hid (awake_calls w hL)
  clear hL
  go_enter Tryd.func6, Tryd.ntmps6
  go_wp2_with fail
  refine H1.out.mono ?_
  rintro e w1 ⟨rfl, hb⟩
  go_wp2_with fail
  go_ret
  exact ⟨rfl, hb⟩

set_option maxHeartbeats 1000000 in
theorem walkNone (a : Option Addr) (cap : Nat) (w : World) (hL : Laid w) :
    Calls Tryd.prog 6 #[.slice a 0 cap] w fun e w' => e = .returned (.bool true) ∧ Below w.heap.size w w' := by
  have H1 := Lib.hid (fun w1 (hb : Below w.heap.size w w1) => awake_calls w1 (hL.below hb))
  have H2 := Lib.hid (leastNone_calls a cap w)
  clear hL
  go_enter Tryd.func6, Tryd.ntmps6
  go_wp2_with fail
  go_loop [3] (fun i => i = .int .i64 0) (fun _ => 0)
  case atStart => rfl
  case round =>
    obtain rfl := hrel
    go_wp2_with fail
    go_loop [4, 5] (fun p i => p = .int .i64 (-1) ∧ i = .int .i64 0) (fun _ _ => 0)
    case atStart => exact ⟨rfl, rfl⟩
    case round =>
      obtain ⟨rfl, rfl⟩ := hrel
      go_wp2_with fail
      refine H2.out.mono ?_
      rintro e w1 ⟨rfl, k1⟩
      go_wp2_with fail
      refine (H1.out _ k1).mono ?_
      rintro e w2 ⟨rfl, k2⟩
      go_wp2_with fail
      go_ret
      exact ⟨rfl, k1.trans (k2.mono k1.size)⟩

set_option maxHeartbeats 4000000 in
set_option maxRecDepth 100000 in
theorem walkSome (g off cap : Nat) (L : List Vd) (w : World) (hr : VRow w g off L) (hl : L.length ≤ 30) (hss : ∀ n, n < L.length → (L.getD n default).s.size ≤ 9223372036854775807) (hL : Laid w) :
    Calls Tryd.prog 6 #[.slice (some ⟨g, off, none⟩) L.length cap] w fun e w' => e = .returned (.bool true) ∧ Below w.heap.size w w' := by
  have HR := Lib.hid hr
  obtain ⟨len, hlen⟩ : ∃ len, len = L.length := ⟨_, rfl⟩
  have HLen := Lib.hid hlen
  have HSS := Lib.hid hss
  have HLeast := Lib.hid (fun w1 (hb : Below w.heap.size w w1) => least_calls g off cap L w1 (hr.below hb) (by omega))
  rw [← hlen] at hl HLeast ⊢
  have HAw := Lib.hid (fun w1 (hb : Below w.heap.size w w1) => awake_calls w1 (hL.below hb))
  have t0 : decide ((30 : Int) < (len : Int)) = false := by simp; omega
  clear hr hlen hss hL
  go_enter Tryd.func6, Tryd.ntmps6
  go_wp2_with fail
  go_loopw [3] (fun i wr => ∃ (n : Nat), n ≤ len ∧ i = .int .i64 n ∧ Hid (∀ j, j < n → rightB (L.getD j default).k (L.getD j default).i (L.getD j default).s (L.getD j default).b = true) ∧ Hid (Below w.heap.size w wr)) (fun i _ => len - (intOf i).toNat)
  case atStart => exact ⟨0, Nat.zero_le _, rfl, Lib.hid (fun j hj => absurd hj (Nat.not_lt_zero _)), Lib.hid (Below.refl _ _)⟩
  case round =>
    obtain ⟨n, hn, rfl, HRt, HK⟩ := hrel
    by_cases h : n < len
    case pos =>
      have hE := (HR.out.below HK.out).at' n (by rw [← HLen.out]; exact h)
      have hS := HSS.out n (by rw [← HLen.out]; exact h)
      obtain ⟨v, hv⟩ : ∃ v, v = L.getD n default := ⟨_, rfl⟩
      rw [← hv] at hE hS
      have HV := Lib.hid hv
      obtain ⟨c0, c1, c2, c3⟩ := hE
      have h1 := fun w1 => few_calls v.k v.i v.s v.b w1 hS
      have h2 := fun w1 => refVRight_calls v.k v.i v.s v.b w1 hS
      clear hv
      cases q1 : decide ((v.s.size : Int) ≤ 5000)
      · rw [q1] at h1
        have H1 := Lib.hid h1
        clear h1 h2 q1 hS
        go_wp2_with fail
        refine (H1.out _).mono ?_
        rintro e w1 ⟨rfl, k1⟩
        have HK1 := Lib.hid (HK.out.trans (k1.mono HK.out.size))
        clear c0 c1 c2 c3 k1
        go_wp2_with fail
        refine (HAw.out _ HK1.out).mono ?_
        rintro e w2 ⟨rfl, k2⟩
        go_wp2_with fail
        go_ret
        exact ⟨rfl, HK1.out.trans (k2.mono HK1.out.size)⟩
      · rw [q1] at h1
        have H1 := Lib.hid h1
        cases q2 : rightB v.k v.i v.s v.b
        · rw [q2] at h2
          have H2 := Lib.hid h2
          clear h1 h2 q1 q2 hS
          go_wp2_with fail
          refine (H1.out _).mono ?_
          rintro e w1 ⟨rfl, k1⟩
          have HK1 := Lib.hid (HK.out.trans (k1.mono HK.out.size))
          have hE := (HR.out.below HK1.out).at' n (by rw [← HLen.out]; exact h)
          rw [← HV.out] at hE
          clear c0 c1 c2 c3 k1
          obtain ⟨c0, c1, c2, c3⟩ := hE
          go_wp2_with fail
          refine (H2.out _).mono ?_
          rintro e w2 ⟨rfl, k2⟩
          have HK2 := Lib.hid (HK1.out.trans (k2.mono HK1.out.size))
          clear c0 c1 c2 c3 k2
          go_wp2_with fail
          refine (HAw.out _ HK2.out).mono ?_
          rintro e w3 ⟨rfl, k3⟩
          go_wp2_with fail
          go_ret
          exact ⟨rfl, HK2.out.trans (k3.mono HK2.out.size)⟩
        · rw [q2] at h2
          have H2 := Lib.hid h2
          have HN : Hid (∀ j, j < n + 1 → rightB (L.getD j default).k (L.getD j default).i (L.getD j default).s (L.getD j default).b = true) := Lib.hid (fun j hj => by
            by_cases hjn : j < n
            · exact HRt.out j hjn
            · rw [show j = n by omega, ← HV.out]; exact q2)
          clear h1 h2 q1 q2 hS
          go_wp2_with fail
          refine (H1.out _).mono ?_
          rintro e w1 ⟨rfl, k1⟩
          have HK1 := Lib.hid (HK.out.trans (k1.mono HK.out.size))
          have hE := (HR.out.below HK1.out).at' n (by rw [← HLen.out]; exact h)
          rw [← HV.out] at hE
          clear c0 c1 c2 c3 k1
          obtain ⟨c0, c1, c2, c3⟩ := hE
          go_wp2_with fail
          refine (H2.out _).mono ?_
          rintro e w2 ⟨rfl, k2⟩
          have HK2 := Lib.hid (HK1.out.trans (k2.mono HK1.out.size))
          clear c0 c1 c2 c3 k2
          go_wp2_with fail
          go_roundw
          case rel => exact ⟨n + 1, by omega, by go_num, HN, HK2⟩
          case measure => simp [intOf]; omega
    case neg =>
      have HAll : Hid (∀ j, j < len → rightB (L.getD j default).k (L.getD j default).i (L.getD j default).s (L.getD j default).b = true) := Lib.hid (fun j hj => HRt.out j (by omega))
      clear HRt
      go_wp2_with fail
      go_loopw [4, 5] (fun p i wr2 => ∃ (n : Nat), n ≤ len ∧ i = .int .i64 n ∧ p = .int .i64 (leastTo L n) ∧ Hid (Below w.heap.size w wr2)) (fun _ i _ => len - (intOf i).toNat)
      case atStart => exact ⟨0, Nat.zero_le _, rfl, rfl, HK⟩
      case round =>
        clear hn h HK
        obtain ⟨n, hn, rfl, rfl, HK⟩ := hrel
        by_cases h : n < len
        case neg =>
          have HN : Hid (leastTo L n = leastTo L len) := Lib.hid (by rw [show n = len by omega])
          have H5 := Lib.hid (HLeast.out _ HK.out)
          rw [← HN.out] at H5
          clear HLeast
          go_wp2_with fail
          refine H5.out.mono ?_
          rintro e w1 ⟨rfl, k1⟩
          have HK1 := Lib.hid (HK.out.trans (k1.mono HK.out.size))
          clear k1
          go_wp2_with fail
          refine (HAw.out _ HK1.out).mono ?_
          rintro e w2 ⟨rfl, k2⟩
          go_wp2_with fail
          go_ret
          exact ⟨rfl, HK1.out.trans (k2.mono HK1.out.size)⟩
        case pos =>
          by_cases hp0 : leastTo L n < 0
          · have HX : Hid (leastTo L (n + 1) = n) := Lib.hid (least_new hp0)
            obtain ⟨p, hp⟩ : ∃ p, p = leastTo L n := ⟨_, rfl⟩
            rw [← hp] at hp0 ⊢
            have t1 : decide (p < 0) = true := by simpa using hp0
            clear hp hp0
            go_wp2_with fail
            go_quiet (fail)
            go_wp2_with fail
            go_roundw
            case rel => exact ⟨n + 1, by omega, by go_num, by rw [HX.out], Lib.hid (below_drewN _ HK.out)⟩
            case measure => simp [intOf]; omega
          · obtain ⟨m, hm⟩ : ∃ m : Nat, (m : Int) = leastTo L n := ⟨(leastTo L n).toNat, Int.toNat_of_nonneg (by omega)⟩
            have hmn : m < len := by have := (least_bounds L n).2.1; omega
            have hE := (HR.out.below HK.out).at' n (by rw [← HLen.out]; exact h)
            have hD := (HR.out.below HK.out).at' m (by rw [← HLen.out]; exact hmn)
            have hr1 := HAll.out n h
            have hr2 := HAll.out m hmn
            have hlt : (leastTo L n).toNat = m := by rw [← hm]; rfl
            obtain ⟨v, hv⟩ : ∃ v, v = L.getD n default := ⟨_, rfl⟩
            obtain ⟨u, hu⟩ : ∃ u, u = L.getD m default := ⟨_, rfl⟩
            have HX1 := Lib.hid (fun q : lessD (L.getD n default) (L.getD (leastTo L n).toNat default) = true => least_less q)
            have HX2 := Lib.hid (fun q : lessD (L.getD n default) (L.getD (leastTo L n).toNat default) = false => least_keep hp0 q)
            rw [hlt, ← hv, ← hu] at HX1 HX2
            rw [← hv] at hE hr1
            rw [← hu] at hD hr2
            have HB8 : Hid (wr.cell? ⟨g, off + n * 4, none⟩ = some (.int .i64 v.k) ∧ wr.cell? ⟨g, off + n * 4 + 1, none⟩ = some (.int .i64 v.i) ∧ wr.cell? ⟨g, off + n * 4 + 2, none⟩ = some (.string v.s) ∧ wr.cell? ⟨g, off + n * 4 + 3, none⟩ = some (.bool v.b) ∧ wr.cell? ⟨g, off + m * 4, none⟩ = some (.int .i64 u.k) ∧ wr.cell? ⟨g, off + m * 4 + 1, none⟩ = some (.int .i64 u.i) ∧ wr.cell? ⟨g, off + m * 4 + 2, none⟩ = some (.string u.s) ∧ wr.cell? ⟨g, off + m * 4 + 3, none⟩ = some (.bool u.b)) := Lib.hid ⟨hE.1, hE.2.1, hE.2.2.1, hE.2.2.2, hD.1, hD.2.1, hD.2.2.1, hD.2.2.2⟩
            have HAt := Lib.hid (fun w1 (hb : Below w.heap.size w w1) => (show w1.cell? ⟨g, off + n * 4, none⟩ = some (.int .i64 v.k) ∧ w1.cell? ⟨g, off + n * 4 + 1, none⟩ = some (.int .i64 v.i) ∧ w1.cell? ⟨g, off + n * 4 + 2, none⟩ = some (.string v.s) ∧ w1.cell? ⟨g, off + n * 4 + 3, none⟩ = some (.bool v.b) ∧ w1.cell? ⟨g, off + m * 4, none⟩ = some (.int .i64 u.k) ∧ w1.cell? ⟨g, off + m * 4 + 1, none⟩ = some (.int .i64 u.i) ∧ w1.cell? ⟨g, off + m * 4 + 2, none⟩ = some (.string u.s) ∧ w1.cell? ⟨g, off + m * 4 + 3, none⟩ = some (.bool u.b) from by
              have hE := (HR.out.below hb).at' n (by rw [← HLen.out]; exact h)
              have hD := (HR.out.below hb).at' m (by rw [← HLen.out]; exact hmn)
              rw [← hv] at hE
              rw [← hu] at hD
              exact ⟨hE.1, hE.2.1, hE.2.2.1, hE.2.2.2, hD.1, hD.2.1, hD.2.2.1, hD.2.2.2⟩))
            have hlq := fun w1 => refVLess_calls v.k v.i v.s v.b u.k u.i u.s u.b w1 (by have := right_size hr1; omega) (by have := right_size hr2; omega) (right_kind hr1)
            rw [← hm]
            have HM := Lib.hid hm
            have t1 : decide ((m : Int) < 0) = false := by simp
            have i1 : (0 : Int) ≤ (n : Int) := by omega
            have i2 : (n : Int) < (len : Int) := by omega
            have i3 : (0 : Int) ≤ (m : Int) := by omega
            have i4 : (m : Int) < (len : Int) := by omega
            clear hE hD hr1 hr2 hlt hv hu hm hp0
            cases hq : lessB v.k v.i v.s v.b u.k u.i u.s u.b
            · rw [hq] at hlq
              have HQ := Lib.hid hlq
              have HX : Hid (leastTo L (n + 1) = m) := Lib.hid (by rw [HM.out]; exact HX2.out hq)
              clear hlq hq HX1 HX2
              go_wp2_with fail
              go_region_held3 (fun w1 => w1.cell? ⟨g, off + n * 4, none⟩ = some (.int .i64 v.k) ∧ w1.cell? ⟨g, off + n * 4 + 1, none⟩ = some (.int .i64 v.i) ∧ w1.cell? ⟨g, off + n * 4 + 2, none⟩ = some (.string v.s) ∧ w1.cell? ⟨g, off + n * 4 + 3, none⟩ = some (.bool v.b) ∧ w1.cell? ⟨g, off + m * 4, none⟩ = some (.int .i64 u.k) ∧ w1.cell? ⟨g, off + m * 4 + 1, none⟩ = some (.int .i64 u.i) ∧ w1.cell? ⟨g, off + m * 4 + 2, none⟩ = some (.string u.s) ∧ w1.cell? ⟨g, off + m * 4 + 3, none⟩ = some (.bool u.b)) (first | exact HB9.out | exact HB8.out) (first
                | (go_at_call 16; refine (HQ.out _).mono ?_; rintro e w4 ⟨rfl, k6⟩; have HK4 := Lib.hid (HK.out.drew.trans (k6.mono HK.out.drew.size)); have HB9 := Lib.hid (HAt.out _ HK4.out); clear k6))
              go_wp2_with fail
              go_roundw
              case rel => exact ⟨n + 1, by omega, by go_num, by rw [HX.out], HK4⟩
              case measure => simp [intOf]; omega
            · rw [hq] at hlq
              have HQ := Lib.hid hlq
              have HX : Hid (leastTo L (n + 1) = n) := Lib.hid (HX1.out hq)
              clear hlq hq HX1 HX2
              go_wp2_with fail
              go_region_held3 (fun w1 => w1.cell? ⟨g, off + n * 4, none⟩ = some (.int .i64 v.k) ∧ w1.cell? ⟨g, off + n * 4 + 1, none⟩ = some (.int .i64 v.i) ∧ w1.cell? ⟨g, off + n * 4 + 2, none⟩ = some (.string v.s) ∧ w1.cell? ⟨g, off + n * 4 + 3, none⟩ = some (.bool v.b) ∧ w1.cell? ⟨g, off + m * 4, none⟩ = some (.int .i64 u.k) ∧ w1.cell? ⟨g, off + m * 4 + 1, none⟩ = some (.int .i64 u.i) ∧ w1.cell? ⟨g, off + m * 4 + 2, none⟩ = some (.string u.s) ∧ w1.cell? ⟨g, off + m * 4 + 3, none⟩ = some (.bool u.b)) (first | exact HB9.out | exact HB8.out) (first
                | (go_at_call 16; refine (HQ.out _).mono ?_; rintro e w4 ⟨rfl, k6⟩; have HK4 := Lib.hid (HK.out.drew.trans (k6.mono HK.out.drew.size)); have HB9 := Lib.hid (HAt.out _ HK4.out); clear k6))
              go_wp2_with fail
              go_roundw
              case rel => exact ⟨n + 1, by omega, by go_num, by rw [HX.out], HK4⟩
              case measure => simp [intOf]; omega

theorem walk (a : Option Addr) (len cap : Nat) (L : List Vd) (w : World) (h : IsVRow w a len L) (hL : Laid w) :
    Calls Tryd.prog 6 #[.slice a len cap] w fun e w' => e = .returned (.bool true) ∧ Below w.heap.size w w' := by
  rcases h with ⟨rfl, rfl⟩ | ⟨hm, hlen, ⟨g, off, rfl, hr⟩, hss⟩
  · exact walkNone a cap w hL
  · by_cases h : 30 < len
    · exact walkMany _ len cap w h hm hL
    · subst hlen
      exact walkSome g off cap L w hr (by omega) (fun n hn => by have := hss n hn; unfold maxLen at this; omega) hL
end Go.Proofs.YtmpoloninpakbaaDoor.valueLeast
