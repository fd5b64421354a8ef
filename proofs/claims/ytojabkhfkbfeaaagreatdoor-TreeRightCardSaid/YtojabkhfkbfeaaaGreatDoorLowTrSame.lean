/- Contracts of a lower layer, several texts in one. -/
import Derived.Test.YtojabkhfkbfeaaaGreatDoorTreeSameA
import Derived.BigQuiet
import Derived.Test.YtojabkhfkbfeaaaGreatDoorTreeSameF
import Derived.Deep.RegionHeld3
/- TreeRefSameA -/
namespace Go.Proofs.YtojabkhfkbfeaaaGreatDoor
open Go.RowKit
set_option linter.unusedVariables false

theorem int_ne (x y : Int) : (x != y) = !decide (x = y) := by by_cases e : x = y <;> simp [e]
theorem len_dec {m n : Nat} (h : decide ((m : Int) = (n : Int)) = true) : m = n := by have := of_decide_eq_true h; omega
theorem take_allG {α : Type} {L M : List α} {n : Nat} (h : L.take n = M.take n) (h1 : L.length ≤ n) (h2 : M.length ≤ n) : L = M := by
  rwa [List.take_of_length_le h1, List.take_of_length_le h2] at h
theorem len_and {α : Type} [DecidableEq α] (L M : List α) : decide (L = M) = (decide ((L.length : Int) = (M.length : Int)) && decide (L = M)) := by
  by_cases h : L = M
  · subst h; simp
  · simp [h]

set_option maxHeartbeats 8000000 in
set_option maxRecDepth 100000 in
theorem refSameSy_calls {Y Y' : TyT} {O O' : Prop} (x y : Sy) (cs cs' : List Value) (w : World) (hx : rSy Y O w cs x) (hy : rSy Y' O' w cs' y) :
    Calls Tryz.prog 50 #[.agg cs.toArray, .agg cs'.toArray] w fun e w' => e = .returned (.bool (decide (x = y))) ∧ Below w.heap.size w w' := by
  obtain ⟨a, c, rfl, g1, _⟩ := hx
  obtain ⟨a', c', rfl, g1', _⟩ := hy
  have HB : Hid (Below w.heap.size w ((w.alloc (.cells #[.string x.n, .slice a x.ar.length c, .int .i64 x.l, .int .i64 x.c] 47)).alloc (.cells #[.string y.n, .slice a' y.ar.length c', .int .i64 y.l, .int .i64 y.c] 47))) := Lib.hid (((Below.refl w.heap.size w).alloc (Nat.le_refl _) _).alloc (by simp) _)
  have HK0 : Hid (Below (w.heap.size + 2) ((w.alloc (.cells #[.string x.n, .slice a x.ar.length c, .int .i64 x.l, .int .i64 x.c] 47)).alloc (.cells #[.string y.n, .slice a' y.ar.length c', .int .i64 y.l, .int .i64 y.c] 47)) ((w.alloc (.cells #[.string x.n, .slice a x.ar.length c, .int .i64 x.l, .int .i64 x.c] 47)).alloc (.cells #[.string y.n, .slice a' y.ar.length c', .int .i64 y.l, .int .i64 y.c] 47))) := Lib.hid (Below.refl _ _)
  have HS : Hid (decide (x = y) = (decide (x.n = y.n) && (decide (x.l = y.l) && (decide (x.c = y.c) && (decide ((x.ar.length : Int) = (y.ar.length : Int)) && decide (x.ar = y.ar)))))) := Lib.hid (by rw [decSy, len_and x.ar]; cases decide (x.n = y.n) <;> cases decide (x.l = y.l) <;> cases decide (x.c = y.c) <;> cases decide ((x.ar.length : Int) = (y.ar.length : Int)) <;> cases decide (x.ar = y.ar) <;> rfl)
  have t0 := tl_dec x.n y.n
  have t1 := int_ne x.l y.l
  have t2 := int_ne x.c y.c
  have t3 := int_ne (x.ar.length : Int) (y.ar.length : Int)
  have s0 := g1.small
  have s0' := g1'.small
  have G1 := Lib.hid g1
  have G1' := Lib.hid g1'
  have HBk : ∀ (w1 : World), Hid (Below (w.heap.size + 2) ((w.alloc (.cells #[.string x.n, .slice a x.ar.length c, .int .i64 x.l, .int .i64 x.c] 47)).alloc (.cells #[.string y.n, .slice a' y.ar.length c', .int .i64 y.l, .int .i64 y.c] 47)) w1) → Below w.heap.size w w1 := fun _ h => HB.out.trans (h.out.mono (Nat.le_add_right _ 2))
  have HBK := Lib.hid HBk
  clear HBk
  clear g1 g1'
  cases e0 : decide (x.n = y.n)
  · rw [e0] at t0 HS
    clear e0
    go_enter Tryz.func50, Tryz.ntmps50
    go_wp2_with fail
    go_ret
    exact ⟨by rw [HS.out]; rfl, HBK.out _ HK0⟩
  · rw [e0] at t0 HS
    clear e0
    cases e1 : decide (x.l = y.l)
    · rw [e1, Bool.not_false] at t1
      rw [e1] at HS
      clear e1
      go_enter Tryz.func50, Tryz.ntmps50
      go_wp2_with fail
      go_ret
      exact ⟨by rw [HS.out]; rfl, HBK.out _ HK0⟩
    · rw [e1, Bool.not_true] at t1
      rw [e1] at HS
      clear e1
      cases e2 : decide (x.c = y.c)
      · rw [e2, Bool.not_false] at t2
        rw [e2] at HS
        clear e2
        go_enter Tryz.func50, Tryz.ntmps50
        go_wp2_with fail
        go_ret
        exact ⟨by rw [HS.out]; rfl, HBK.out _ HK0⟩
      · rw [e2, Bool.not_true] at t2
        rw [e2] at HS
        clear e2
        cases e3 : decide ((x.ar.length : Int) = (y.ar.length : Int))
        · rw [e3, Bool.not_false] at t3
          rw [e3] at HS
          clear e3
          go_enter Tryz.func50, Tryz.ntmps50
          go_wp2_with fail
          go_ret
          exact ⟨by rw [HS.out]; rfl, HBK.out _ HK0⟩
        · rw [e3, Bool.not_true] at t3
          rw [e3] at HS
          have E3 := Lib.hid (len_dec e3)
          clear e3
          go_enter Tryz.func50, Tryz.ntmps50
          go_wp2_with fail
          go_loopw [5] (fun i wr => ∃ (n : Nat), n ≤ x.ar.length ∧ i = .int .i64 n ∧ Hid (x.ar.take n = y.ar.take n) ∧ Hid (Below (w.heap.size + 2) ((w.alloc (.cells #[.string x.n, .slice a x.ar.length c, .int .i64 x.l, .int .i64 x.c] 47)).alloc (.cells #[.string y.n, .slice a' y.ar.length c', .int .i64 y.l, .int .i64 y.c] 47)) wr)) (fun i _ => x.ar.length - (intOf i).toNat)
          case atStart => exact ⟨0, Nat.zero_le _, rfl, Lib.hid rfl, HK0⟩
          case round =>
            obtain ⟨n, hn, rfl, HT, HL0⟩ := hrel
            obtain ⟨wr0, hwr⟩ : ∃ u, u = wr := ⟨_, rfl⟩
            subst hwr
            obtain ⟨u, v⟩ := box2 HL0.out
            have z0 : wr0.cell? ⟨w.heap.size, 1, none⟩ = some (.slice a x.ar.length c) := u 1 _ rfl
            have z1 : wr0.cell? ⟨w.heap.size + 1, 1, none⟩ = some (.slice a' y.ar.length c') := v 1 _ rfl
            clear u v
            by_cases h : n < x.ar.length
            case neg =>
              have HX0 : Hid (decide (x.ar = y.ar) = true) := Lib.hid (decide_eq_true (take_allG HT.out (by omega) (by rw [← E3.out]; omega)))
              rw [HX0.out] at HS
              go_wp2_with fail
              clear z0 z1 HT
              go_ret
              exact ⟨by rw [HS.out]; rfl, HBK.out _ HL0⟩
            case pos =>
              obtain ⟨x1, hx⟩ := at_some (L := x.ar) rfl h
              obtain ⟨y1, hy⟩ := at_some (L := y.ar) rfl (show n < y.ar.length by rw [← E3.out]; exact h)
              have HW := Lib.hid (HBK.out _ HL0)
              obtain ⟨g, off, e1, hg, hc, _⟩ := (G1.out.belowF HW.out).flat hx
              obtain ⟨g', off', e2, hg', hd, _⟩ := (G1'.out.belowF HW.out).flat hy
              have h2 : (n : Int) < (x.ar.length : Int) := by omega
              have h3 : (n : Int) < (y.ar.length : Int) := by rw [← E3.out]; omega
              have h4 : (0 : Int) ≤ (n : Int) := by omega
              rw [e1] at z0
              rw [e2] at z1
              have HE := Lib.hid (take_sameG hx hy HT.out)
              have HN := Lib.hid (ne_atG hx hy)
              have c0 : wr0.cell? ⟨g, off + n * 8, none⟩ = some (.int .i64 x1.k) := hc 0 _ rfl
              have c1 : wr0.cell? ⟨g, off + n * 8 + 1, none⟩ = some (.string x1.n) := hc 1 _ rfl
              have c2 : wr0.cell? ⟨g, off + n * 8 + 2, none⟩ = some (.int .i64 x1.v.k) := hc 2 _ rfl
              have c3 : wr0.cell? ⟨g, off + n * 8 + 3, none⟩ = some (.int .i64 x1.v.i) := hc 3 _ rfl
              have c4 : wr0.cell? ⟨g, off + n * 8 + 4, none⟩ = some (.string x1.v.s) := hc 4 _ rfl
              have c5 : wr0.cell? ⟨g, off + n * 8 + 5, none⟩ = some (.bool x1.v.b) := hc 5 _ rfl
              have c6 : wr0.cell? ⟨g, off + n * 8 + 6, none⟩ = some (.int .i64 x1.l) := hc 6 _ rfl
              have c7 : wr0.cell? ⟨g, off + n * 8 + 7, none⟩ = some (.int .i64 x1.c) := hc 7 _ rfl
              have d0 : wr0.cell? ⟨g', off' + n * 8, none⟩ = some (.int .i64 y1.k) := hd 0 _ rfl
              have d1 : wr0.cell? ⟨g', off' + n * 8 + 1, none⟩ = some (.string y1.n) := hd 1 _ rfl
              have d2 : wr0.cell? ⟨g', off' + n * 8 + 2, none⟩ = some (.int .i64 y1.v.k) := hd 2 _ rfl
              have d3 : wr0.cell? ⟨g', off' + n * 8 + 3, none⟩ = some (.int .i64 y1.v.i) := hd 3 _ rfl
              have d4 : wr0.cell? ⟨g', off' + n * 8 + 4, none⟩ = some (.string y1.v.s) := hd 4 _ rfl
              have d5 : wr0.cell? ⟨g', off' + n * 8 + 5, none⟩ = some (.bool y1.v.b) := hd 5 _ rfl
              have d6 : wr0.cell? ⟨g', off' + n * 8 + 6, none⟩ = some (.int .i64 y1.l) := hd 6 _ rfl
              have d7 : wr0.cell? ⟨g', off' + n * 8 + 7, none⟩ = some (.int .i64 y1.c) := hd 7 _ rfl
              clear hc hd hx hy e1 e2
              have q1 := eqInAg x1 y1
              have q2 := guardAg
              by_cases hz : x1 = y1
              · have HX := Lib.hid (HE.out hz)
                rw [decide_eq_true hz] at q1
                clear hz
                go_wp2_with fail
                go_quiet (fail)
                go_wp2_with fail
                go_roundw
                case rel => exact ⟨n + 1, by omega, by go_num, HX, Lib.hid (below_drewN _ HL0.out)⟩
                case measure => simp [intOf]; omega
              · have HX : Hid (decide (x.ar = y.ar) = false) := Lib.hid (decide_eq_false (HN.out hz))
                rw [decide_eq_false hz] at q1
                clear hz
                rw [HX.out] at HS
                go_wp2_with fail
                go_quiet (fail)
                go_wp2_with fail
                go_ret
                exact ⟨by rw [HS.out]; simp, HBK.out _ (Lib.hid (below_drewN _ HL0.out))⟩

set_option maxHeartbeats 8000000 in
set_option maxRecDepth 100000 in
theorem refSameTs_calls {Y Y' : TyT} {O O' : Prop} (x y : Ts) (cs cs' : List Value) (w : World) (hx : rTs Y O w cs x) (hy : rTs Y' O' w cs' y) :
    Calls Tryz.prog 51 #[.agg cs.toArray, .agg cs'.toArray] w fun e w' => e = .returned (.bool (decide (x = y))) ∧ Below w.heap.size w w' := by
  obtain ⟨oa, oc, na, nc, sa, sc, rfl, g1, g2, g3, g4⟩ := hx
  obtain ⟨oa', oc', na', nc', sa', sc', rfl, g1', g2', g3', g4'⟩ := hy
  have HB : Hid (Below w.heap.size w ((w.alloc (.cells #[.string x.f.t, .int .i64 x.f.l, .int .i64 x.f.c, .string x.t.t, .int .i64 x.t.l, .int .i64 x.t.c, .string x.on.n, .slice oa x.on.ar.length oc, .int .i64 x.on.l, .int .i64 x.on.c, .slice na x.ns.length nc, .int .i64 x.g, .slice sa x.ss.length sc] 51)).alloc (.cells #[.string y.f.t, .int .i64 y.f.l, .int .i64 y.f.c, .string y.t.t, .int .i64 y.t.l, .int .i64 y.t.c, .string y.on.n, .slice oa' y.on.ar.length oc', .int .i64 y.on.l, .int .i64 y.on.c, .slice na' y.ns.length nc', .int .i64 y.g, .slice sa' y.ss.length sc'] 51))) := Lib.hid (((Below.refl w.heap.size w).alloc (Nat.le_refl _) _).alloc (by simp) _)
  have HK0 : Hid (Below (w.heap.size + 2) ((w.alloc (.cells #[.string x.f.t, .int .i64 x.f.l, .int .i64 x.f.c, .string x.t.t, .int .i64 x.t.l, .int .i64 x.t.c, .string x.on.n, .slice oa x.on.ar.length oc, .int .i64 x.on.l, .int .i64 x.on.c, .slice na x.ns.length nc, .int .i64 x.g, .slice sa x.ss.length sc] 51)).alloc (.cells #[.string y.f.t, .int .i64 y.f.l, .int .i64 y.f.c, .string y.t.t, .int .i64 y.t.l, .int .i64 y.t.c, .string y.on.n, .slice oa' y.on.ar.length oc', .int .i64 y.on.l, .int .i64 y.on.c, .slice na' y.ns.length nc', .int .i64 y.g, .slice sa' y.ss.length sc'] 51)) ((w.alloc (.cells #[.string x.f.t, .int .i64 x.f.l, .int .i64 x.f.c, .string x.t.t, .int .i64 x.t.l, .int .i64 x.t.c, .string x.on.n, .slice oa x.on.ar.length oc, .int .i64 x.on.l, .int .i64 x.on.c, .slice na x.ns.length nc, .int .i64 x.g, .slice sa x.ss.length sc] 51)).alloc (.cells #[.string y.f.t, .int .i64 y.f.l, .int .i64 y.f.c, .string y.t.t, .int .i64 y.t.l, .int .i64 y.t.c, .string y.on.n, .slice oa' y.on.ar.length oc', .int .i64 y.on.l, .int .i64 y.on.c, .slice na' y.ns.length nc', .int .i64 y.g, .slice sa' y.ss.length sc'] 51))) := Lib.hid (Below.refl _ _)
  have HS : Hid (decide (x = y) = (decide (x.f = y.f) && (decide (x.t = y.t) && (decide (x.g = y.g) && (decide (x.on = y.on) && (decide ((x.ns.length : Int) = (y.ns.length : Int)) && (decide ((x.ss.length : Int) = (y.ss.length : Int)) && (decide (x.ns = y.ns) && decide (x.ss = y.ss))))))))) := Lib.hid (by rw [decTs, len_and x.ns, len_and x.ss]; cases decide (x.f = y.f) <;> cases decide (x.t = y.t) <;> cases decide (x.g = y.g) <;> cases decide (x.on = y.on) <;> cases decide ((x.ns.length : Int) = (y.ns.length : Int)) <;> cases decide ((x.ss.length : Int) = (y.ss.length : Int)) <;> cases decide (x.ns = y.ns) <;> rfl)
  have q0 := eqInId x.f y.f
  have q1 := eqInId x.t y.t
  have t2 := int_ne x.g y.g
  have H3 := Lib.hid (fun w1 (hb : Below (w.heap.size + 2) ((w.alloc (.cells #[.string x.f.t, .int .i64 x.f.l, .int .i64 x.f.c, .string x.t.t, .int .i64 x.t.l, .int .i64 x.t.c, .string x.on.n, .slice oa x.on.ar.length oc, .int .i64 x.on.l, .int .i64 x.on.c, .slice na x.ns.length nc, .int .i64 x.g, .slice sa x.ss.length sc] 51)).alloc (.cells #[.string y.f.t, .int .i64 y.f.l, .int .i64 y.f.c, .string y.t.t, .int .i64 y.t.l, .int .i64 y.t.c, .string y.on.n, .slice oa' y.on.ar.length oc', .int .i64 y.on.l, .int .i64 y.on.c, .slice na' y.ns.length nc', .int .i64 y.g, .slice sa' y.ss.length sc'] 51)) w1) => refSameSy_calls (Y := Y) (Y' := Y') (O := O) (O' := O') x.on y.on [.string x.on.n, .slice oa x.on.ar.length oc, .int .i64 x.on.l, .int .i64 x.on.c] [.string y.on.n, .slice oa' y.on.ar.length oc', .int .i64 y.on.l, .int .i64 y.on.c] w1 ⟨oa, oc, rfl, g1.belowF (HB.out.trans (hb.mono (Nat.le_add_right _ 2))), g4.2.2⟩ ⟨oa', oc', rfl, g1'.belowF (HB.out.trans (hb.mono (Nat.le_add_right _ 2))), g4'.2.2⟩)
  have t4 := int_ne (x.ns.length : Int) (y.ns.length : Int)
  have t5 := int_ne (x.ss.length : Int) (y.ss.length : Int)
  have qg := guardId
  have s0 := g1.small
  have s0' := g1'.small
  have G1 := Lib.hid g1
  have G1' := Lib.hid g1'
  have s1 := g2.small
  have s1' := g2'.small
  have G2 := Lib.hid g2
  have G2' := Lib.hid g2'
  have s2 := g3.small
  have s2' := g3'.small
  have G3 := Lib.hid g3
  have G3' := Lib.hid g3'
  have HBk : ∀ (w1 : World), Hid (Below (w.heap.size + 2) ((w.alloc (.cells #[.string x.f.t, .int .i64 x.f.l, .int .i64 x.f.c, .string x.t.t, .int .i64 x.t.l, .int .i64 x.t.c, .string x.on.n, .slice oa x.on.ar.length oc, .int .i64 x.on.l, .int .i64 x.on.c, .slice na x.ns.length nc, .int .i64 x.g, .slice sa x.ss.length sc] 51)).alloc (.cells #[.string y.f.t, .int .i64 y.f.l, .int .i64 y.f.c, .string y.t.t, .int .i64 y.t.l, .int .i64 y.t.c, .string y.on.n, .slice oa' y.on.ar.length oc', .int .i64 y.on.l, .int .i64 y.on.c, .slice na' y.ns.length nc', .int .i64 y.g, .slice sa' y.ss.length sc'] 51)) w1) → Below w.heap.size w w1 := fun _ h => HB.out.trans (h.out.mono (Nat.le_add_right _ 2))
  have HBK := Lib.hid HBk
  clear HBk
  clear g1 g1' g2 g2' g3 g3'
  cases e0 : decide (x.f = y.f)
  · rw [e0] at q0 HS
    clear e0
    go_enter Tryz.func51, Tryz.ntmps51
    go_wp2_with fail
    go_ret
    exact ⟨by rw [HS.out]; rfl, HBK.out _ HK0⟩
  · rw [e0] at q0 HS
    clear e0
    cases e1 : decide (x.t = y.t)
    · rw [e1] at q1 HS
      clear e1
      go_enter Tryz.func51, Tryz.ntmps51
      go_wp2_with fail
      go_ret
      exact ⟨by rw [HS.out]; rfl, HBK.out _ HK0⟩
    · rw [e1] at q1 HS
      clear e1
      cases e2 : decide (x.g = y.g)
      · rw [e2, Bool.not_false] at t2
        rw [e2] at HS
        clear e2
        go_enter Tryz.func51, Tryz.ntmps51
        go_wp2_with fail
        go_ret
        exact ⟨by rw [HS.out]; rfl, HBK.out _ HK0⟩
      · rw [e2, Bool.not_true] at t2
        rw [e2] at HS
        clear e2
        cases e3 : decide (x.on = y.on)
        · rw [e3] at HS H3
          clear e3
          go_enter Tryz.func51, Tryz.ntmps51
          go_wp2_with fail
          refine (H3.out _ HK0.out).mono ?_
          rintro e w3 ⟨rfl, k3⟩
          have HK4 := Lib.hid (below2_step HK0.out (by simp) k3)
          clear k3
          go_wp2_with fail
          go_ret
          exact ⟨by rw [HS.out]; rfl, HBK.out _ HK4⟩
        · rw [e3] at HS H3
          clear e3
          cases e4 : decide ((x.ns.length : Int) = (y.ns.length : Int))
          · rw [e4, Bool.not_false] at t4
            rw [e4] at HS
            clear e4
            go_enter Tryz.func51, Tryz.ntmps51
            go_wp2_with fail
            refine (H3.out _ HK0.out).mono ?_
            rintro e w3 ⟨rfl, k3⟩
            have HK4 := Lib.hid (below2_step HK0.out (by simp) k3)
            clear k3
            obtain ⟨u3, v3⟩ := box2 HK4.out
            have c3_10 : w3.cell? ⟨w.heap.size, 10, none⟩ = some (.slice na x.ns.length nc) := u3 10 _ rfl
            have d3_10 : w3.cell? ⟨w.heap.size + 1, 10, none⟩ = some (.slice na' y.ns.length nc') := v3 10 _ rfl
            clear u3 v3
            go_wp2_with fail
            clear c3_10 d3_10
            go_ret
            exact ⟨by rw [HS.out]; rfl, HBK.out _ HK4⟩
          · rw [e4, Bool.not_true] at t4
            rw [e4] at HS
            have E4 := Lib.hid (len_dec e4)
            clear e4
            cases e5 : decide ((x.ss.length : Int) = (y.ss.length : Int))
            · rw [e5, Bool.not_false] at t5
              rw [e5] at HS
              clear e5
              go_enter Tryz.func51, Tryz.ntmps51
              go_wp2_with fail
              refine (H3.out _ HK0.out).mono ?_
              rintro e w3 ⟨rfl, k3⟩
              have HK4 := Lib.hid (below2_step HK0.out (by simp) k3)
              clear k3
              obtain ⟨u3, v3⟩ := box2 HK4.out
              have c3_10 : w3.cell? ⟨w.heap.size, 10, none⟩ = some (.slice na x.ns.length nc) := u3 10 _ rfl
              have d3_10 : w3.cell? ⟨w.heap.size + 1, 10, none⟩ = some (.slice na' y.ns.length nc') := v3 10 _ rfl
              have c3_12 : w3.cell? ⟨w.heap.size, 12, none⟩ = some (.slice sa x.ss.length sc) := u3 12 _ rfl
              have d3_12 : w3.cell? ⟨w.heap.size + 1, 12, none⟩ = some (.slice sa' y.ss.length sc') := v3 12 _ rfl
              clear u3 v3
              go_wp2_with fail
              clear c3_10 d3_10 c3_12 d3_12
              go_ret
              exact ⟨by rw [HS.out]; rfl, HBK.out _ HK4⟩
            · rw [e5, Bool.not_true] at t5
              rw [e5] at HS
              have E5 := Lib.hid (len_dec e5)
              clear e5
              go_enter Tryz.func51, Tryz.ntmps51
              go_wp2_with fail
              refine (H3.out _ HK0.out).mono ?_
              rintro e w3 ⟨rfl, k3⟩
              have HK4 := Lib.hid (below2_step HK0.out (by simp) k3)
              clear k3
              obtain ⟨u3, v3⟩ := box2 HK4.out
              have c3_10 : w3.cell? ⟨w.heap.size, 10, none⟩ = some (.slice na x.ns.length nc) := u3 10 _ rfl
              have d3_10 : w3.cell? ⟨w.heap.size + 1, 10, none⟩ = some (.slice na' y.ns.length nc') := v3 10 _ rfl
              have c3_12 : w3.cell? ⟨w.heap.size, 12, none⟩ = some (.slice sa x.ss.length sc) := u3 12 _ rfl
              have d3_12 : w3.cell? ⟨w.heap.size + 1, 12, none⟩ = some (.slice sa' y.ss.length sc') := v3 12 _ rfl
              clear u3 v3
              go_wp2_with fail
              clear c3_10 d3_10 c3_12 d3_12
              go_loopw [5] (fun i wr => ∃ (n : Nat), n ≤ x.ns.length ∧ i = .int .i64 n ∧ Hid (x.ns.take n = y.ns.take n) ∧ Hid (Below (w.heap.size + 2) ((w.alloc (.cells #[.string x.f.t, .int .i64 x.f.l, .int .i64 x.f.c, .string x.t.t, .int .i64 x.t.l, .int .i64 x.t.c, .string x.on.n, .slice oa x.on.ar.length oc, .int .i64 x.on.l, .int .i64 x.on.c, .slice na x.ns.length nc, .int .i64 x.g, .slice sa x.ss.length sc] 51)).alloc (.cells #[.string y.f.t, .int .i64 y.f.l, .int .i64 y.f.c, .string y.t.t, .int .i64 y.t.l, .int .i64 y.t.c, .string y.on.n, .slice oa' y.on.ar.length oc', .int .i64 y.on.l, .int .i64 y.on.c, .slice na' y.ns.length nc', .int .i64 y.g, .slice sa' y.ss.length sc'] 51)) wr)) (fun i _ => x.ns.length - (intOf i).toNat)
              case atStart => exact ⟨0, Nat.zero_le _, rfl, Lib.hid rfl, HK4⟩
              case round =>
                obtain ⟨n, hn, rfl, HT, HL0⟩ := hrel
                obtain ⟨wr0, hwr⟩ : ∃ u, u = wr := ⟨_, rfl⟩
                subst hwr
                obtain ⟨u, v⟩ := box2 HL0.out
                have z0 : wr0.cell? ⟨w.heap.size, 10, none⟩ = some (.slice na x.ns.length nc) := u 10 _ rfl
                have z1 : wr0.cell? ⟨w.heap.size + 1, 10, none⟩ = some (.slice na' y.ns.length nc') := v 10 _ rfl
                clear u v
                by_cases h : n < x.ns.length
                case neg =>
                  have HX0 : Hid (decide (x.ns = y.ns) = true) := Lib.hid (decide_eq_true (take_allG HT.out (by omega) (by rw [← E4.out]; omega)))
                  rw [HX0.out] at HS
                  go_wp2_with fail
                  clear z0 z1 HT
                  go_loopw [6] (fun i wr => ∃ (n : Nat), n ≤ x.ss.length ∧ i = .int .i64 n ∧ Hid (x.ss.take n = y.ss.take n) ∧ Hid (Below (w.heap.size + 2) ((w.alloc (.cells #[.string x.f.t, .int .i64 x.f.l, .int .i64 x.f.c, .string x.t.t, .int .i64 x.t.l, .int .i64 x.t.c, .string x.on.n, .slice oa x.on.ar.length oc, .int .i64 x.on.l, .int .i64 x.on.c, .slice na x.ns.length nc, .int .i64 x.g, .slice sa x.ss.length sc] 51)).alloc (.cells #[.string y.f.t, .int .i64 y.f.l, .int .i64 y.f.c, .string y.t.t, .int .i64 y.t.l, .int .i64 y.t.c, .string y.on.n, .slice oa' y.on.ar.length oc', .int .i64 y.on.l, .int .i64 y.on.c, .slice na' y.ns.length nc', .int .i64 y.g, .slice sa' y.ss.length sc'] 51)) wr)) (fun i _ => x.ss.length - (intOf i).toNat)
                  case atStart => exact ⟨0, Nat.zero_le _, rfl, Lib.hid rfl, HL0⟩
                  case round =>
                    obtain ⟨n, hn, rfl, HT, HL1⟩ := hrel
                    obtain ⟨wr1, hwr⟩ : ∃ u, u = wr := ⟨_, rfl⟩
                    subst hwr
                    obtain ⟨u, v⟩ := box2 HL1.out
                    have z0 : wr1.cell? ⟨w.heap.size, 12, none⟩ = some (.slice sa x.ss.length sc) := u 12 _ rfl
                    have z1 : wr1.cell? ⟨w.heap.size + 1, 12, none⟩ = some (.slice sa' y.ss.length sc') := v 12 _ rfl
                    clear u v
                    by_cases h : n < x.ss.length
                    case neg =>
                      have HX1 : Hid (decide (x.ss = y.ss) = true) := Lib.hid (decide_eq_true (take_allG HT.out (by omega) (by rw [← E5.out]; omega)))
                      rw [HX1.out] at HS
                      go_wp2_with fail
                      clear z0 z1 HT
                      go_ret
                      exact ⟨by rw [HS.out]; rfl, HBK.out _ HL1⟩
                    case pos =>
                      obtain ⟨x1, hx⟩ := at_some (L := x.ss) rfl h
                      obtain ⟨y1, hy⟩ := at_some (L := y.ss) rfl (show n < y.ss.length by rw [← E5.out]; exact h)
                      have HW := Lib.hid (HBK.out _ HL1)
                      obtain ⟨g, off, e1, hg, hc, _⟩ := (G3.out.belowF HW.out).flat hx
                      obtain ⟨g', off', e2, hg', hd, _⟩ := (G3'.out.belowF HW.out).flat hy
                      have h2 : (n : Int) < (x.ss.length : Int) := by omega
                      have h3 : (n : Int) < (y.ss.length : Int) := by rw [← E5.out]; omega
                      have h4 : (0 : Int) ≤ (n : Int) := by omega
                      rw [e1] at z0
                      rw [e2] at z1
                      have HE := Lib.hid (take_sameG hx hy HT.out)
                      have HN := Lib.hid (ne_atG hx hy)
                      have c0 : wr1.cell? ⟨g, off + n * 4, none⟩ = some (.string x1.n.t) := hc 0 _ rfl
                      have c1 : wr1.cell? ⟨g, off + n * 4 + 1, none⟩ = some (.int .i64 x1.n.l) := hc 1 _ rfl
                      have c2 : wr1.cell? ⟨g, off + n * 4 + 2, none⟩ = some (.int .i64 x1.n.c) := hc 2 _ rfl
                      have c3 : wr1.cell? ⟨g, off + n * 4 + 3, none⟩ = some (.int .i64 x1.e) := hc 3 _ rfl
                      have d0 : wr1.cell? ⟨g', off' + n * 4, none⟩ = some (.string y1.n.t) := hd 0 _ rfl
                      have d1 : wr1.cell? ⟨g', off' + n * 4 + 1, none⟩ = some (.int .i64 y1.n.l) := hd 1 _ rfl
                      have d2 : wr1.cell? ⟨g', off' + n * 4 + 2, none⟩ = some (.int .i64 y1.n.c) := hd 2 _ rfl
                      have d3 : wr1.cell? ⟨g', off' + n * 4 + 3, none⟩ = some (.int .i64 y1.e) := hd 3 _ rfl
                      clear hc hd hx hy e1 e2
                      have q1 := eqInSe x1 y1
                      have q2 := guardSe
                      by_cases hz : x1 = y1
                      · have HX := Lib.hid (HE.out hz)
                        rw [decide_eq_true hz] at q1
                        clear hz
                        go_wp2_with fail
                        go_quiet (fail)
                        go_wp2_with fail
                        go_roundw
                        case rel => exact ⟨n + 1, by omega, by go_num, HX, Lib.hid (below_drewN _ HL1.out)⟩
                        case measure => simp [intOf]; omega
                      · have HX : Hid (decide (x.ss = y.ss) = false) := Lib.hid (decide_eq_false (HN.out hz))
                        rw [decide_eq_false hz] at q1
                        clear hz
                        rw [HX.out] at HS
                        go_wp2_with fail
                        go_quiet (fail)
                        go_wp2_with fail
                        go_ret
                        exact ⟨by rw [HS.out]; simp, HBK.out _ (Lib.hid (below_drewN _ HL1.out))⟩
                case pos =>
                  obtain ⟨x1, hx⟩ := at_some (L := x.ns) rfl h
                  obtain ⟨y1, hy⟩ := at_some (L := y.ns) rfl (show n < y.ns.length by rw [← E4.out]; exact h)
                  have HW := Lib.hid (HBK.out _ HL0)
                  obtain ⟨g, off, e1, hg, hc, _⟩ := (G2.out.belowF HW.out).flat hx
                  obtain ⟨g', off', e2, hg', hd, _⟩ := (G2'.out.belowF HW.out).flat hy
                  have h2 : (n : Int) < (x.ns.length : Int) := by omega
                  have h3 : (n : Int) < (y.ns.length : Int) := by rw [← E4.out]; omega
                  have h4 : (0 : Int) ≤ (n : Int) := by omega
                  rw [e1] at z0
                  rw [e2] at z1
                  have HE := Lib.hid (take_sameG hx hy HT.out)
                  have HN := Lib.hid (ne_atG hx hy)
                  have c0 : wr0.cell? ⟨g, off + n * 10, none⟩ = some (.int .i64 x1.op) := hc 0 _ rfl
                  have c1 : wr0.cell? ⟨g, off + n * 10 + 1, none⟩ = some (.int .i64 x1.a) := hc 1 _ rfl
                  have c2 : wr0.cell? ⟨g, off + n * 10 + 2, none⟩ = some (.int .i64 x1.b) := hc 2 _ rfl
                  have c3 : wr0.cell? ⟨g, off + n * 10 + 3, none⟩ = some (.string x1.n) := hc 3 _ rfl
                  have c4 : wr0.cell? ⟨g, off + n * 10 + 4, none⟩ = some (.int .i64 x1.v.k) := hc 4 _ rfl
                  have c5 : wr0.cell? ⟨g, off + n * 10 + 5, none⟩ = some (.int .i64 x1.v.i) := hc 5 _ rfl
                  have c6 : wr0.cell? ⟨g, off + n * 10 + 6, none⟩ = some (.string x1.v.s) := hc 6 _ rfl
                  have c7 : wr0.cell? ⟨g, off + n * 10 + 7, none⟩ = some (.bool x1.v.b) := hc 7 _ rfl
                  have c8 : wr0.cell? ⟨g, off + n * 10 + 8, none⟩ = some (.int .i64 x1.l) := hc 8 _ rfl
                  have c9 : wr0.cell? ⟨g, off + n * 10 + 9, none⟩ = some (.int .i64 x1.c) := hc 9 _ rfl
                  have d0 : wr0.cell? ⟨g', off' + n * 10, none⟩ = some (.int .i64 y1.op) := hd 0 _ rfl
                  have d1 : wr0.cell? ⟨g', off' + n * 10 + 1, none⟩ = some (.int .i64 y1.a) := hd 1 _ rfl
                  have d2 : wr0.cell? ⟨g', off' + n * 10 + 2, none⟩ = some (.int .i64 y1.b) := hd 2 _ rfl
                  have d3 : wr0.cell? ⟨g', off' + n * 10 + 3, none⟩ = some (.string y1.n) := hd 3 _ rfl
                  have d4 : wr0.cell? ⟨g', off' + n * 10 + 4, none⟩ = some (.int .i64 y1.v.k) := hd 4 _ rfl
                  have d5 : wr0.cell? ⟨g', off' + n * 10 + 5, none⟩ = some (.int .i64 y1.v.i) := hd 5 _ rfl
                  have d6 : wr0.cell? ⟨g', off' + n * 10 + 6, none⟩ = some (.string y1.v.s) := hd 6 _ rfl
                  have d7 : wr0.cell? ⟨g', off' + n * 10 + 7, none⟩ = some (.bool y1.v.b) := hd 7 _ rfl
                  have d8 : wr0.cell? ⟨g', off' + n * 10 + 8, none⟩ = some (.int .i64 y1.l) := hd 8 _ rfl
                  have d9 : wr0.cell? ⟨g', off' + n * 10 + 9, none⟩ = some (.int .i64 y1.c) := hd 9 _ rfl
                  clear hc hd hx hy e1 e2
                  have q1 := eqInEx x1 y1
                  have q2 := guardEx
                  by_cases hz : x1 = y1
                  · have HX := Lib.hid (HE.out hz)
                    rw [decide_eq_true hz] at q1
                    clear hz
                    go_wp2_with fail
                    go_quiet (fail)
                    go_wp2_with fail
                    go_roundw
                    case rel => exact ⟨n + 1, by omega, by go_num, HX, Lib.hid (below_drewN _ HL0.out)⟩
                    case measure => simp [intOf]; omega
                  · have HX : Hid (decide (x.ns = y.ns) = false) := Lib.hid (decide_eq_false (HN.out hz))
                    rw [decide_eq_false hz] at q1
                    clear hz
                    rw [HX.out] at HS
                    go_wp2_with fail
                    go_quiet (fail)
                    go_wp2_with fail
                    go_ret
                    exact ⟨by rw [HS.out]; simp, HBK.out _ (Lib.hid (below_drewN _ HL0.out))⟩
end Go.Proofs.YtojabkhfkbfeaaaGreatDoor

/- TreeRefHead -/
namespace Go.Proofs.YtojabkhfkbfeaaaGreatDoor
open Go.RowKit
set_option linter.unusedVariables false

/-- Whether two trees have the same heads. -/
def headB (x y : Tr) : Bool := decide (x.n = y.n) && (decide (x.s = y.s) && (decide (x.ds = y.ds) && (decide (x.qs = y.qs) && (decide (x.fs = y.fs) && decide (x.st = y.st)))))
theorem head_lens (x y : Tr) : headB x y = (decide (x.n = y.n) && (decide (x.s = y.s) && (decide ((x.ds.length : Int) = (y.ds.length : Int)) && (decide ((x.qs.length : Int) = (y.qs.length : Int)) && (decide ((x.fs.length : Int) = (y.fs.length : Int)) && (decide ((x.st.length : Int) = (y.st.length : Int)) && (decide (x.ds = y.ds) && (decide (x.qs = y.qs) && (decide (x.fs = y.fs) && (decide (x.st = y.st))))))))))) := by
  unfold headB
  rw [len_and x.ds, len_and x.qs, len_and x.fs, len_and x.st]
  generalize decide (x.n = y.n) = b0
  generalize decide (x.s = y.s) = b1
  generalize decide ((x.ds.length : Int) = (y.ds.length : Int)) = b2
  generalize decide ((x.qs.length : Int) = (y.qs.length : Int)) = b3
  generalize decide ((x.fs.length : Int) = (y.fs.length : Int)) = b4
  generalize decide ((x.st.length : Int) = (y.st.length : Int)) = b5
  generalize decide (x.ds = y.ds) = c2
  generalize decide (x.qs = y.qs) = c3
  generalize decide (x.fs = y.fs) = c4
  generalize decide (x.st = y.st) = c5
  cases b0 <;> cases b1 <;> cases b2 <;> cases b3 <;> cases b4 <;> cases b5 <;> simp

set_option maxHeartbeats 8000000 in
set_option maxRecDepth 100000 in
theorem refHead_calls {Y Y' : TyT} {O O' : Prop} (x y : Tr) (cs cs' : List Value) (w : World) (hx : TrIn Y O w cs x) (hy : TrIn Y' O' w cs' y) :
    Calls Tryz.prog 49 #[.agg cs.toArray, .agg cs'.toArray] w fun e w' => e = .returned (.bool (headB x y)) ∧ Below w.heap.size w w' := by
  obtain ⟨⟨da, dc, qa, qc, fa, fc, ta, tc, la, lc, xa, xc, rfl, g1, g2, g3, g4, g5, g6⟩, _⟩ := hx
  obtain ⟨⟨da', dc', qa', qc', fa', fc', ta', tc', la', lc', xa', xc', rfl, g1', g2', g3', g4', g5', g6'⟩, _⟩ := hy
  have HB : Hid (Below w.heap.size w ((w.alloc (.cells #[.string x.n.t, .int .i64 x.n.l, .int .i64 x.n.c, .slice da x.ds.length dc, .slice qa x.qs.length qc, .slice fa x.fs.length fc, .slice ta x.st.length tc, .string x.s.t, .int .i64 x.s.l, .int .i64 x.s.c, .slice la x.al.length lc, .slice xa x.ts.length xc] 31)).alloc (.cells #[.string y.n.t, .int .i64 y.n.l, .int .i64 y.n.c, .slice da' y.ds.length dc', .slice qa' y.qs.length qc', .slice fa' y.fs.length fc', .slice ta' y.st.length tc', .string y.s.t, .int .i64 y.s.l, .int .i64 y.s.c, .slice la' y.al.length lc', .slice xa' y.ts.length xc'] 31))) := Lib.hid (((Below.refl w.heap.size w).alloc (Nat.le_refl _) _).alloc (by simp) _)
  have HK0 : Hid (Below (w.heap.size + 2) ((w.alloc (.cells #[.string x.n.t, .int .i64 x.n.l, .int .i64 x.n.c, .slice da x.ds.length dc, .slice qa x.qs.length qc, .slice fa x.fs.length fc, .slice ta x.st.length tc, .string x.s.t, .int .i64 x.s.l, .int .i64 x.s.c, .slice la x.al.length lc, .slice xa x.ts.length xc] 31)).alloc (.cells #[.string y.n.t, .int .i64 y.n.l, .int .i64 y.n.c, .slice da' y.ds.length dc', .slice qa' y.qs.length qc', .slice fa' y.fs.length fc', .slice ta' y.st.length tc', .string y.s.t, .int .i64 y.s.l, .int .i64 y.s.c, .slice la' y.al.length lc', .slice xa' y.ts.length xc'] 31)) ((w.alloc (.cells #[.string x.n.t, .int .i64 x.n.l, .int .i64 x.n.c, .slice da x.ds.length dc, .slice qa x.qs.length qc, .slice fa x.fs.length fc, .slice ta x.st.length tc, .string x.s.t, .int .i64 x.s.l, .int .i64 x.s.c, .slice la x.al.length lc, .slice xa x.ts.length xc] 31)).alloc (.cells #[.string y.n.t, .int .i64 y.n.l, .int .i64 y.n.c, .slice da' y.ds.length dc', .slice qa' y.qs.length qc', .slice fa' y.fs.length fc', .slice ta' y.st.length tc', .string y.s.t, .int .i64 y.s.l, .int .i64 y.s.c, .slice la' y.al.length lc', .slice xa' y.ts.length xc'] 31))) := Lib.hid (Below.refl _ _)
  have HS : Hid (headB x y = (decide (x.n = y.n) && (decide (x.s = y.s) && (decide ((x.ds.length : Int) = (y.ds.length : Int)) && (decide ((x.qs.length : Int) = (y.qs.length : Int)) && (decide ((x.fs.length : Int) = (y.fs.length : Int)) && (decide ((x.st.length : Int) = (y.st.length : Int)) && (decide (x.ds = y.ds) && (decide (x.qs = y.qs) && (decide (x.fs = y.fs) && (decide (x.st = y.st)))))))))))) := Lib.hid (head_lens x y)
  have q0 := eqInId x.n y.n
  have q1 := eqInId x.s y.s
  have t2 := int_ne (x.ds.length : Int) (y.ds.length : Int)
  have t3 := int_ne (x.qs.length : Int) (y.qs.length : Int)
  have t4 := int_ne (x.fs.length : Int) (y.fs.length : Int)
  have t5 := int_ne (x.st.length : Int) (y.st.length : Int)
  have qg := guardId
  have s0 := g1.small
  have s0' := g1'.small
  have G1 := Lib.hid g1
  have G1' := Lib.hid g1'
  have s1 := g2.small
  have s1' := g2'.small
  have G2 := Lib.hid g2
  have G2' := Lib.hid g2'
  have s2 := g3.small
  have s2' := g3'.small
  have G3 := Lib.hid g3
  have G3' := Lib.hid g3'
  have s3 := g4.small
  have s3' := g4'.small
  have G4 := Lib.hid g4
  have G4' := Lib.hid g4'
  have s4 := g5.small
  have s4' := g5'.small
  have G5 := Lib.hid g5
  have G5' := Lib.hid g5'
  have s5 := g6.small
  have s5' := g6'.small
  have G6 := Lib.hid g6
  have G6' := Lib.hid g6'
  have HBk : ∀ (w1 : World), Hid (Below (w.heap.size + 2) ((w.alloc (.cells #[.string x.n.t, .int .i64 x.n.l, .int .i64 x.n.c, .slice da x.ds.length dc, .slice qa x.qs.length qc, .slice fa x.fs.length fc, .slice ta x.st.length tc, .string x.s.t, .int .i64 x.s.l, .int .i64 x.s.c, .slice la x.al.length lc, .slice xa x.ts.length xc] 31)).alloc (.cells #[.string y.n.t, .int .i64 y.n.l, .int .i64 y.n.c, .slice da' y.ds.length dc', .slice qa' y.qs.length qc', .slice fa' y.fs.length fc', .slice ta' y.st.length tc', .string y.s.t, .int .i64 y.s.l, .int .i64 y.s.c, .slice la' y.al.length lc', .slice xa' y.ts.length xc'] 31)) w1) → Below w.heap.size w w1 := fun _ h => HB.out.trans (h.out.mono (Nat.le_add_right _ 2))
  have HBK := Lib.hid HBk
  clear HBk
  clear g1 g1' g2 g2' g3 g3' g4 g4' g5 g5' g6 g6'
  cases e0 : decide (x.n = y.n)
  · rw [e0] at q0 HS
    clear e0
    go_enter Tryz.func49, Tryz.ntmps49
    go_wp2_with fail
    go_ret
    exact ⟨by rw [HS.out]; rfl, HBK.out _ HK0⟩
  · rw [e0] at q0 HS
    clear e0
    cases e1 : decide (x.s = y.s)
    · rw [e1] at q1 HS
      clear e1
      go_enter Tryz.func49, Tryz.ntmps49
      go_wp2_with fail
      go_ret
      exact ⟨by rw [HS.out]; rfl, HBK.out _ HK0⟩
    · rw [e1] at q1 HS
      clear e1
      cases e2 : decide ((x.ds.length : Int) = (y.ds.length : Int))
      · rw [e2, Bool.not_false] at t2
        rw [e2] at HS
        clear e2
        go_enter Tryz.func49, Tryz.ntmps49
        go_wp2_with fail
        go_ret
        exact ⟨by rw [HS.out]; rfl, HBK.out _ HK0⟩
      · rw [e2, Bool.not_true] at t2
        rw [e2] at HS
        have E2 := Lib.hid (len_dec e2)
        clear e2
        cases e3 : decide ((x.qs.length : Int) = (y.qs.length : Int))
        · rw [e3, Bool.not_false] at t3
          rw [e3] at HS
          clear e3
          go_enter Tryz.func49, Tryz.ntmps49
          go_wp2_with fail
          go_ret
          exact ⟨by rw [HS.out]; rfl, HBK.out _ HK0⟩
        · rw [e3, Bool.not_true] at t3
          rw [e3] at HS
          have E3 := Lib.hid (len_dec e3)
          clear e3
          cases e4 : decide ((x.fs.length : Int) = (y.fs.length : Int))
          · rw [e4, Bool.not_false] at t4
            rw [e4] at HS
            clear e4
            go_enter Tryz.func49, Tryz.ntmps49
            go_wp2_with fail
            go_ret
            exact ⟨by rw [HS.out]; rfl, HBK.out _ HK0⟩
          · rw [e4, Bool.not_true] at t4
            rw [e4] at HS
            have E4 := Lib.hid (len_dec e4)
            clear e4
            cases e5 : decide ((x.st.length : Int) = (y.st.length : Int))
            · rw [e5, Bool.not_false] at t5
              rw [e5] at HS
              clear e5
              go_enter Tryz.func49, Tryz.ntmps49
              go_wp2_with fail
              go_ret
              exact ⟨by rw [HS.out]; rfl, HBK.out _ HK0⟩
            · rw [e5, Bool.not_true] at t5
              rw [e5] at HS
              have E5 := Lib.hid (len_dec e5)
              clear e5
              go_enter Tryz.func49, Tryz.ntmps49
              go_wp2_with fail
              go_loopw [5] (fun i wr => ∃ (n : Nat), n ≤ x.ds.length ∧ i = .int .i64 n ∧ Hid (x.ds.take n = y.ds.take n) ∧ Hid (Below (w.heap.size + 2) ((w.alloc (.cells #[.string x.n.t, .int .i64 x.n.l, .int .i64 x.n.c, .slice da x.ds.length dc, .slice qa x.qs.length qc, .slice fa x.fs.length fc, .slice ta x.st.length tc, .string x.s.t, .int .i64 x.s.l, .int .i64 x.s.c, .slice la x.al.length lc, .slice xa x.ts.length xc] 31)).alloc (.cells #[.string y.n.t, .int .i64 y.n.l, .int .i64 y.n.c, .slice da' y.ds.length dc', .slice qa' y.qs.length qc', .slice fa' y.fs.length fc', .slice ta' y.st.length tc', .string y.s.t, .int .i64 y.s.l, .int .i64 y.s.c, .slice la' y.al.length lc', .slice xa' y.ts.length xc'] 31)) wr)) (fun i _ => x.ds.length - (intOf i).toNat)
              case atStart => exact ⟨0, Nat.zero_le _, rfl, Lib.hid rfl, HK0⟩
              case round =>
                obtain ⟨n, hn, rfl, HT, HL0⟩ := hrel
                obtain ⟨wr0, hwr⟩ : ∃ u, u = wr := ⟨_, rfl⟩
                subst hwr
                obtain ⟨u, v⟩ := box2 HL0.out
                have z0 : wr0.cell? ⟨w.heap.size, 3, none⟩ = some (.slice da x.ds.length dc) := u 3 _ rfl
                have z1 : wr0.cell? ⟨w.heap.size + 1, 3, none⟩ = some (.slice da' y.ds.length dc') := v 3 _ rfl
                clear u v
                by_cases h : n < x.ds.length
                case neg =>
                  have HX0 : Hid (decide (x.ds = y.ds) = true) := Lib.hid (decide_eq_true (take_allG HT.out (by omega) (by rw [← E2.out]; omega)))
                  rw [HX0.out] at HS
                  go_wp2_with fail
                  clear z0 z1 HT
                  go_loopw [9] (fun i wr => ∃ (n : Nat), n ≤ x.qs.length ∧ i = .int .i64 n ∧ Hid (x.qs.take n = y.qs.take n) ∧ Hid (Below (w.heap.size + 2) ((w.alloc (.cells #[.string x.n.t, .int .i64 x.n.l, .int .i64 x.n.c, .slice da x.ds.length dc, .slice qa x.qs.length qc, .slice fa x.fs.length fc, .slice ta x.st.length tc, .string x.s.t, .int .i64 x.s.l, .int .i64 x.s.c, .slice la x.al.length lc, .slice xa x.ts.length xc] 31)).alloc (.cells #[.string y.n.t, .int .i64 y.n.l, .int .i64 y.n.c, .slice da' y.ds.length dc', .slice qa' y.qs.length qc', .slice fa' y.fs.length fc', .slice ta' y.st.length tc', .string y.s.t, .int .i64 y.s.l, .int .i64 y.s.c, .slice la' y.al.length lc', .slice xa' y.ts.length xc'] 31)) wr)) (fun i _ => x.qs.length - (intOf i).toNat)
                  case atStart => exact ⟨0, Nat.zero_le _, rfl, Lib.hid rfl, HL0⟩
                  case round =>
                    obtain ⟨n, hn, rfl, HT, HL1⟩ := hrel
                    obtain ⟨wr1, hwr⟩ : ∃ u, u = wr := ⟨_, rfl⟩
                    subst hwr
                    obtain ⟨u, v⟩ := box2 HL1.out
                    have z0 : wr1.cell? ⟨w.heap.size, 4, none⟩ = some (.slice qa x.qs.length qc) := u 4 _ rfl
                    have z1 : wr1.cell? ⟨w.heap.size + 1, 4, none⟩ = some (.slice qa' y.qs.length qc') := v 4 _ rfl
                    clear u v
                    by_cases h : n < x.qs.length
                    case neg =>
                      have HX1 : Hid (decide (x.qs = y.qs) = true) := Lib.hid (decide_eq_true (take_allG HT.out (by omega) (by rw [← E3.out]; omega)))
                      rw [HX1.out] at HS
                      go_wp2_with fail
                      clear z0 z1 HT
                      go_loopw [10] (fun i wr => ∃ (n : Nat), n ≤ x.fs.length ∧ i = .int .i64 n ∧ Hid (x.fs.take n = y.fs.take n) ∧ Hid (Below (w.heap.size + 2) ((w.alloc (.cells #[.string x.n.t, .int .i64 x.n.l, .int .i64 x.n.c, .slice da x.ds.length dc, .slice qa x.qs.length qc, .slice fa x.fs.length fc, .slice ta x.st.length tc, .string x.s.t, .int .i64 x.s.l, .int .i64 x.s.c, .slice la x.al.length lc, .slice xa x.ts.length xc] 31)).alloc (.cells #[.string y.n.t, .int .i64 y.n.l, .int .i64 y.n.c, .slice da' y.ds.length dc', .slice qa' y.qs.length qc', .slice fa' y.fs.length fc', .slice ta' y.st.length tc', .string y.s.t, .int .i64 y.s.l, .int .i64 y.s.c, .slice la' y.al.length lc', .slice xa' y.ts.length xc'] 31)) wr)) (fun i _ => x.fs.length - (intOf i).toNat)
                      case atStart => exact ⟨0, Nat.zero_le _, rfl, Lib.hid rfl, HL1⟩
                      case round =>
                        obtain ⟨n, hn, rfl, HT, HL2⟩ := hrel
                        obtain ⟨wr2, hwr⟩ : ∃ u, u = wr := ⟨_, rfl⟩
                        subst hwr
                        obtain ⟨u, v⟩ := box2 HL2.out
                        have z0 : wr2.cell? ⟨w.heap.size, 5, none⟩ = some (.slice fa x.fs.length fc) := u 5 _ rfl
                        have z1 : wr2.cell? ⟨w.heap.size + 1, 5, none⟩ = some (.slice fa' y.fs.length fc') := v 5 _ rfl
                        clear u v
                        by_cases h : n < x.fs.length
                        case neg =>
                          have HX2 : Hid (decide (x.fs = y.fs) = true) := Lib.hid (decide_eq_true (take_allG HT.out (by omega) (by rw [← E4.out]; omega)))
                          rw [HX2.out] at HS
                          go_wp2_with fail
                          clear z0 z1 HT
                          go_loopw [11] (fun i wr => ∃ (n : Nat), n ≤ x.st.length ∧ i = .int .i64 n ∧ Hid (x.st.take n = y.st.take n) ∧ Hid (Below (w.heap.size + 2) ((w.alloc (.cells #[.string x.n.t, .int .i64 x.n.l, .int .i64 x.n.c, .slice da x.ds.length dc, .slice qa x.qs.length qc, .slice fa x.fs.length fc, .slice ta x.st.length tc, .string x.s.t, .int .i64 x.s.l, .int .i64 x.s.c, .slice la x.al.length lc, .slice xa x.ts.length xc] 31)).alloc (.cells #[.string y.n.t, .int .i64 y.n.l, .int .i64 y.n.c, .slice da' y.ds.length dc', .slice qa' y.qs.length qc', .slice fa' y.fs.length fc', .slice ta' y.st.length tc', .string y.s.t, .int .i64 y.s.l, .int .i64 y.s.c, .slice la' y.al.length lc', .slice xa' y.ts.length xc'] 31)) wr)) (fun i _ => x.st.length - (intOf i).toNat)
                          case atStart => exact ⟨0, Nat.zero_le _, rfl, Lib.hid rfl, HL2⟩
                          case round =>
                            obtain ⟨n, hn, rfl, HT, HL3⟩ := hrel
                            obtain ⟨wr3, hwr⟩ : ∃ u, u = wr := ⟨_, rfl⟩
                            subst hwr
                            obtain ⟨u, v⟩ := box2 HL3.out
                            have z0 : wr3.cell? ⟨w.heap.size, 6, none⟩ = some (.slice ta x.st.length tc) := u 6 _ rfl
                            have z1 : wr3.cell? ⟨w.heap.size + 1, 6, none⟩ = some (.slice ta' y.st.length tc') := v 6 _ rfl
                            clear u v
                            by_cases h : n < x.st.length
                            case neg =>
                              have HX3 : Hid (decide (x.st = y.st) = true) := Lib.hid (decide_eq_true (take_allG HT.out (by omega) (by rw [← E5.out]; omega)))
                              rw [HX3.out] at HS
                              go_wp2_with fail
                              clear z0 z1 HT
                              go_ret
                              exact ⟨by rw [HS.out]; rfl, HBK.out _ HL3⟩
                            case pos =>
                              obtain ⟨x1, hx⟩ := at_some (L := x.st) rfl h
                              obtain ⟨y1, hy⟩ := at_some (L := y.st) rfl (show n < y.st.length by rw [← E5.out]; exact h)
                              have HW := Lib.hid (HBK.out _ HL3)
                              obtain ⟨g, off, e1, hg, hc, _⟩ := (G4.out.belowF HW.out).flat hx
                              obtain ⟨g', off', e2, hg', hd, _⟩ := (G4'.out.belowF HW.out).flat hy
                              have h2 : (n : Int) < (x.st.length : Int) := by omega
                              have h3 : (n : Int) < (y.st.length : Int) := by rw [← E5.out]; omega
                              have h4 : (0 : Int) ≤ (n : Int) := by omega
                              rw [e1] at z0
                              rw [e2] at z1
                              have HE := Lib.hid (take_sameG hx hy HT.out)
                              have HN := Lib.hid (ne_atG hx hy)
                              have c0 : wr3.cell? ⟨g, off + n * 5, none⟩ = some (.string x1.n.t) := hc 0 _ rfl
                              have c1 : wr3.cell? ⟨g, off + n * 5 + 1, none⟩ = some (.int .i64 x1.n.l) := hc 1 _ rfl
                              have c2 : wr3.cell? ⟨g, off + n * 5 + 2, none⟩ = some (.int .i64 x1.n.c) := hc 2 _ rfl
                              have c3 : wr3.cell? ⟨g, off + n * 5 + 3, none⟩ = some (.bool x1.nx) := hc 3 _ rfl
                              have c4 : wr3.cell? ⟨g, off + n * 5 + 4, none⟩ = some (.bool x1.ac) := hc 4 _ rfl
                              have d0 : wr3.cell? ⟨g', off' + n * 5, none⟩ = some (.string y1.n.t) := hd 0 _ rfl
                              have d1 : wr3.cell? ⟨g', off' + n * 5 + 1, none⟩ = some (.int .i64 y1.n.l) := hd 1 _ rfl
                              have d2 : wr3.cell? ⟨g', off' + n * 5 + 2, none⟩ = some (.int .i64 y1.n.c) := hd 2 _ rfl
                              have d3 : wr3.cell? ⟨g', off' + n * 5 + 3, none⟩ = some (.bool y1.nx) := hd 3 _ rfl
                              have d4 : wr3.cell? ⟨g', off' + n * 5 + 4, none⟩ = some (.bool y1.ac) := hd 4 _ rfl
                              clear hc hd hx hy e1 e2
                              have q1 := eqInSta x1 y1
                              have q2 := guardSta
                              by_cases hz : x1 = y1
                              · have HX := Lib.hid (HE.out hz)
                                rw [decide_eq_true hz] at q1
                                clear hz
                                go_wp2_with fail
                                go_quiet (fail)
                                go_wp2_with fail
                                go_roundw
                                case rel => exact ⟨n + 1, by omega, by go_num, HX, Lib.hid (below_drewN _ HL3.out)⟩
                                case measure => simp [intOf]; omega
                              · have HX : Hid (decide (x.st = y.st) = false) := Lib.hid (decide_eq_false (HN.out hz))
                                rw [decide_eq_false hz] at q1
                                clear hz
                                rw [HX.out] at HS
                                go_wp2_with fail
                                go_quiet (fail)
                                go_wp2_with fail
                                go_ret
                                exact ⟨by rw [HS.out]; simp, HBK.out _ (Lib.hid (below_drewN _ HL3.out))⟩
                        case pos =>
                          obtain ⟨x1, hx⟩ := at_some (L := x.fs) rfl h
                          obtain ⟨y1, hy⟩ := at_some (L := y.fs) rfl (show n < y.fs.length by rw [← E4.out]; exact h)
                          have HW := Lib.hid (HBK.out _ HL2)
                          obtain ⟨g, off, e1, hg, hc, _⟩ := (G3.out.belowF HW.out).flat hx
                          obtain ⟨g', off', e2, hg', hd, _⟩ := (G3'.out.belowF HW.out).flat hy
                          have h2 : (n : Int) < (x.fs.length : Int) := by omega
                          have h3 : (n : Int) < (y.fs.length : Int) := by rw [← E4.out]; omega
                          have h4 : (0 : Int) ≤ (n : Int) := by omega
                          rw [e1] at z0
                          rw [e2] at z1
                          have HE := Lib.hid (take_sameG hx hy HT.out)
                          have HN := Lib.hid (ne_atG hx hy)
                          have c0 : wr2.cell? ⟨g, off + n * 7, none⟩ = some (.string x1.n.t) := hc 0 _ rfl
                          have c1 : wr2.cell? ⟨g, off + n * 7 + 1, none⟩ = some (.int .i64 x1.n.l) := hc 1 _ rfl
                          have c2 : wr2.cell? ⟨g, off + n * 7 + 2, none⟩ = some (.int .i64 x1.n.c) := hc 2 _ rfl
                          have c3 : wr2.cell? ⟨g, off + n * 7 + 3, none⟩ = some (.int .i64 x1.v.k) := hc 3 _ rfl
                          have c4 : wr2.cell? ⟨g, off + n * 7 + 4, none⟩ = some (.int .i64 x1.v.i) := hc 4 _ rfl
                          have c5 : wr2.cell? ⟨g, off + n * 7 + 5, none⟩ = some (.string x1.v.s) := hc 5 _ rfl
                          have c6 : wr2.cell? ⟨g, off + n * 7 + 6, none⟩ = some (.bool x1.v.b) := hc 6 _ rfl
                          have d0 : wr2.cell? ⟨g', off' + n * 7, none⟩ = some (.string y1.n.t) := hd 0 _ rfl
                          have d1 : wr2.cell? ⟨g', off' + n * 7 + 1, none⟩ = some (.int .i64 y1.n.l) := hd 1 _ rfl
                          have d2 : wr2.cell? ⟨g', off' + n * 7 + 2, none⟩ = some (.int .i64 y1.n.c) := hd 2 _ rfl
                          have d3 : wr2.cell? ⟨g', off' + n * 7 + 3, none⟩ = some (.int .i64 y1.v.k) := hd 3 _ rfl
                          have d4 : wr2.cell? ⟨g', off' + n * 7 + 4, none⟩ = some (.int .i64 y1.v.i) := hd 4 _ rfl
                          have d5 : wr2.cell? ⟨g', off' + n * 7 + 5, none⟩ = some (.string y1.v.s) := hd 5 _ rfl
                          have d6 : wr2.cell? ⟨g', off' + n * 7 + 6, none⟩ = some (.bool y1.v.b) := hd 6 _ rfl
                          clear hc hd hx hy e1 e2
                          have q1 := eqInFr x1 y1
                          have q2 := guardFr
                          by_cases hz : x1 = y1
                          · have HX := Lib.hid (HE.out hz)
                            rw [decide_eq_true hz] at q1
                            clear hz
                            go_wp2_with fail
                            go_quiet (fail)
                            go_wp2_with fail
                            go_roundw
                            case rel => exact ⟨n + 1, by omega, by go_num, HX, Lib.hid (below_drewN _ HL2.out)⟩
                            case measure => simp [intOf]; omega
                          · have HX : Hid (decide (x.fs = y.fs) = false) := Lib.hid (decide_eq_false (HN.out hz))
                            rw [decide_eq_false hz] at q1
                            clear hz
                            rw [HX.out] at HS
                            go_wp2_with fail
                            go_quiet (fail)
                            go_wp2_with fail
                            go_ret
                            exact ⟨by rw [HS.out]; simp, HBK.out _ (Lib.hid (below_drewN _ HL2.out))⟩
                    case pos =>
                      obtain ⟨x1, hx⟩ := at_some (L := x.qs) rfl h
                      obtain ⟨y1, hy⟩ := at_some (L := y.qs) rfl (show n < y.qs.length by rw [← E3.out]; exact h)
                      have HW := Lib.hid (HBK.out _ HL1)
                      obtain ⟨g, off, e1, hg, hc, _⟩ := (G2.out.belowF HW.out).flat hx
                      obtain ⟨g', off', e2, hg', hd, _⟩ := (G2'.out.belowF HW.out).flat hy
                      have h2 : (n : Int) < (x.qs.length : Int) := by omega
                      have h3 : (n : Int) < (y.qs.length : Int) := by rw [← E3.out]; omega
                      have h4 : (0 : Int) ≤ (n : Int) := by omega
                      rw [e1] at z0
                      rw [e2] at z1
                      have HE := Lib.hid (take_sameG hx hy HT.out)
                      have HN := Lib.hid (ne_atG hx hy)
                      have c0 : wr1.cell? ⟨g, off + n * 5, none⟩ = some (.bool x1.all) := hc 0 _ rfl
                      have c1 : wr1.cell? ⟨g, off + n * 5 + 1, none⟩ = some (.string x1.n.t) := hc 1 _ rfl
                      have c2 : wr1.cell? ⟨g, off + n * 5 + 2, none⟩ = some (.int .i64 x1.n.l) := hc 2 _ rfl
                      have c3 : wr1.cell? ⟨g, off + n * 5 + 3, none⟩ = some (.int .i64 x1.n.c) := hc 3 _ rfl
                      have c4 : wr1.cell? ⟨g, off + n * 5 + 4, none⟩ = some (.int .i64 x1.t) := hc 4 _ rfl
                      have d0 : wr1.cell? ⟨g', off' + n * 5, none⟩ = some (.bool y1.all) := hd 0 _ rfl
                      have d1 : wr1.cell? ⟨g', off' + n * 5 + 1, none⟩ = some (.string y1.n.t) := hd 1 _ rfl
                      have d2 : wr1.cell? ⟨g', off' + n * 5 + 2, none⟩ = some (.int .i64 y1.n.l) := hd 2 _ rfl
                      have d3 : wr1.cell? ⟨g', off' + n * 5 + 3, none⟩ = some (.int .i64 y1.n.c) := hd 3 _ rfl
                      have d4 : wr1.cell? ⟨g', off' + n * 5 + 4, none⟩ = some (.int .i64 y1.t) := hd 4 _ rfl
                      clear hc hd hx hy e1 e2
                      have q1 := eqInQu x1 y1
                      have q2 := guardQu
                      by_cases hz : x1 = y1
                      · have HX := Lib.hid (HE.out hz)
                        rw [decide_eq_true hz] at q1
                        clear hz
                        go_wp2_with fail
                        go_quiet (fail)
                        go_wp2_with fail
                        go_roundw
                        case rel => exact ⟨n + 1, by omega, by go_num, HX, Lib.hid (below_drewN _ HL1.out)⟩
                        case measure => simp [intOf]; omega
                      · have HX : Hid (decide (x.qs = y.qs) = false) := Lib.hid (decide_eq_false (HN.out hz))
                        rw [decide_eq_false hz] at q1
                        clear hz
                        rw [HX.out] at HS
                        go_wp2_with fail
                        go_quiet (fail)
                        go_wp2_with fail
                        go_ret
                        exact ⟨by rw [HS.out]; simp, HBK.out _ (Lib.hid (below_drewN _ HL1.out))⟩
                case pos =>
                  obtain ⟨x1, hx⟩ := at_some (L := x.ds) rfl h
                  obtain ⟨y1, hy⟩ := at_some (L := y.ds) rfl (show n < y.ds.length by rw [← E2.out]; exact h)
                  have HW := Lib.hid (HBK.out _ HL0)
                  obtain ⟨g, off, csx, e1, hg, _, hc, ⟨a1, cx1, rfl, k1, _⟩, _⟩ := (G1.out.belowD HW.out).at' n x1 hx
                  obtain ⟨g', off', csy, e2, hg', _, hd, ⟨a2, cx2, rfl, k2, _⟩, _⟩ := (G1'.out.belowD HW.out).at' n y1 hy
                  have h2 : (n : Int) < (x.ds.length : Int) := by omega
                  have h3 : (n : Int) < (y.ds.length : Int) := by rw [← E2.out]; omega
                  have h4 : (0 : Int) ≤ (n : Int) := by omega
                  rw [e1] at z0
                  rw [e2] at z1
                  have HE := Lib.hid (take_sameG hx hy HT.out)
                  have HN := Lib.hid (ne_atG hx hy)
                  have c0 : wr0.cell? ⟨g, off + n * 4, none⟩ = some (.string x1.n.t) := hc 0 _ rfl
                  have c1 : wr0.cell? ⟨g, off + n * 4 + 1, none⟩ = some (.int .i64 x1.n.l) := hc 1 _ rfl
                  have c2 : wr0.cell? ⟨g, off + n * 4 + 2, none⟩ = some (.int .i64 x1.n.c) := hc 2 _ rfl
                  have c3 : wr0.cell? ⟨g, off + n * 4 + 3, none⟩ = some (.slice a1 x1.ks.length cx1) := hc 3 _ rfl
                  have d0 : wr0.cell? ⟨g', off' + n * 4, none⟩ = some (.string y1.n.t) := hd 0 _ rfl
                  have d1 : wr0.cell? ⟨g', off' + n * 4 + 1, none⟩ = some (.int .i64 y1.n.l) := hd 1 _ rfl
                  have d2 : wr0.cell? ⟨g', off' + n * 4 + 2, none⟩ = some (.int .i64 y1.n.c) := hd 2 _ rfl
                  have d3 : wr0.cell? ⟨g', off' + n * 4 + 3, none⟩ = some (.slice a2 y1.ks.length cx2) := hd 3 _ rfl
                  clear hc hd hx hy e1 e2
                  have K1 := Lib.hid k1
                  have K2 := Lib.hid k2
                  have s7 := k1.small
                  have s8 := k2.small
                  clear k1 k2
                  have HB2 : Hid (Below wr0.heap.size wr0 ((wr0.alloc (.cells #[.string x1.n.t, .int .i64 x1.n.l, .int .i64 x1.n.c, .slice a1 x1.ks.length cx1] 39)).alloc (.cells #[.string y1.n.t, .int .i64 y1.n.l, .int .i64 y1.n.c, .slice a2 y1.ks.length cx2] 39))) := Lib.hid (((Below.refl _ _).alloc (Nat.le_refl _) _).alloc (by simp) _)
                  have HBQ : Hid (∀ w1, Hid (Below (wr0.heap.size + 2) ((wr0.alloc (.cells #[.string x1.n.t, .int .i64 x1.n.l, .int .i64 x1.n.c, .slice a1 x1.ks.length cx1] 39)).alloc (.cells #[.string y1.n.t, .int .i64 y1.n.l, .int .i64 y1.n.c, .slice a2 y1.ks.length cx2] 39)) w1) → Below wr0.heap.size wr0 w1) := Lib.hid (fun _ h => HB2.out.trans (h.out.mono (Nat.le_add_right _ 2)))
                  have HBR : Hid (∀ w1, Hid (Below (wr0.heap.size + 2) ((wr0.alloc (.cells #[.string x1.n.t, .int .i64 x1.n.l, .int .i64 x1.n.c, .slice a1 x1.ks.length cx1] 39)).alloc (.cells #[.string y1.n.t, .int .i64 y1.n.l, .int .i64 y1.n.c, .slice a2 y1.ks.length cx2] 39)) w1) → Hid (Below (w.heap.size + 2) ((w.alloc (.cells #[.string x.n.t, .int .i64 x.n.l, .int .i64 x.n.c, .slice da x.ds.length dc, .slice qa x.qs.length qc, .slice fa x.fs.length fc, .slice ta x.st.length tc, .string x.s.t, .int .i64 x.s.l, .int .i64 x.s.c, .slice la x.al.length lc, .slice xa x.ts.length xc] 31)).alloc (.cells #[.string y.n.t, .int .i64 y.n.l, .int .i64 y.n.c, .slice da' y.ds.length dc', .slice qa' y.qs.length qc', .slice fa' y.fs.length fc', .slice ta' y.st.length tc', .string y.s.t, .int .i64 y.s.l, .int .i64 y.s.c, .slice la' y.al.length lc', .slice xa' y.ts.length xc'] 31)) w1)) := Lib.hid (fun _ h => Lib.hid (HL0.out.trans ((HBQ.out _ h).mono (by have := HL0.out.size; simp at this; omega))))
                  have HQ0 : Hid (Below (wr0.heap.size + 2) ((wr0.alloc (.cells #[.string x1.n.t, .int .i64 x1.n.l, .int .i64 x1.n.c, .slice a1 x1.ks.length cx1] 39)).alloc (.cells #[.string y1.n.t, .int .i64 y1.n.l, .int .i64 y1.n.c, .slice a2 y1.ks.length cx2] 39)) ((wr0.alloc (.cells #[.string x1.n.t, .int .i64 x1.n.l, .int .i64 x1.n.c, .slice a1 x1.ks.length cx1] 39)).alloc (.cells #[.string y1.n.t, .int .i64 y1.n.l, .int .i64 y1.n.c, .slice a2 y1.ks.length cx2] 39))) := Lib.hid (Below.refl _ _)
                  have HSx : Hid (decide (x1 = y1) = (decide (x1.n = y1.n) && (decide ((x1.ks.length : Int) = (y1.ks.length : Int)) && decide (x1.ks = y1.ks)))) := Lib.hid (by rw [decDe, len_and x1.ks]; cases decide (x1.n = y1.n) <;> cases decide ((x1.ks.length : Int) = (y1.ks.length : Int)) <;> cases decide (x1.ks = y1.ks) <;> rfl)
                  have l0 : w.heap.size < wr0.heap.size := by have := HL0.out.size; simp at this; omega
                  have l1 : w.heap.size + 1 < wr0.heap.size := by have := HL0.out.size; simp at this; omega
                  have q7 := eqInId x1.n y1.n
                  have t7 := int_ne (x1.ks.length : Int) (y1.ks.length : Int)
                  cases e7 : decide (x1.n = y1.n)
                  · rw [e7] at q7 HSx
                    clear e7
                    have HX : Hid (decide (x.ds = y.ds) = false) := Lib.hid (decide_eq_false (HN.out (of_decide_eq_false HSx.out)))
                    rw [HX.out] at HS
                    go_wp2_with fail
                    go_ret
                    exact ⟨by rw [HS.out]; simp, HBK.out _ (HBR.out _ HQ0)⟩
                  · rw [e7] at q7 HSx
                    clear e7
                    cases e8 : decide ((x1.ks.length : Int) = (y1.ks.length : Int))
                    · rw [e8, Bool.not_false] at t7
                      rw [e8] at HSx
                      clear e8
                      have HX : Hid (decide (x.ds = y.ds) = false) := Lib.hid (decide_eq_false (HN.out (of_decide_eq_false HSx.out)))
                      rw [HX.out] at HS
                      go_wp2_with fail
                      go_ret
                      exact ⟨by rw [HS.out]; simp, HBK.out _ (HBR.out _ HQ0)⟩
                    · rw [e8, Bool.not_true] at t7
                      rw [e8] at HSx
                      have EK := Lib.hid (len_dec e8)
                      clear e8
                      go_wp2_with fail
                      clear z0 z1 c0 d0 c1 d1 c2 d2 c3 d3
                      go_loopw [8] (fun i wi => ∃ (m : Nat), m ≤ x1.ks.length ∧ i = .int .i64 m ∧ Hid (x1.ks.take m = y1.ks.take m) ∧ Hid (Below (wr0.heap.size + 2) ((wr0.alloc (.cells #[.string x1.n.t, .int .i64 x1.n.l, .int .i64 x1.n.c, .slice a1 x1.ks.length cx1] 39)).alloc (.cells #[.string y1.n.t, .int .i64 y1.n.l, .int .i64 y1.n.c, .slice a2 y1.ks.length cx2] 39)) wi)) (fun i _ => x1.ks.length - (intOf i).toNat)
                      case atStart => exact ⟨0, Nat.zero_le _, rfl, Lib.hid rfl, HQ0⟩
                      case round =>
                        obtain ⟨m, hm, rfl, HTi, HQ⟩ := hrel
                        obtain ⟨u, v⟩ := box2 HQ.out
                        have z0 := u 3 _ rfl
                        have z1 := v 3 _ rfl
                        clear u v
                        by_cases hm2 : m < x1.ks.length
                        case neg =>
                          have HX := Lib.hid (HE.out (of_decide_eq_true (by rw [HSx.out, decide_eq_true (take_allG HTi.out (by omega) (by rw [← EK.out]; omega))]; rfl)))
                          go_wp2_with fail
                          go_roundw
                          case rel => exact ⟨n + 1, h, by go_num, HX, HBR.out _ HQ⟩
                          case measure => simp [intOf]; omega
                        case pos =>
                          obtain ⟨x2, hx⟩ := at_some (L := x1.ks) rfl hm2
                          obtain ⟨y2, hy⟩ := at_some (L := y1.ks) rfl (show m < y1.ks.length by rw [← EK.out]; exact hm2)
                          have HW2 := Lib.hid (HBQ.out _ HQ)
                          obtain ⟨g2, off2, e1, hg2, hc, _⟩ := (K1.out.belowF HW2.out).flat hx
                          obtain ⟨g2', off2', e2, hg2', hd, _⟩ := (K2.out.belowF HW2.out).flat hy
                          have h5 : (m : Int) < (x1.ks.length : Int) := by omega
                          have h6 : (m : Int) < (y1.ks.length : Int) := by rw [← EK.out]; omega
                          have h7 : (0 : Int) ≤ (m : Int) := by omega
                          rw [e1] at z0
                          rw [e2] at z1
                          have HEi := Lib.hid (take_sameG hx hy HTi.out)
                          have HNi := Lib.hid (ne_atG hx hy)
                          have c0 := hc 0 _ rfl
                          have d0 := hd 0 _ rfl
                          rw [Nat.mul_one, Nat.add_zero] at c0 d0
                          clear hc hd hx hy e1 e2
                          have t1 := int_ne x2 y2
                          by_cases hz : x2 = y2
                          · have HX := Lib.hid (HEi.out hz)
                            rw [decide_eq_true hz, Bool.not_true] at t1
                            clear hz
                            go_wp2_with fail
                            go_quiet (fail)
                            go_wp2_with fail
                            go_roundw
                            case rel => exact ⟨m + 1, by omega, by go_num, HX, Lib.hid (below_drewN _ HQ.out)⟩
                            case measure => simp [intOf]; omega
                          · have HXi : Hid (decide (x1.ks = y1.ks) = false) := Lib.hid (decide_eq_false (HNi.out hz))
                            rw [decide_eq_false hz, Bool.not_false] at t1
                            rw [HXi.out] at HSx
                            clear hz
                            have HX : Hid (decide (x.ds = y.ds) = false) := Lib.hid (decide_eq_false (HN.out (of_decide_eq_false HSx.out)))
                            rw [HX.out] at HS
                            go_wp2_with fail
                            go_quiet (fail)
                            go_wp2_with fail
                            go_ret
                            exact ⟨by rw [HS.out]; simp, HBK.out _ (HBR.out _ (Lib.hid (below_drewN _ HQ.out)))⟩
end Go.Proofs.YtojabkhfkbfeaaaGreatDoor

/- TreeRefSame -/
namespace Go.Proofs.YtojabkhfkbfeaaaGreatDoor
open Go.RowKit
set_option linter.unusedVariables false

theorem keepC {w w' : World} {p : Addr} {v : Value} (k : Below w.heap.size w w') (h : w.cell? p = some v) : w'.cell? p = some v := (k.cell (p := p) (block_lt_of_cell h)).trans h
theorem same_head (x y : Tr) : decide (x = y) = (headB x y && (decide ((x.al.length : Int) = (y.al.length : Int)) && (decide ((x.ts.length : Int) = (y.ts.length : Int)) && (decide (x.al = y.al) && decide (x.ts = y.ts))))) := by
  rw [decTr, headB, len_and x.al, len_and x.ts]
  generalize decide (x.n = y.n) = b0
  generalize decide (x.s = y.s) = b1
  generalize decide ((x.al.length : Int) = (y.al.length : Int)) = b4
  generalize decide ((x.ts.length : Int) = (y.ts.length : Int)) = b5
  generalize decide (x.ds = y.ds) = c2
  generalize decide (x.qs = y.qs) = c3
  generalize decide (x.fs = y.fs) = c4
  generalize decide (x.st = y.st) = c5
  generalize decide (x.al = y.al) = c6
  generalize decide (x.ts = y.ts) = c7
  cases b0 <;> cases b1 <;> cases b4 <;> cases b5 <;> cases c2 <;> cases c3 <;> simp [Bool.and_assoc]

set_option maxHeartbeats 8000000 in
set_option maxRecDepth 100000 in
theorem refSame_calls {Y Y' : TyT} {O O' : Prop} (x y : Tr) (cs cs' : List Value) (w : World) (hx : TrIn Y O w cs x) (hy : TrIn Y' O' w cs' y) :
    Calls Tryz.prog 9 #[.agg cs.toArray, .agg cs'.toArray] w fun e w' => e = .returned (.bool (decide (x = y))) ∧ Below w.heap.size w w' := by
  have hx0 := hx
  have hy0 := hy
  obtain ⟨⟨da, dc, qa, qc, fa, fc, ta, tc, la, lc, xa, xc, rfl, g1, g2, g3, g4, g5, g6⟩, _⟩ := hx
  obtain ⟨⟨da', dc', qa', qc', fa', fc', ta', tc', la', lc', xa', xc', rfl, g1', g2', g3', g4', g5', g6'⟩, _⟩ := hy
  have HB : Hid (Below w.heap.size w ((w.alloc (.cells #[.string x.n.t, .int .i64 x.n.l, .int .i64 x.n.c, .slice da x.ds.length dc, .slice qa x.qs.length qc, .slice fa x.fs.length fc, .slice ta x.st.length tc, .string x.s.t, .int .i64 x.s.l, .int .i64 x.s.c, .slice la x.al.length lc, .slice xa x.ts.length xc] 31)).alloc (.cells #[.string y.n.t, .int .i64 y.n.l, .int .i64 y.n.c, .slice da' y.ds.length dc', .slice qa' y.qs.length qc', .slice fa' y.fs.length fc', .slice ta' y.st.length tc', .string y.s.t, .int .i64 y.s.l, .int .i64 y.s.c, .slice la' y.al.length lc', .slice xa' y.ts.length xc'] 31))) := Lib.hid (((Below.refl w.heap.size w).alloc (Nat.le_refl _) _).alloc (by simp) _)
  have HK0 : Hid (Below (w.heap.size + 2) ((w.alloc (.cells #[.string x.n.t, .int .i64 x.n.l, .int .i64 x.n.c, .slice da x.ds.length dc, .slice qa x.qs.length qc, .slice fa x.fs.length fc, .slice ta x.st.length tc, .string x.s.t, .int .i64 x.s.l, .int .i64 x.s.c, .slice la x.al.length lc, .slice xa x.ts.length xc] 31)).alloc (.cells #[.string y.n.t, .int .i64 y.n.l, .int .i64 y.n.c, .slice da' y.ds.length dc', .slice qa' y.qs.length qc', .slice fa' y.fs.length fc', .slice ta' y.st.length tc', .string y.s.t, .int .i64 y.s.l, .int .i64 y.s.c, .slice la' y.al.length lc', .slice xa' y.ts.length xc'] 31)) ((w.alloc (.cells #[.string x.n.t, .int .i64 x.n.l, .int .i64 x.n.c, .slice da x.ds.length dc, .slice qa x.qs.length qc, .slice fa x.fs.length fc, .slice ta x.st.length tc, .string x.s.t, .int .i64 x.s.l, .int .i64 x.s.c, .slice la x.al.length lc, .slice xa x.ts.length xc] 31)).alloc (.cells #[.string y.n.t, .int .i64 y.n.l, .int .i64 y.n.c, .slice da' y.ds.length dc', .slice qa' y.qs.length qc', .slice fa' y.fs.length fc', .slice ta' y.st.length tc', .string y.s.t, .int .i64 y.s.l, .int .i64 y.s.c, .slice la' y.al.length lc', .slice xa' y.ts.length xc'] 31))) := Lib.hid (Below.refl _ _)
  have HS : Hid (decide (x = y) = (headB x y && (decide ((x.al.length : Int) = (y.al.length : Int)) && (decide ((x.ts.length : Int) = (y.ts.length : Int)) && (decide (x.al = y.al) && decide (x.ts = y.ts)))))) := Lib.hid (same_head x y)
  have H0 := Lib.hid (fun w1 (hb : Below (w.heap.size + 2) ((w.alloc (.cells #[.string x.n.t, .int .i64 x.n.l, .int .i64 x.n.c, .slice da x.ds.length dc, .slice qa x.qs.length qc, .slice fa x.fs.length fc, .slice ta x.st.length tc, .string x.s.t, .int .i64 x.s.l, .int .i64 x.s.c, .slice la x.al.length lc, .slice xa x.ts.length xc] 31)).alloc (.cells #[.string y.n.t, .int .i64 y.n.l, .int .i64 y.n.c, .slice da' y.ds.length dc', .slice qa' y.qs.length qc', .slice fa' y.fs.length fc', .slice ta' y.st.length tc', .string y.s.t, .int .i64 y.s.l, .int .i64 y.s.c, .slice la' y.al.length lc', .slice xa' y.ts.length xc'] 31)) w1) => refHead_calls (Y := Y) (Y' := Y') (O := O) (O' := O') x y [.string x.n.t, .int .i64 x.n.l, .int .i64 x.n.c, .slice da x.ds.length dc, .slice qa x.qs.length qc, .slice fa x.fs.length fc, .slice ta x.st.length tc, .string x.s.t, .int .i64 x.s.l, .int .i64 x.s.c, .slice la x.al.length lc, .slice xa x.ts.length xc] [.string y.n.t, .int .i64 y.n.l, .int .i64 y.n.c, .slice da' y.ds.length dc', .slice qa' y.qs.length qc', .slice fa' y.fs.length fc', .slice ta' y.st.length tc', .string y.s.t, .int .i64 y.s.l, .int .i64 y.s.c, .slice la' y.al.length lc', .slice xa' y.ts.length xc'] w1 (hx0.below (HB.out.trans (hb.mono (Nat.le_add_right _ 2)))) (hy0.below (HB.out.trans (hb.mono (Nat.le_add_right _ 2)))))
  have t1 := int_ne (x.al.length : Int) (y.al.length : Int)
  have t2 := int_ne (x.ts.length : Int) (y.ts.length : Int)
  have s0 := g1.small
  have s0' := g1'.small
  have G1 := Lib.hid g1
  have G1' := Lib.hid g1'
  have s1 := g2.small
  have s1' := g2'.small
  have G2 := Lib.hid g2
  have G2' := Lib.hid g2'
  have s2 := g3.small
  have s2' := g3'.small
  have G3 := Lib.hid g3
  have G3' := Lib.hid g3'
  have s3 := g4.small
  have s3' := g4'.small
  have G4 := Lib.hid g4
  have G4' := Lib.hid g4'
  have s4 := g5.small
  have s4' := g5'.small
  have G5 := Lib.hid g5
  have G5' := Lib.hid g5'
  have s5 := g6.small
  have s5' := g6'.small
  have G6 := Lib.hid g6
  have G6' := Lib.hid g6'
  have HBk : ∀ (w1 : World), Hid (Below (w.heap.size + 2) ((w.alloc (.cells #[.string x.n.t, .int .i64 x.n.l, .int .i64 x.n.c, .slice da x.ds.length dc, .slice qa x.qs.length qc, .slice fa x.fs.length fc, .slice ta x.st.length tc, .string x.s.t, .int .i64 x.s.l, .int .i64 x.s.c, .slice la x.al.length lc, .slice xa x.ts.length xc] 31)).alloc (.cells #[.string y.n.t, .int .i64 y.n.l, .int .i64 y.n.c, .slice da' y.ds.length dc', .slice qa' y.qs.length qc', .slice fa' y.fs.length fc', .slice ta' y.st.length tc', .string y.s.t, .int .i64 y.s.l, .int .i64 y.s.c, .slice la' y.al.length lc', .slice xa' y.ts.length xc'] 31)) w1) → Below w.heap.size w w1 := fun _ h => HB.out.trans (h.out.mono (Nat.le_add_right _ 2))
  have HBK := Lib.hid HBk
  clear HBk
  clear hx0 hy0 g1 g1' g2 g2' g3 g3' g4 g4' g5 g5' g6 g6'
  cases e0 : headB x y
  · rw [e0] at HS H0
    clear e0
    go_enter Tryz.func9, Tryz.ntmps9
    go_wp2_with fail
    refine (H0.out _ HK0.out).mono ?_
    rintro e w0 ⟨rfl, k0⟩
    have HK1 := Lib.hid (below2_step HK0.out (by simp) k0)
    clear k0
    go_wp2_with fail
    go_ret
    exact ⟨by rw [HS.out]; rfl, HBK.out _ HK1⟩
  · rw [e0] at HS H0
    clear e0
    cases e1 : decide ((x.al.length : Int) = (y.al.length : Int))
    · rw [e1, Bool.not_false] at t1
      rw [e1] at HS
      clear e1
      go_enter Tryz.func9, Tryz.ntmps9
      go_wp2_with fail
      refine (H0.out _ HK0.out).mono ?_
      rintro e w0 ⟨rfl, k0⟩
      have HK1 := Lib.hid (below2_step HK0.out (by simp) k0)
      clear k0
      obtain ⟨u0, v0⟩ := box2 HK1.out
      have c0_10 : w0.cell? ⟨w.heap.size, 10, none⟩ = some (.slice la x.al.length lc) := u0 10 _ rfl
      have d0_10 : w0.cell? ⟨w.heap.size + 1, 10, none⟩ = some (.slice la' y.al.length lc') := v0 10 _ rfl
      clear u0 v0
      go_wp2_with fail
      clear c0_10 d0_10
      go_ret
      exact ⟨by rw [HS.out]; rfl, HBK.out _ HK1⟩
    · rw [e1, Bool.not_true] at t1
      rw [e1] at HS
      have E1 := Lib.hid (len_dec e1)
      clear e1
      cases e2 : decide ((x.ts.length : Int) = (y.ts.length : Int))
      · rw [e2, Bool.not_false] at t2
        rw [e2] at HS
        clear e2
        go_enter Tryz.func9, Tryz.ntmps9
        go_wp2_with fail
        refine (H0.out _ HK0.out).mono ?_
        rintro e w0 ⟨rfl, k0⟩
        have HK1 := Lib.hid (below2_step HK0.out (by simp) k0)
        clear k0
        obtain ⟨u0, v0⟩ := box2 HK1.out
        have c0_10 : w0.cell? ⟨w.heap.size, 10, none⟩ = some (.slice la x.al.length lc) := u0 10 _ rfl
        have d0_10 : w0.cell? ⟨w.heap.size + 1, 10, none⟩ = some (.slice la' y.al.length lc') := v0 10 _ rfl
        have c0_11 : w0.cell? ⟨w.heap.size, 11, none⟩ = some (.slice xa x.ts.length xc) := u0 11 _ rfl
        have d0_11 : w0.cell? ⟨w.heap.size + 1, 11, none⟩ = some (.slice xa' y.ts.length xc') := v0 11 _ rfl
        clear u0 v0
        go_wp2_with fail
        clear c0_10 d0_10 c0_11 d0_11
        go_ret
        exact ⟨by rw [HS.out]; rfl, HBK.out _ HK1⟩
      · rw [e2, Bool.not_true] at t2
        rw [e2] at HS
        have E2 := Lib.hid (len_dec e2)
        clear e2
        go_enter Tryz.func9, Tryz.ntmps9
        go_wp2_with fail
        refine (H0.out _ HK0.out).mono ?_
        rintro e w0 ⟨rfl, k0⟩
        have HK1 := Lib.hid (below2_step HK0.out (by simp) k0)
        clear k0
        obtain ⟨u0, v0⟩ := box2 HK1.out
        have c0_10 : w0.cell? ⟨w.heap.size, 10, none⟩ = some (.slice la x.al.length lc) := u0 10 _ rfl
        have d0_10 : w0.cell? ⟨w.heap.size + 1, 10, none⟩ = some (.slice la' y.al.length lc') := v0 10 _ rfl
        have c0_11 : w0.cell? ⟨w.heap.size, 11, none⟩ = some (.slice xa x.ts.length xc) := u0 11 _ rfl
        have d0_11 : w0.cell? ⟨w.heap.size + 1, 11, none⟩ = some (.slice xa' y.ts.length xc') := v0 11 _ rfl
        clear u0 v0
        go_wp2_with fail
        clear c0_10 d0_10 c0_11 d0_11
        go_loopw [5] (fun i wr => ∃ (n : Nat), n ≤ x.al.length ∧ i = .int .i64 n ∧ Hid (x.al.take n = y.al.take n) ∧ Hid (Below (w.heap.size + 2) ((w.alloc (.cells #[.string x.n.t, .int .i64 x.n.l, .int .i64 x.n.c, .slice da x.ds.length dc, .slice qa x.qs.length qc, .slice fa x.fs.length fc, .slice ta x.st.length tc, .string x.s.t, .int .i64 x.s.l, .int .i64 x.s.c, .slice la x.al.length lc, .slice xa x.ts.length xc] 31)).alloc (.cells #[.string y.n.t, .int .i64 y.n.l, .int .i64 y.n.c, .slice da' y.ds.length dc', .slice qa' y.qs.length qc', .slice fa' y.fs.length fc', .slice ta' y.st.length tc', .string y.s.t, .int .i64 y.s.l, .int .i64 y.s.c, .slice la' y.al.length lc', .slice xa' y.ts.length xc'] 31)) wr)) (fun i _ => x.al.length - (intOf i).toNat)
        case atStart => exact ⟨0, Nat.zero_le _, rfl, Lib.hid rfl, HK1⟩
        case round =>
          obtain ⟨n, hn, rfl, HT, HL0⟩ := hrel
          obtain ⟨wr0, hwr⟩ : ∃ u, u = wr := ⟨_, rfl⟩
          subst hwr
          obtain ⟨u, v⟩ := box2 HL0.out
          have z0 : wr0.cell? ⟨w.heap.size, 10, none⟩ = some (.slice la x.al.length lc) := u 10 _ rfl
          have z1 : wr0.cell? ⟨w.heap.size + 1, 10, none⟩ = some (.slice la' y.al.length lc') := v 10 _ rfl
          clear u v
          by_cases h : n < x.al.length
          case neg =>
            have HX0 : Hid (decide (x.al = y.al) = true) := Lib.hid (decide_eq_true (take_allG HT.out (by omega) (by rw [← E1.out]; omega)))
            rw [HX0.out] at HS
            go_wp2_with fail
            clear z0 z1 HT
            go_loopw [6] (fun i wr => ∃ (n : Nat), n ≤ x.ts.length ∧ i = .int .i64 n ∧ Hid (x.ts.take n = y.ts.take n) ∧ Hid (Below (w.heap.size + 2) ((w.alloc (.cells #[.string x.n.t, .int .i64 x.n.l, .int .i64 x.n.c, .slice da x.ds.length dc, .slice qa x.qs.length qc, .slice fa x.fs.length fc, .slice ta x.st.length tc, .string x.s.t, .int .i64 x.s.l, .int .i64 x.s.c, .slice la x.al.length lc, .slice xa x.ts.length xc] 31)).alloc (.cells #[.string y.n.t, .int .i64 y.n.l, .int .i64 y.n.c, .slice da' y.ds.length dc', .slice qa' y.qs.length qc', .slice fa' y.fs.length fc', .slice ta' y.st.length tc', .string y.s.t, .int .i64 y.s.l, .int .i64 y.s.c, .slice la' y.al.length lc', .slice xa' y.ts.length xc'] 31)) wr)) (fun i _ => x.ts.length - (intOf i).toNat)
            case atStart => exact ⟨0, Nat.zero_le _, rfl, Lib.hid rfl, HL0⟩
            case round =>
              obtain ⟨n, hn, rfl, HT, HL1⟩ := hrel
              obtain ⟨wr1, hwr⟩ : ∃ u, u = wr := ⟨_, rfl⟩
              subst hwr
              obtain ⟨u, v⟩ := box2 HL1.out
              have z0 : wr1.cell? ⟨w.heap.size, 11, none⟩ = some (.slice xa x.ts.length xc) := u 11 _ rfl
              have z1 : wr1.cell? ⟨w.heap.size + 1, 11, none⟩ = some (.slice xa' y.ts.length xc') := v 11 _ rfl
              clear u v
              by_cases h : n < x.ts.length
              case neg =>
                have HX1 : Hid (decide (x.ts = y.ts) = true) := Lib.hid (decide_eq_true (take_allG HT.out (by omega) (by rw [← E2.out]; omega)))
                rw [HX1.out] at HS
                go_wp2_with fail
                clear z0 z1 HT
                go_ret
                exact ⟨by rw [HS.out]; rfl, HBK.out _ HL1⟩
              case pos =>
                obtain ⟨x1, hx⟩ := at_some (L := x.ts) rfl h
                obtain ⟨y1, hy⟩ := at_some (L := y.ts) rfl (show n < y.ts.length by rw [← E2.out]; exact h)
                have HW := Lib.hid (HBK.out _ HL1)
                obtain ⟨g, off, csx, e1, hg, _, hc, hrx, _⟩ := (G6.out.belowT HW.out).at' n x1 hx
                obtain ⟨g', off', csy, e2, hg', _, hd, hry, _⟩ := (G6'.out.belowT HW.out).at' n y1 hy
                have HRX := Lib.hid hrx
                have HRY := Lib.hid hry
                obtain ⟨oaQ, ocQ, naQ, ncQ, saQ, scQ, rfl, g1Q, g2Q, g3Q, g4Q⟩ := hrx
                obtain ⟨oaQ', ocQ', naQ', ncQ', saQ', scQ', rfl, g1Q', g2Q', g3Q', g4Q'⟩ := hry
                clear g1Q g1Q' g2Q g2Q' g3Q g3Q'
                have h2 : (n : Int) < (x.ts.length : Int) := by omega
                have h3 : (n : Int) < (y.ts.length : Int) := by rw [← E2.out]; omega
                have h4 : (0 : Int) ≤ (n : Int) := by omega
                rw [e1] at z0
                rw [e2] at z1
                have HE := Lib.hid (take_sameG hx hy HT.out)
                have HN := Lib.hid (ne_atG hx hy)
                have c0 : wr1.cell? ⟨g, off + n * 13, none⟩ = some (.string x1.f.t) := hc 0 _ rfl
                have c1 : wr1.cell? ⟨g, off + n * 13 + 1, none⟩ = some (.int .i64 x1.f.l) := hc 1 _ rfl
                have c2 : wr1.cell? ⟨g, off + n * 13 + 2, none⟩ = some (.int .i64 x1.f.c) := hc 2 _ rfl
                have c3 : wr1.cell? ⟨g, off + n * 13 + 3, none⟩ = some (.string x1.t.t) := hc 3 _ rfl
                have c4 : wr1.cell? ⟨g, off + n * 13 + 4, none⟩ = some (.int .i64 x1.t.l) := hc 4 _ rfl
                have c5 : wr1.cell? ⟨g, off + n * 13 + 5, none⟩ = some (.int .i64 x1.t.c) := hc 5 _ rfl
                have c6 : wr1.cell? ⟨g, off + n * 13 + 6, none⟩ = some (.string x1.on.n) := hc 6 _ rfl
                have c7 : wr1.cell? ⟨g, off + n * 13 + 7, none⟩ = some (.slice oaQ x1.on.ar.length ocQ) := hc 7 _ rfl
                have c8 : wr1.cell? ⟨g, off + n * 13 + 8, none⟩ = some (.int .i64 x1.on.l) := hc 8 _ rfl
                have c9 : wr1.cell? ⟨g, off + n * 13 + 9, none⟩ = some (.int .i64 x1.on.c) := hc 9 _ rfl
                have c10 : wr1.cell? ⟨g, off + n * 13 + 10, none⟩ = some (.slice naQ x1.ns.length ncQ) := hc 10 _ rfl
                have c11 : wr1.cell? ⟨g, off + n * 13 + 11, none⟩ = some (.int .i64 x1.g) := hc 11 _ rfl
                have c12 : wr1.cell? ⟨g, off + n * 13 + 12, none⟩ = some (.slice saQ x1.ss.length scQ) := hc 12 _ rfl
                have d0 : wr1.cell? ⟨g', off' + n * 13, none⟩ = some (.string y1.f.t) := hd 0 _ rfl
                have d1 : wr1.cell? ⟨g', off' + n * 13 + 1, none⟩ = some (.int .i64 y1.f.l) := hd 1 _ rfl
                have d2 : wr1.cell? ⟨g', off' + n * 13 + 2, none⟩ = some (.int .i64 y1.f.c) := hd 2 _ rfl
                have d3 : wr1.cell? ⟨g', off' + n * 13 + 3, none⟩ = some (.string y1.t.t) := hd 3 _ rfl
                have d4 : wr1.cell? ⟨g', off' + n * 13 + 4, none⟩ = some (.int .i64 y1.t.l) := hd 4 _ rfl
                have d5 : wr1.cell? ⟨g', off' + n * 13 + 5, none⟩ = some (.int .i64 y1.t.c) := hd 5 _ rfl
                have d6 : wr1.cell? ⟨g', off' + n * 13 + 6, none⟩ = some (.string y1.on.n) := hd 6 _ rfl
                have d7 : wr1.cell? ⟨g', off' + n * 13 + 7, none⟩ = some (.slice oaQ' y1.on.ar.length ocQ') := hd 7 _ rfl
                have d8 : wr1.cell? ⟨g', off' + n * 13 + 8, none⟩ = some (.int .i64 y1.on.l) := hd 8 _ rfl
                have d9 : wr1.cell? ⟨g', off' + n * 13 + 9, none⟩ = some (.int .i64 y1.on.c) := hd 9 _ rfl
                have d10 : wr1.cell? ⟨g', off' + n * 13 + 10, none⟩ = some (.slice naQ' y1.ns.length ncQ') := hd 10 _ rfl
                have d11 : wr1.cell? ⟨g', off' + n * 13 + 11, none⟩ = some (.int .i64 y1.g) := hd 11 _ rfl
                have d12 : wr1.cell? ⟨g', off' + n * 13 + 12, none⟩ = some (.slice saQ' y1.ss.length scQ') := hd 12 _ rfl
                clear hc hd hx hy e1 e2
                have HR := Lib.hid (And.intro z0 (And.intro z1 (And.intro c0 (And.intro c1 (And.intro c2 (And.intro c3 (And.intro c4 (And.intro c5 (And.intro c6 (And.intro c7 (And.intro c8 (And.intro c9 (And.intro c10 (And.intro c11 (And.intro c12 (And.intro d0 (And.intro d1 (And.intro d2 (And.intro d3 (And.intro d4 (And.intro d5 (And.intro d6 (And.intro d7 (And.intro d8 (And.intro d9 (And.intro d10 (And.intro d11 d12)))))))))))))))))))))))))))
                have H1 := Lib.hid (fun w1 (hb : Below wr1.heap.size wr1 w1) => refSameTs_calls x1 y1 _ _ w1 (rTs_below HRX.out hb) (rTs_below HRY.out hb))
                clear HRX HRY
                cases e : decide (x1 = y1)
                · have HX : Hid (decide (x.ts = y.ts) = false) := Lib.hid (decide_eq_false (HN.out (of_decide_eq_false e)))
                  rw [HX.out] at HS
                  rw [e] at H1
                  clear e
                  go_wp2_with fail
                  go_region_held3 (fun W9 => W9.cell? ⟨w.heap.size, 11, none⟩ = some (.slice (some ⟨g, off, none⟩) x.ts.length xc) ∧ W9.cell? ⟨w.heap.size + 1, 11, none⟩ = some (.slice (some ⟨g', off', none⟩) y.ts.length xc') ∧ W9.cell? ⟨g, off + n * 13, none⟩ = some (.string x1.f.t) ∧ W9.cell? ⟨g, off + n * 13 + 1, none⟩ = some (.int .i64 x1.f.l) ∧ W9.cell? ⟨g, off + n * 13 + 2, none⟩ = some (.int .i64 x1.f.c) ∧ W9.cell? ⟨g, off + n * 13 + 3, none⟩ = some (.string x1.t.t) ∧ W9.cell? ⟨g, off + n * 13 + 4, none⟩ = some (.int .i64 x1.t.l) ∧ W9.cell? ⟨g, off + n * 13 + 5, none⟩ = some (.int .i64 x1.t.c) ∧ W9.cell? ⟨g, off + n * 13 + 6, none⟩ = some (.string x1.on.n) ∧ W9.cell? ⟨g, off + n * 13 + 7, none⟩ = some (.slice oaQ x1.on.ar.length ocQ) ∧ W9.cell? ⟨g, off + n * 13 + 8, none⟩ = some (.int .i64 x1.on.l) ∧ W9.cell? ⟨g, off + n * 13 + 9, none⟩ = some (.int .i64 x1.on.c) ∧ W9.cell? ⟨g, off + n * 13 + 10, none⟩ = some (.slice naQ x1.ns.length ncQ) ∧ W9.cell? ⟨g, off + n * 13 + 11, none⟩ = some (.int .i64 x1.g) ∧ W9.cell? ⟨g, off + n * 13 + 12, none⟩ = some (.slice saQ x1.ss.length scQ) ∧ W9.cell? ⟨g', off' + n * 13, none⟩ = some (.string y1.f.t) ∧ W9.cell? ⟨g', off' + n * 13 + 1, none⟩ = some (.int .i64 y1.f.l) ∧ W9.cell? ⟨g', off' + n * 13 + 2, none⟩ = some (.int .i64 y1.f.c) ∧ W9.cell? ⟨g', off' + n * 13 + 3, none⟩ = some (.string y1.t.t) ∧ W9.cell? ⟨g', off' + n * 13 + 4, none⟩ = some (.int .i64 y1.t.l) ∧ W9.cell? ⟨g', off' + n * 13 + 5, none⟩ = some (.int .i64 y1.t.c) ∧ W9.cell? ⟨g', off' + n * 13 + 6, none⟩ = some (.string y1.on.n) ∧ W9.cell? ⟨g', off' + n * 13 + 7, none⟩ = some (.slice oaQ' y1.on.ar.length ocQ') ∧ W9.cell? ⟨g', off' + n * 13 + 8, none⟩ = some (.int .i64 y1.on.l) ∧ W9.cell? ⟨g', off' + n * 13 + 9, none⟩ = some (.int .i64 y1.on.c) ∧ W9.cell? ⟨g', off' + n * 13 + 10, none⟩ = some (.slice naQ' y1.ns.length ncQ') ∧ W9.cell? ⟨g', off' + n * 13 + 11, none⟩ = some (.int .i64 y1.g) ∧ W9.cell? ⟨g', off' + n * 13 + 12, none⟩ = some (.slice saQ' y1.ss.length scQ')) (first | exact HR.out | exact HR4.out) (first
                    | (go_at_call 51; refine (H1.out _ (Below.refl wr1.heap.size wr1).drew).mono ?_; rintro e w4 ⟨rfl, k4⟩; have HK4 := Lib.hid ((Below.refl wr1.heap.size wr1).drew.trans k4); have HR4 := Lib.hid (And.intro (keepC HK4.out z0) (And.intro (keepC HK4.out z1) (And.intro (keepC HK4.out c0) (And.intro (keepC HK4.out c1) (And.intro (keepC HK4.out c2) (And.intro (keepC HK4.out c3) (And.intro (keepC HK4.out c4) (And.intro (keepC HK4.out c5) (And.intro (keepC HK4.out c6) (And.intro (keepC HK4.out c7) (And.intro (keepC HK4.out c8) (And.intro (keepC HK4.out c9) (And.intro (keepC HK4.out c10) (And.intro (keepC HK4.out c11) (And.intro (keepC HK4.out c12) (And.intro (keepC HK4.out d0) (And.intro (keepC HK4.out d1) (And.intro (keepC HK4.out d2) (And.intro (keepC HK4.out d3) (And.intro (keepC HK4.out d4) (And.intro (keepC HK4.out d5) (And.intro (keepC HK4.out d6) (And.intro (keepC HK4.out d7) (And.intro (keepC HK4.out d8) (And.intro (keepC HK4.out d9) (And.intro (keepC HK4.out d10) (And.intro (keepC HK4.out d11) (keepC HK4.out d12))))))))))))))))))))))))))))))
                  go_wp2_with fail
                  go_ret
                  exact ⟨by rw [HS.out]; simp, HBK.out _ (Lib.hid (HL1.out.trans (HK4.out.mono (by have := HL1.out.size; simp at this; omega))))⟩
                · have HX := Lib.hid (HE.out (of_decide_eq_true e))
                  rw [e] at H1
                  clear e
                  go_wp2_with fail
                  go_region_held3 (fun W9 => W9.cell? ⟨w.heap.size, 11, none⟩ = some (.slice (some ⟨g, off, none⟩) x.ts.length xc) ∧ W9.cell? ⟨w.heap.size + 1, 11, none⟩ = some (.slice (some ⟨g', off', none⟩) y.ts.length xc') ∧ W9.cell? ⟨g, off + n * 13, none⟩ = some (.string x1.f.t) ∧ W9.cell? ⟨g, off + n * 13 + 1, none⟩ = some (.int .i64 x1.f.l) ∧ W9.cell? ⟨g, off + n * 13 + 2, none⟩ = some (.int .i64 x1.f.c) ∧ W9.cell? ⟨g, off + n * 13 + 3, none⟩ = some (.string x1.t.t) ∧ W9.cell? ⟨g, off + n * 13 + 4, none⟩ = some (.int .i64 x1.t.l) ∧ W9.cell? ⟨g, off + n * 13 + 5, none⟩ = some (.int .i64 x1.t.c) ∧ W9.cell? ⟨g, off + n * 13 + 6, none⟩ = some (.string x1.on.n) ∧ W9.cell? ⟨g, off + n * 13 + 7, none⟩ = some (.slice oaQ x1.on.ar.length ocQ) ∧ W9.cell? ⟨g, off + n * 13 + 8, none⟩ = some (.int .i64 x1.on.l) ∧ W9.cell? ⟨g, off + n * 13 + 9, none⟩ = some (.int .i64 x1.on.c) ∧ W9.cell? ⟨g, off + n * 13 + 10, none⟩ = some (.slice naQ x1.ns.length ncQ) ∧ W9.cell? ⟨g, off + n * 13 + 11, none⟩ = some (.int .i64 x1.g) ∧ W9.cell? ⟨g, off + n * 13 + 12, none⟩ = some (.slice saQ x1.ss.length scQ) ∧ W9.cell? ⟨g', off' + n * 13, none⟩ = some (.string y1.f.t) ∧ W9.cell? ⟨g', off' + n * 13 + 1, none⟩ = some (.int .i64 y1.f.l) ∧ W9.cell? ⟨g', off' + n * 13 + 2, none⟩ = some (.int .i64 y1.f.c) ∧ W9.cell? ⟨g', off' + n * 13 + 3, none⟩ = some (.string y1.t.t) ∧ W9.cell? ⟨g', off' + n * 13 + 4, none⟩ = some (.int .i64 y1.t.l) ∧ W9.cell? ⟨g', off' + n * 13 + 5, none⟩ = some (.int .i64 y1.t.c) ∧ W9.cell? ⟨g', off' + n * 13 + 6, none⟩ = some (.string y1.on.n) ∧ W9.cell? ⟨g', off' + n * 13 + 7, none⟩ = some (.slice oaQ' y1.on.ar.length ocQ') ∧ W9.cell? ⟨g', off' + n * 13 + 8, none⟩ = some (.int .i64 y1.on.l) ∧ W9.cell? ⟨g', off' + n * 13 + 9, none⟩ = some (.int .i64 y1.on.c) ∧ W9.cell? ⟨g', off' + n * 13 + 10, none⟩ = some (.slice naQ' y1.ns.length ncQ') ∧ W9.cell? ⟨g', off' + n * 13 + 11, none⟩ = some (.int .i64 y1.g) ∧ W9.cell? ⟨g', off' + n * 13 + 12, none⟩ = some (.slice saQ' y1.ss.length scQ')) (first | exact HR.out | exact HR4.out) (first
                    | (go_at_call 51; refine (H1.out _ (Below.refl wr1.heap.size wr1).drew).mono ?_; rintro e w4 ⟨rfl, k4⟩; have HK4 := Lib.hid ((Below.refl wr1.heap.size wr1).drew.trans k4); have HR4 := Lib.hid (And.intro (keepC HK4.out z0) (And.intro (keepC HK4.out z1) (And.intro (keepC HK4.out c0) (And.intro (keepC HK4.out c1) (And.intro (keepC HK4.out c2) (And.intro (keepC HK4.out c3) (And.intro (keepC HK4.out c4) (And.intro (keepC HK4.out c5) (And.intro (keepC HK4.out c6) (And.intro (keepC HK4.out c7) (And.intro (keepC HK4.out c8) (And.intro (keepC HK4.out c9) (And.intro (keepC HK4.out c10) (And.intro (keepC HK4.out c11) (And.intro (keepC HK4.out c12) (And.intro (keepC HK4.out d0) (And.intro (keepC HK4.out d1) (And.intro (keepC HK4.out d2) (And.intro (keepC HK4.out d3) (And.intro (keepC HK4.out d4) (And.intro (keepC HK4.out d5) (And.intro (keepC HK4.out d6) (And.intro (keepC HK4.out d7) (And.intro (keepC HK4.out d8) (And.intro (keepC HK4.out d9) (And.intro (keepC HK4.out d10) (And.intro (keepC HK4.out d11) (keepC HK4.out d12))))))))))))))))))))))))))))))
                  go_wp2_with fail
                  go_roundw
                  case rel => exact ⟨n + 1, h, by go_num, HX, Lib.hid (HL1.out.trans (HK4.out.mono (by have := HL1.out.size; simp at this; omega)))⟩
                  case measure => simp [intOf]; omega
          case pos =>
            obtain ⟨x1, hx⟩ := at_some (L := x.al) rfl h
            obtain ⟨y1, hy⟩ := at_some (L := y.al) rfl (show n < y.al.length by rw [← E1.out]; exact h)
            have HW := Lib.hid (HBK.out _ HL0)
            obtain ⟨g, off, csx, e1, hg, _, hc, hrx, _⟩ := (G5.out.belowS HW.out).at' n x1 hx
            obtain ⟨g', off', csy, e2, hg', _, hd, hry, _⟩ := (G5'.out.belowS HW.out).at' n y1 hy
            have HRX := Lib.hid hrx
            have HRY := Lib.hid hry
            obtain ⟨aQ, cQ, rfl, g1Q, _⟩ := hrx
            obtain ⟨aQ', cQ', rfl, g1Q', _⟩ := hry
            clear g1Q g1Q'
            have h2 : (n : Int) < (x.al.length : Int) := by omega
            have h3 : (n : Int) < (y.al.length : Int) := by rw [← E1.out]; omega
            have h4 : (0 : Int) ≤ (n : Int) := by omega
            rw [e1] at z0
            rw [e2] at z1
            have HE := Lib.hid (take_sameG hx hy HT.out)
            have HN := Lib.hid (ne_atG hx hy)
            have c0 : wr0.cell? ⟨g, off + n * 4, none⟩ = some (.string x1.n) := hc 0 _ rfl
            have c1 : wr0.cell? ⟨g, off + n * 4 + 1, none⟩ = some (.slice aQ x1.ar.length cQ) := hc 1 _ rfl
            have c2 : wr0.cell? ⟨g, off + n * 4 + 2, none⟩ = some (.int .i64 x1.l) := hc 2 _ rfl
            have c3 : wr0.cell? ⟨g, off + n * 4 + 3, none⟩ = some (.int .i64 x1.c) := hc 3 _ rfl
            have d0 : wr0.cell? ⟨g', off' + n * 4, none⟩ = some (.string y1.n) := hd 0 _ rfl
            have d1 : wr0.cell? ⟨g', off' + n * 4 + 1, none⟩ = some (.slice aQ' y1.ar.length cQ') := hd 1 _ rfl
            have d2 : wr0.cell? ⟨g', off' + n * 4 + 2, none⟩ = some (.int .i64 y1.l) := hd 2 _ rfl
            have d3 : wr0.cell? ⟨g', off' + n * 4 + 3, none⟩ = some (.int .i64 y1.c) := hd 3 _ rfl
            clear hc hd hx hy e1 e2
            have HR := Lib.hid (And.intro z0 (And.intro z1 (And.intro c0 (And.intro c1 (And.intro c2 (And.intro c3 (And.intro d0 (And.intro d1 (And.intro d2 d3)))))))))
            have H1 := Lib.hid (fun w1 (hb : Below wr0.heap.size wr0 w1) => refSameSy_calls x1 y1 _ _ w1 (rSy_below HRX.out hb) (rSy_below HRY.out hb))
            clear HRX HRY
            cases e : decide (x1 = y1)
            · have HX : Hid (decide (x.al = y.al) = false) := Lib.hid (decide_eq_false (HN.out (of_decide_eq_false e)))
              rw [HX.out] at HS
              rw [e] at H1
              clear e
              go_wp2_with fail
              go_region_held3 (fun W9 => W9.cell? ⟨w.heap.size, 10, none⟩ = some (.slice (some ⟨g, off, none⟩) x.al.length lc) ∧ W9.cell? ⟨w.heap.size + 1, 10, none⟩ = some (.slice (some ⟨g', off', none⟩) y.al.length lc') ∧ W9.cell? ⟨g, off + n * 4, none⟩ = some (.string x1.n) ∧ W9.cell? ⟨g, off + n * 4 + 1, none⟩ = some (.slice aQ x1.ar.length cQ) ∧ W9.cell? ⟨g, off + n * 4 + 2, none⟩ = some (.int .i64 x1.l) ∧ W9.cell? ⟨g, off + n * 4 + 3, none⟩ = some (.int .i64 x1.c) ∧ W9.cell? ⟨g', off' + n * 4, none⟩ = some (.string y1.n) ∧ W9.cell? ⟨g', off' + n * 4 + 1, none⟩ = some (.slice aQ' y1.ar.length cQ') ∧ W9.cell? ⟨g', off' + n * 4 + 2, none⟩ = some (.int .i64 y1.l) ∧ W9.cell? ⟨g', off' + n * 4 + 3, none⟩ = some (.int .i64 y1.c)) (first | exact HR.out | exact HR4.out) (first
                | (go_at_call 50; refine (H1.out _ (Below.refl wr0.heap.size wr0).drew).mono ?_; rintro e w4 ⟨rfl, k4⟩; have HK4 := Lib.hid ((Below.refl wr0.heap.size wr0).drew.trans k4); have HR4 := Lib.hid (And.intro (keepC HK4.out z0) (And.intro (keepC HK4.out z1) (And.intro (keepC HK4.out c0) (And.intro (keepC HK4.out c1) (And.intro (keepC HK4.out c2) (And.intro (keepC HK4.out c3) (And.intro (keepC HK4.out d0) (And.intro (keepC HK4.out d1) (And.intro (keepC HK4.out d2) (keepC HK4.out d3))))))))))))
              go_wp2_with fail
              go_ret
              exact ⟨by rw [HS.out]; simp, HBK.out _ (Lib.hid (HL0.out.trans (HK4.out.mono (by have := HL0.out.size; simp at this; omega))))⟩
            · have HX := Lib.hid (HE.out (of_decide_eq_true e))
              rw [e] at H1
              clear e
              go_wp2_with fail
              go_region_held3 (fun W9 => W9.cell? ⟨w.heap.size, 10, none⟩ = some (.slice (some ⟨g, off, none⟩) x.al.length lc) ∧ W9.cell? ⟨w.heap.size + 1, 10, none⟩ = some (.slice (some ⟨g', off', none⟩) y.al.length lc') ∧ W9.cell? ⟨g, off + n * 4, none⟩ = some (.string x1.n) ∧ W9.cell? ⟨g, off + n * 4 + 1, none⟩ = some (.slice aQ x1.ar.length cQ) ∧ W9.cell? ⟨g, off + n * 4 + 2, none⟩ = some (.int .i64 x1.l) ∧ W9.cell? ⟨g, off + n * 4 + 3, none⟩ = some (.int .i64 x1.c) ∧ W9.cell? ⟨g', off' + n * 4, none⟩ = some (.string y1.n) ∧ W9.cell? ⟨g', off' + n * 4 + 1, none⟩ = some (.slice aQ' y1.ar.length cQ') ∧ W9.cell? ⟨g', off' + n * 4 + 2, none⟩ = some (.int .i64 y1.l) ∧ W9.cell? ⟨g', off' + n * 4 + 3, none⟩ = some (.int .i64 y1.c)) (first | exact HR.out | exact HR4.out) (first
                | (go_at_call 50; refine (H1.out _ (Below.refl wr0.heap.size wr0).drew).mono ?_; rintro e w4 ⟨rfl, k4⟩; have HK4 := Lib.hid ((Below.refl wr0.heap.size wr0).drew.trans k4); have HR4 := Lib.hid (And.intro (keepC HK4.out z0) (And.intro (keepC HK4.out z1) (And.intro (keepC HK4.out c0) (And.intro (keepC HK4.out c1) (And.intro (keepC HK4.out c2) (And.intro (keepC HK4.out c3) (And.intro (keepC HK4.out d0) (And.intro (keepC HK4.out d1) (And.intro (keepC HK4.out d2) (keepC HK4.out d3))))))))))))
              go_wp2_with fail
              go_roundw
              case rel => exact ⟨n + 1, h, by go_num, HX, Lib.hid (HL0.out.trans (HK4.out.mono (by have := HL0.out.size; simp at this; omega)))⟩
              case measure => simp [intOf]; omega
end Go.Proofs.YtojabkhfkbfeaaaGreatDoor
