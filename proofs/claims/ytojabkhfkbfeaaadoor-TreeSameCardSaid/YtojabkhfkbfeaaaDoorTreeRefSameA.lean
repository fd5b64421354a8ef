/- Whether two symbols or transitions are the same: the reference's sameSymbol and sameTrans. -/
import Derived.Test.YtojabkhfkbfeaaaDoorTreeSameA
import Derived.BigQuiet
namespace Go.Proofs.YtojabkhfkbfeaaaDoor
open Go.RowKit
set_option linter.unusedVariables false

theorem int_ne (x y : Int) : (x != y) = !decide (x = y) := by by_cases e : x = y <;> simp [e]
theorem len_dec {m n : Nat} (h : decide ((m : Int) = (n : Int)) = true) : m = n := by have := of_decide_eq_true h; omega
theorem take_allG {α : Type} {L M : List α} {n : Nat} (h : L.take n = M.take n) (h1 : L.length ≤ n) (h2 : M.length ≤ n) : L = M := by
  rwa [List.take_of_length_le h1, List.take_of_length_le h2] at h
theorem len_and {α : Type} [DecidableEq α] (L M : List α) : decide (L = M) = (decide ((L.length : Int) = (M.length : Int)) && decide (L = M)) := by
  by_cases h : L = M
  · subst h; simp
  · simp [h]

set_option maxHeartbeats 8000000 in
set_option maxRecDepth 100000 in
theorem refSameSy_calls {Y Y' : TyT} {O O' : Prop} (x y : Sy) (cs cs' : List Value) (w : World) (hx : rSy Y O w cs x) (hy : rSy Y' O' w cs' y) :
    Calls Tryd.prog 21 #[.agg cs.toArray, .agg cs'.toArray] w fun e w' => e = .returned (.bool (decide (x = y))) ∧ Below w.heap.size w w' := by
  obtain ⟨a, c, rfl, g1, _⟩ := hx
  obtain ⟨a', c', rfl, g1', _⟩ := hy
  have HB : Hid (Below w.heap.size w ((w.alloc (.cells #[.string x.n, .slice a x.ar.length c, .int .i64 x.l, .int .i64 x.c] 45)).alloc (.cells #[.string y.n, .slice a' y.ar.length c', .int .i64 y.l, .int .i64 y.c] 45))) := Lib.hid (((Below.refl w.heap.size w).alloc (Nat.le_refl _) _).alloc (by simp) _)
  have HK0 : Hid (Below (w.heap.size + 2) ((w.alloc (.cells #[.string x.n, .slice a x.ar.length c, .int .i64 x.l, .int .i64 x.c] 45)).alloc (.cells #[.string y.n, .slice a' y.ar.length c', .int .i64 y.l, .int .i64 y.c] 45)) ((w.alloc (.cells #[.string x.n, .slice a x.ar.length c, .int .i64 x.l, .int .i64 x.c] 45)).alloc (.cells #[.string y.n, .slice a' y.ar.length c', .int .i64 y.l, .int .i64 y.c] 45))) := Lib.hid (Below.refl _ _)
  have HS : Hid (decide (x = y) = (decide (x.n = y.n) && (decide (x.l = y.l) && (decide (x.c = y.c) && (decide ((x.ar.length : Int) = (y.ar.length : Int)) && decide (x.ar = y.ar)))))) := Lib.hid (by rw [decSy, len_and x.ar]; cases decide (x.n = y.n) <;> cases decide (x.l = y.l) <;> cases decide (x.c = y.c) <;> cases decide ((x.ar.length : Int) = (y.ar.length : Int)) <;> cases decide (x.ar = y.ar) <;> rfl)
  have t0 := tl_dec x.n y.n
  have t1 := int_ne x.l y.l
  have t2 := int_ne x.c y.c
  have t3 := int_ne (x.ar.length : Int) (y.ar.length : Int)
  have s0 := g1.small
  have s0' := g1'.small
  have G1 := Lib.hid g1
  have G1' := Lib.hid g1'
  have HBk : ∀ (w1 : World), Hid (Below (w.heap.size + 2) ((w.alloc (.cells #[.string x.n, .slice a x.ar.length c, .int .i64 x.l, .int .i64 x.c] 45)).alloc (.cells #[.string y.n, .slice a' y.ar.length c', .int .i64 y.l, .int .i64 y.c] 45)) w1) → Below w.heap.size w w1 := fun _ h => HB.out.trans (h.out.mono (Nat.le_add_right _ 2))
  have HBK := Lib.hid HBk
  clear HBk
  clear g1 g1'
  cases e0 : decide (x.n = y.n)
  · rw [e0] at t0 HS
    clear e0
    go_enter Tryd.func21, Tryd.ntmps21
    go_wp2_with fail
    go_ret
    exact ⟨by rw [HS.out]; rfl, HBK.out _ HK0⟩
  · rw [e0] at t0 HS
    clear e0
    cases e1 : decide (x.l = y.l)
    · rw [e1, Bool.not_false] at t1
      rw [e1] at HS
      clear e1
      go_enter Tryd.func21, Tryd.ntmps21
      go_wp2_with fail
      go_ret
      exact ⟨by rw [HS.out]; rfl, HBK.out _ HK0⟩
    · rw [e1, Bool.not_true] at t1
      rw [e1] at HS
      clear e1
      cases e2 : decide (x.c = y.c)
      · rw [e2, Bool.not_false] at t2
        rw [e2] at HS
        clear e2
        go_enter Tryd.func21, Tryd.ntmps21
        go_wp2_with fail
        go_ret
        exact ⟨by rw [HS.out]; rfl, HBK.out _ HK0⟩
      · rw [e2, Bool.not_true] at t2
        rw [e2] at HS
        clear e2
        cases e3 : decide ((x.ar.length : Int) = (y.ar.length : Int))
        · rw [e3, Bool.not_false] at t3
          rw [e3] at HS
          clear e3
          go_enter Tryd.func21, Tryd.ntmps21
          go_wp2_with fail
          go_ret
          exact ⟨by rw [HS.out]; rfl, HBK.out _ HK0⟩
        · rw [e3, Bool.not_true] at t3
          rw [e3] at HS
          have E3 := Lib.hid (len_dec e3)
          clear e3
          go_enter Tryd.func21, Tryd.ntmps21
          go_wp2_with fail
          go_loopw [5] (fun i wr => ∃ (n : Nat), n ≤ x.ar.length ∧ i = .int .i64 n ∧ Hid (x.ar.take n = y.ar.take n) ∧ Hid (Below (w.heap.size + 2) ((w.alloc (.cells #[.string x.n, .slice a x.ar.length c, .int .i64 x.l, .int .i64 x.c] 45)).alloc (.cells #[.string y.n, .slice a' y.ar.length c', .int .i64 y.l, .int .i64 y.c] 45)) wr)) (fun i _ => x.ar.length - (intOf i).toNat)
          case atStart => exact ⟨0, Nat.zero_le _, rfl, Lib.hid rfl, HK0⟩
          case round =>
            obtain ⟨n, hn, rfl, HT, HL0⟩ := hrel
            obtain ⟨wr0, hwr⟩ : ∃ u, u = wr := ⟨_, rfl⟩
            subst hwr
            obtain ⟨u, v⟩ := box2 HL0.out
            have z0 : wr0.cell? ⟨w.heap.size, 1, none⟩ = some (.slice a x.ar.length c) := u 1 _ rfl
            have z1 : wr0.cell? ⟨w.heap.size + 1, 1, none⟩ = some (.slice a' y.ar.length c') := v 1 _ rfl
            clear u v
            by_cases h : n < x.ar.length
            case neg =>
              have HX0 : Hid (decide (x.ar = y.ar) = true) := Lib.hid (decide_eq_true (take_allG HT.out (by omega) (by rw [← E3.out]; omega)))
              rw [HX0.out] at HS
              go_wp2_with fail
              clear z0 z1 HT
              go_ret
              exact ⟨by rw [HS.out]; rfl, HBK.out _ HL0⟩
            case pos =>
              obtain ⟨x1, hx⟩ := at_some (L := x.ar) rfl h
              obtain ⟨y1, hy⟩ := at_some (L := y.ar) rfl (show n < y.ar.length by rw [← E3.out]; exact h)
              have HW := Lib.hid (HBK.out _ HL0)
              obtain ⟨g, off, e1, hg, hc, _⟩ := (G1.out.belowF HW.out).flat hx
              obtain ⟨g', off', e2, hg', hd, _⟩ := (G1'.out.belowF HW.out).flat hy
              have h2 : (n : Int) < (x.ar.length : Int) := by omega
              have h3 : (n : Int) < (y.ar.length : Int) := by rw [← E3.out]; omega
              have h4 : (0 : Int) ≤ (n : Int) := by omega
              rw [e1] at z0
              rw [e2] at z1
              have HE := Lib.hid (take_sameG hx hy HT.out)
              have HN := Lib.hid (ne_atG hx hy)
              have c0 : wr0.cell? ⟨g, off + n * 8, none⟩ = some (.int .i64 x1.k) := hc 0 _ rfl
              have c1 : wr0.cell? ⟨g, off + n * 8 + 1, none⟩ = some (.string x1.n) := hc 1 _ rfl
              have c2 : wr0.cell? ⟨g, off + n * 8 + 2, none⟩ = some (.int .i64 x1.v.k) := hc 2 _ rfl
              have c3 : wr0.cell? ⟨g, off + n * 8 + 3, none⟩ = some (.int .i64 x1.v.i) := hc 3 _ rfl
              have c4 : wr0.cell? ⟨g, off + n * 8 + 4, none⟩ = some (.string x1.v.s) := hc 4 _ rfl
              have c5 : wr0.cell? ⟨g, off + n * 8 + 5, none⟩ = some (.bool x1.v.b) := hc 5 _ rfl
              have c6 : wr0.cell? ⟨g, off + n * 8 + 6, none⟩ = some (.int .i64 x1.l) := hc 6 _ rfl
              have c7 : wr0.cell? ⟨g, off + n * 8 + 7, none⟩ = some (.int .i64 x1.c) := hc 7 _ rfl
              have d0 : wr0.cell? ⟨g', off' + n * 8, none⟩ = some (.int .i64 y1.k) := hd 0 _ rfl
              have d1 : wr0.cell? ⟨g', off' + n * 8 + 1, none⟩ = some (.string y1.n) := hd 1 _ rfl
              have d2 : wr0.cell? ⟨g', off' + n * 8 + 2, none⟩ = some (.int .i64 y1.v.k) := hd 2 _ rfl
              have d3 : wr0.cell? ⟨g', off' + n * 8 + 3, none⟩ = some (.int .i64 y1.v.i) := hd 3 _ rfl
              have d4 : wr0.cell? ⟨g', off' + n * 8 + 4, none⟩ = some (.string y1.v.s) := hd 4 _ rfl
              have d5 : wr0.cell? ⟨g', off' + n * 8 + 5, none⟩ = some (.bool y1.v.b) := hd 5 _ rfl
              have d6 : wr0.cell? ⟨g', off' + n * 8 + 6, none⟩ = some (.int .i64 y1.l) := hd 6 _ rfl
              have d7 : wr0.cell? ⟨g', off' + n * 8 + 7, none⟩ = some (.int .i64 y1.c) := hd 7 _ rfl
              clear hc hd hx hy e1 e2
              have q1 := eqInAg x1 y1
              have q2 := guardAg
              by_cases hz : x1 = y1
              · have HX := Lib.hid (HE.out hz)
                rw [decide_eq_true hz] at q1
                clear hz
                go_wp2_with fail
                go_quiet (fail)
                go_wp2_with fail
                go_roundw
                case rel => exact ⟨n + 1, by omega, by go_num, HX, Lib.hid (below_drewN _ HL0.out)⟩
                case measure => simp [intOf]; omega
              · have HX : Hid (decide (x.ar = y.ar) = false) := Lib.hid (decide_eq_false (HN.out hz))
                rw [decide_eq_false hz] at q1
                clear hz
                rw [HX.out] at HS
                go_wp2_with fail
                go_quiet (fail)
                go_wp2_with fail
                go_ret
                exact ⟨by rw [HS.out]; simp, HBK.out _ (Lib.hid (below_drewN _ HL0.out))⟩

set_option maxHeartbeats 8000000 in
set_option maxRecDepth 100000 in
theorem refSameTs_calls {Y Y' : TyT} {O O' : Prop} (x y : Ts) (cs cs' : List Value) (w : World) (hx : rTs Y O w cs x) (hy : rTs Y' O' w cs' y) :
    Calls Tryd.prog 22 #[.agg cs.toArray, .agg cs'.toArray] w fun e w' => e = .returned (.bool (decide (x = y))) ∧ Below w.heap.size w w' := by
  obtain ⟨oa, oc, na, nc, sa, sc, rfl, g1, g2, g3, g4⟩ := hx
  obtain ⟨oa', oc', na', nc', sa', sc', rfl, g1', g2', g3', g4'⟩ := hy
  have HB : Hid (Below w.heap.size w ((w.alloc (.cells #[.string x.f.t, .int .i64 x.f.l, .int .i64 x.f.c, .string x.t.t, .int .i64 x.t.l, .int .i64 x.t.c, .string x.on.n, .slice oa x.on.ar.length oc, .int .i64 x.on.l, .int .i64 x.on.c, .slice na x.ns.length nc, .int .i64 x.g, .slice sa x.ss.length sc] 49)).alloc (.cells #[.string y.f.t, .int .i64 y.f.l, .int .i64 y.f.c, .string y.t.t, .int .i64 y.t.l, .int .i64 y.t.c, .string y.on.n, .slice oa' y.on.ar.length oc', .int .i64 y.on.l, .int .i64 y.on.c, .slice na' y.ns.length nc', .int .i64 y.g, .slice sa' y.ss.length sc'] 49))) := Lib.hid (((Below.refl w.heap.size w).alloc (Nat.le_refl _) _).alloc (by simp) _)
  have HK0 : Hid (Below (w.heap.size + 2) ((w.alloc (.cells #[.string x.f.t, .int .i64 x.f.l, .int .i64 x.f.c, .string x.t.t, .int .i64 x.t.l, .int .i64 x.t.c, .string x.on.n, .slice oa x.on.ar.length oc, .int .i64 x.on.l, .int .i64 x.on.c, .slice na x.ns.length nc, .int .i64 x.g, .slice sa x.ss.length sc] 49)).alloc (.cells #[.string y.f.t, .int .i64 y.f.l, .int .i64 y.f.c, .string y.t.t, .int .i64 y.t.l, .int .i64 y.t.c, .string y.on.n, .slice oa' y.on.ar.length oc', .int .i64 y.on.l, .int .i64 y.on.c, .slice na' y.ns.length nc', .int .i64 y.g, .slice sa' y.ss.length sc'] 49)) ((w.alloc (.cells #[.string x.f.t, .int .i64 x.f.l, .int .i64 x.f.c, .string x.t.t, .int .i64 x.t.l, .int .i64 x.t.c, .string x.on.n, .slice oa x.on.ar.length oc, .int .i64 x.on.l, .int .i64 x.on.c, .slice na x.ns.length nc, .int .i64 x.g, .slice sa x.ss.length sc] 49)).alloc (.cells #[.string y.f.t, .int .i64 y.f.l, .int .i64 y.f.c, .string y.t.t, .int .i64 y.t.l, .int .i64 y.t.c, .string y.on.n, .slice oa' y.on.ar.length oc', .int .i64 y.on.l, .int .i64 y.on.c, .slice na' y.ns.length nc', .int .i64 y.g, .slice sa' y.ss.length sc'] 49))) := Lib.hid (Below.refl _ _)
  have HS : Hid (decide (x = y) = (decide (x.f = y.f) && (decide (x.t = y.t) && (decide (x.g = y.g) && (decide (x.on = y.on) && (decide ((x.ns.length : Int) = (y.ns.length : Int)) && (decide ((x.ss.length : Int) = (y.ss.length : Int)) && (decide (x.ns = y.ns) && decide (x.ss = y.ss))))))))) := Lib.hid (by rw [decTs, len_and x.ns, len_and x.ss]; cases decide (x.f = y.f) <;> cases decide (x.t = y.t) <;> cases decide (x.g = y.g) <;> cases decide (x.on = y.on) <;> cases decide ((x.ns.length : Int) = (y.ns.length : Int)) <;> cases decide ((x.ss.length : Int) = (y.ss.length : Int)) <;> cases decide (x.ns = y.ns) <;> rfl)
  have q0 := eqInId x.f y.f
  have q1 := eqInId x.t y.t
  have t2 := int_ne x.g y.g
  have H3 := Lib.hid (fun w1 (hb : Below (w.heap.size + 2) ((w.alloc (.cells #[.string x.f.t, .int .i64 x.f.l, .int .i64 x.f.c, .string x.t.t, .int .i64 x.t.l, .int .i64 x.t.c, .string x.on.n, .slice oa x.on.ar.length oc, .int .i64 x.on.l, .int .i64 x.on.c, .slice na x.ns.length nc, .int .i64 x.g, .slice sa x.ss.length sc] 49)).alloc (.cells #[.string y.f.t, .int .i64 y.f.l, .int .i64 y.f.c, .string y.t.t, .int .i64 y.t.l, .int .i64 y.t.c, .string y.on.n, .slice oa' y.on.ar.length oc', .int .i64 y.on.l, .int .i64 y.on.c, .slice na' y.ns.length nc', .int .i64 y.g, .slice sa' y.ss.length sc'] 49)) w1) => refSameSy_calls (Y := Y) (Y' := Y') (O := O) (O' := O') x.on y.on [.string x.on.n, .slice oa x.on.ar.length oc, .int .i64 x.on.l, .int .i64 x.on.c] [.string y.on.n, .slice oa' y.on.ar.length oc', .int .i64 y.on.l, .int .i64 y.on.c] w1 ⟨oa, oc, rfl, g1.belowF (HB.out.trans (hb.mono (Nat.le_add_right _ 2))), g4.2.2⟩ ⟨oa', oc', rfl, g1'.belowF (HB.out.trans (hb.mono (Nat.le_add_right _ 2))), g4'.2.2⟩)
  have t4 := int_ne (x.ns.length : Int) (y.ns.length : Int)
  have t5 := int_ne (x.ss.length : Int) (y.ss.length : Int)
  have qg := guardId
  have s0 := g1.small
  have s0' := g1'.small
  have G1 := Lib.hid g1
  have G1' := Lib.hid g1'
  have s1 := g2.small
  have s1' := g2'.small
  have G2 := Lib.hid g2
  have G2' := Lib.hid g2'
  have s2 := g3.small
  have s2' := g3'.small
  have G3 := Lib.hid g3
  have G3' := Lib.hid g3'
  have HBk : ∀ (w1 : World), Hid (Below (w.heap.size + 2) ((w.alloc (.cells #[.string x.f.t, .int .i64 x.f.l, .int .i64 x.f.c, .string x.t.t, .int .i64 x.t.l, .int .i64 x.t.c, .string x.on.n, .slice oa x.on.ar.length oc, .int .i64 x.on.l, .int .i64 x.on.c, .slice na x.ns.length nc, .int .i64 x.g, .slice sa x.ss.length sc] 49)).alloc (.cells #[.string y.f.t, .int .i64 y.f.l, .int .i64 y.f.c, .string y.t.t, .int .i64 y.t.l, .int .i64 y.t.c, .string y.on.n, .slice oa' y.on.ar.length oc', .int .i64 y.on.l, .int .i64 y.on.c, .slice na' y.ns.length nc', .int .i64 y.g, .slice sa' y.ss.length sc'] 49)) w1) → Below w.heap.size w w1 := fun _ h => HB.out.trans (h.out.mono (Nat.le_add_right _ 2))
  have HBK := Lib.hid HBk
  clear HBk
  clear g1 g1' g2 g2' g3 g3'
  cases e0 : decide (x.f = y.f)
  · rw [e0] at q0 HS
    clear e0
    go_enter Tryd.func22, Tryd.ntmps22
    go_wp2_with fail
    go_ret
    exact ⟨by rw [HS.out]; rfl, HBK.out _ HK0⟩
  · rw [e0] at q0 HS
    clear e0
    cases e1 : decide (x.t = y.t)
    · rw [e1] at q1 HS
      clear e1
      go_enter Tryd.func22, Tryd.ntmps22
      go_wp2_with fail
      go_ret
      exact ⟨by rw [HS.out]; rfl, HBK.out _ HK0⟩
    · rw [e1] at q1 HS
      clear e1
      cases e2 : decide (x.g = y.g)
      · rw [e2, Bool.not_false] at t2
        rw [e2] at HS
        clear e2
        go_enter Tryd.func22, Tryd.ntmps22
        go_wp2_with fail
        go_ret
        exact ⟨by rw [HS.out]; rfl, HBK.out _ HK0⟩
      · rw [e2, Bool.not_true] at t2
        rw [e2] at HS
        clear e2
        cases e3 : decide (x.on = y.on)
        · rw [e3] at HS H3
          clear e3
          go_enter Tryd.func22, Tryd.ntmps22
          go_wp2_with fail
          refine (H3.out _ HK0.out).mono ?_
          rintro e w3 ⟨rfl, k3⟩
          have HK4 := Lib.hid (below2_step HK0.out (by simp) k3)
          clear k3
          go_wp2_with fail
          go_ret
          exact ⟨by rw [HS.out]; rfl, HBK.out _ HK4⟩
        · rw [e3] at HS H3
          clear e3
          cases e4 : decide ((x.ns.length : Int) = (y.ns.length : Int))
          · rw [e4, Bool.not_false] at t4
            rw [e4] at HS
            clear e4
            go_enter Tryd.func22, Tryd.ntmps22
            go_wp2_with fail
            refine (H3.out _ HK0.out).mono ?_
            rintro e w3 ⟨rfl, k3⟩
            have HK4 := Lib.hid (below2_step HK0.out (by simp) k3)
            clear k3
            obtain ⟨u3, v3⟩ := box2 HK4.out
            have c3_10 : w3.cell? ⟨w.heap.size, 10, none⟩ = some (.slice na x.ns.length nc) := u3 10 _ rfl
            have d3_10 : w3.cell? ⟨w.heap.size + 1, 10, none⟩ = some (.slice na' y.ns.length nc') := v3 10 _ rfl
            clear u3 v3
            go_wp2_with fail
            clear c3_10 d3_10
            go_ret
            exact ⟨by rw [HS.out]; rfl, HBK.out _ HK4⟩
          · rw [e4, Bool.not_true] at t4
            rw [e4] at HS
            have E4 := Lib.hid (len_dec e4)
            clear e4
            cases e5 : decide ((x.ss.length : Int) = (y.ss.length : Int))
            · rw [e5, Bool.not_false] at t5
              rw [e5] at HS
              clear e5
              go_enter Tryd.func22, Tryd.ntmps22
              go_wp2_with fail
              refine (H3.out _ HK0.out).mono ?_
              rintro e w3 ⟨rfl, k3⟩
              have HK4 := Lib.hid (below2_step HK0.out (by simp) k3)
              clear k3
              obtain ⟨u3, v3⟩ := box2 HK4.out
              have c3_10 : w3.cell? ⟨w.heap.size, 10, none⟩ = some (.slice na x.ns.length nc) := u3 10 _ rfl
              have d3_10 : w3.cell? ⟨w.heap.size + 1, 10, none⟩ = some (.slice na' y.ns.length nc') := v3 10 _ rfl
              have c3_12 : w3.cell? ⟨w.heap.size, 12, none⟩ = some (.slice sa x.ss.length sc) := u3 12 _ rfl
              have d3_12 : w3.cell? ⟨w.heap.size + 1, 12, none⟩ = some (.slice sa' y.ss.length sc') := v3 12 _ rfl
              clear u3 v3
              go_wp2_with fail
              clear c3_10 d3_10 c3_12 d3_12
              go_ret
              exact ⟨by rw [HS.out]; rfl, HBK.out _ HK4⟩
            · rw [e5, Bool.not_true] at t5
              rw [e5] at HS
              have E5 := Lib.hid (len_dec e5)
              clear e5
              go_enter Tryd.func22, Tryd.ntmps22
              go_wp2_with fail
              refine (H3.out _ HK0.out).mono ?_
              rintro e w3 ⟨rfl, k3⟩
              have HK4 := Lib.hid (below2_step HK0.out (by simp) k3)
              clear k3
              obtain ⟨u3, v3⟩ := box2 HK4.out
              have c3_10 : w3.cell? ⟨w.heap.size, 10, none⟩ = some (.slice na x.ns.length nc) := u3 10 _ rfl
              have d3_10 : w3.cell? ⟨w.heap.size + 1, 10, none⟩ = some (.slice na' y.ns.length nc') := v3 10 _ rfl
              have c3_12 : w3.cell? ⟨w.heap.size, 12, none⟩ = some (.slice sa x.ss.length sc) := u3 12 _ rfl
              have d3_12 : w3.cell? ⟨w.heap.size + 1, 12, none⟩ = some (.slice sa' y.ss.length sc') := v3 12 _ rfl
              clear u3 v3
              go_wp2_with fail
              clear c3_10 d3_10 c3_12 d3_12
              go_loopw [5] (fun i wr => ∃ (n : Nat), n ≤ x.ns.length ∧ i = .int .i64 n ∧ Hid (x.ns.take n = y.ns.take n) ∧ Hid (Below (w.heap.size + 2) ((w.alloc (.cells #[.string x.f.t, .int .i64 x.f.l, .int .i64 x.f.c, .string x.t.t, .int .i64 x.t.l, .int .i64 x.t.c, .string x.on.n, .slice oa x.on.ar.length oc, .int .i64 x.on.l, .int .i64 x.on.c, .slice na x.ns.length nc, .int .i64 x.g, .slice sa x.ss.length sc] 49)).alloc (.cells #[.string y.f.t, .int .i64 y.f.l, .int .i64 y.f.c, .string y.t.t, .int .i64 y.t.l, .int .i64 y.t.c, .string y.on.n, .slice oa' y.on.ar.length oc', .int .i64 y.on.l, .int .i64 y.on.c, .slice na' y.ns.length nc', .int .i64 y.g, .slice sa' y.ss.length sc'] 49)) wr)) (fun i _ => x.ns.length - (intOf i).toNat)
              case atStart => exact ⟨0, Nat.zero_le _, rfl, Lib.hid rfl, HK4⟩
              case round =>
                obtain ⟨n, hn, rfl, HT, HL0⟩ := hrel
                obtain ⟨wr0, hwr⟩ : ∃ u, u = wr := ⟨_, rfl⟩
                subst hwr
                obtain ⟨u, v⟩ := box2 HL0.out
                have z0 : wr0.cell? ⟨w.heap.size, 10, none⟩ = some (.slice na x.ns.length nc) := u 10 _ rfl
                have z1 : wr0.cell? ⟨w.heap.size + 1, 10, none⟩ = some (.slice na' y.ns.length nc') := v 10 _ rfl
                clear u v
                by_cases h : n < x.ns.length
                case neg =>
                  have HX0 : Hid (decide (x.ns = y.ns) = true) := Lib.hid (decide_eq_true (take_allG HT.out (by omega) (by rw [← E4.out]; omega)))
                  rw [HX0.out] at HS
                  go_wp2_with fail
                  clear z0 z1 HT
                  go_loopw [6] (fun i wr => ∃ (n : Nat), n ≤ x.ss.length ∧ i = .int .i64 n ∧ Hid (x.ss.take n = y.ss.take n) ∧ Hid (Below (w.heap.size + 2) ((w.alloc (.cells #[.string x.f.t, .int .i64 x.f.l, .int .i64 x.f.c, .string x.t.t, .int .i64 x.t.l, .int .i64 x.t.c, .string x.on.n, .slice oa x.on.ar.length oc, .int .i64 x.on.l, .int .i64 x.on.c, .slice na x.ns.length nc, .int .i64 x.g, .slice sa x.ss.length sc] 49)).alloc (.cells #[.string y.f.t, .int .i64 y.f.l, .int .i64 y.f.c, .string y.t.t, .int .i64 y.t.l, .int .i64 y.t.c, .string y.on.n, .slice oa' y.on.ar.length oc', .int .i64 y.on.l, .int .i64 y.on.c, .slice na' y.ns.length nc', .int .i64 y.g, .slice sa' y.ss.length sc'] 49)) wr)) (fun i _ => x.ss.length - (intOf i).toNat)
                  case atStart => exact ⟨0, Nat.zero_le _, rfl, Lib.hid rfl, HL0⟩
                  case round =>
                    obtain ⟨n, hn, rfl, HT, HL1⟩ := hrel
                    obtain ⟨wr1, hwr⟩ : ∃ u, u = wr := ⟨_, rfl⟩
                    subst hwr
                    obtain ⟨u, v⟩ := box2 HL1.out
                    have z0 : wr1.cell? ⟨w.heap.size, 12, none⟩ = some (.slice sa x.ss.length sc) := u 12 _ rfl
                    have z1 : wr1.cell? ⟨w.heap.size + 1, 12, none⟩ = some (.slice sa' y.ss.length sc') := v 12 _ rfl
                    clear u v
                    by_cases h : n < x.ss.length
                    case neg =>
                      have HX1 : Hid (decide (x.ss = y.ss) = true) := Lib.hid (decide_eq_true (take_allG HT.out (by omega) (by rw [← E5.out]; omega)))
                      rw [HX1.out] at HS
                      go_wp2_with fail
                      clear z0 z1 HT
                      go_ret
                      exact ⟨by rw [HS.out]; rfl, HBK.out _ HL1⟩
                    case pos =>
                      obtain ⟨x1, hx⟩ := at_some (L := x.ss) rfl h
                      obtain ⟨y1, hy⟩ := at_some (L := y.ss) rfl (show n < y.ss.length by rw [← E5.out]; exact h)
                      have HW := Lib.hid (HBK.out _ HL1)
                      obtain ⟨g, off, e1, hg, hc, _⟩ := (G3.out.belowF HW.out).flat hx
                      obtain ⟨g', off', e2, hg', hd, _⟩ := (G3'.out.belowF HW.out).flat hy
                      have h2 : (n : Int) < (x.ss.length : Int) := by omega
                      have h3 : (n : Int) < (y.ss.length : Int) := by rw [← E5.out]; omega
                      have h4 : (0 : Int) ≤ (n : Int) := by omega
                      rw [e1] at z0
                      rw [e2] at z1
                      have HE := Lib.hid (take_sameG hx hy HT.out)
                      have HN := Lib.hid (ne_atG hx hy)
                      have c0 : wr1.cell? ⟨g, off + n * 4, none⟩ = some (.string x1.n.t) := hc 0 _ rfl
                      have c1 : wr1.cell? ⟨g, off + n * 4 + 1, none⟩ = some (.int .i64 x1.n.l) := hc 1 _ rfl
                      have c2 : wr1.cell? ⟨g, off + n * 4 + 2, none⟩ = some (.int .i64 x1.n.c) := hc 2 _ rfl
                      have c3 : wr1.cell? ⟨g, off + n * 4 + 3, none⟩ = some (.int .i64 x1.e) := hc 3 _ rfl
                      have d0 : wr1.cell? ⟨g', off' + n * 4, none⟩ = some (.string y1.n.t) := hd 0 _ rfl
                      have d1 : wr1.cell? ⟨g', off' + n * 4 + 1, none⟩ = some (.int .i64 y1.n.l) := hd 1 _ rfl
                      have d2 : wr1.cell? ⟨g', off' + n * 4 + 2, none⟩ = some (.int .i64 y1.n.c) := hd 2 _ rfl
                      have d3 : wr1.cell? ⟨g', off' + n * 4 + 3, none⟩ = some (.int .i64 y1.e) := hd 3 _ rfl
                      clear hc hd hx hy e1 e2
                      have q1 := eqInSe x1 y1
                      have q2 := guardSe
                      by_cases hz : x1 = y1
                      · have HX := Lib.hid (HE.out hz)
                        rw [decide_eq_true hz] at q1
                        clear hz
                        go_wp2_with fail
                        go_quiet (fail)
                        go_wp2_with fail
                        go_roundw
                        case rel => exact ⟨n + 1, by omega, by go_num, HX, Lib.hid (below_drewN _ HL1.out)⟩
                        case measure => simp [intOf]; omega
                      · have HX : Hid (decide (x.ss = y.ss) = false) := Lib.hid (decide_eq_false (HN.out hz))
                        rw [decide_eq_false hz] at q1
                        clear hz
                        rw [HX.out] at HS
                        go_wp2_with fail
                        go_quiet (fail)
                        go_wp2_with fail
                        go_ret
                        exact ⟨by rw [HS.out]; simp, HBK.out _ (Lib.hid (below_drewN _ HL1.out))⟩
                case pos =>
                  obtain ⟨x1, hx⟩ := at_some (L := x.ns) rfl h
                  obtain ⟨y1, hy⟩ := at_some (L := y.ns) rfl (show n < y.ns.length by rw [← E4.out]; exact h)
                  have HW := Lib.hid (HBK.out _ HL0)
                  obtain ⟨g, off, e1, hg, hc, _⟩ := (G2.out.belowF HW.out).flat hx
                  obtain ⟨g', off', e2, hg', hd, _⟩ := (G2'.out.belowF HW.out).flat hy
                  have h2 : (n : Int) < (x.ns.length : Int) := by omega
                  have h3 : (n : Int) < (y.ns.length : Int) := by rw [← E4.out]; omega
                  have h4 : (0 : Int) ≤ (n : Int) := by omega
                  rw [e1] at z0
                  rw [e2] at z1
                  have HE := Lib.hid (take_sameG hx hy HT.out)
                  have HN := Lib.hid (ne_atG hx hy)
                  have c0 : wr0.cell? ⟨g, off + n * 10, none⟩ = some (.int .i64 x1.op) := hc 0 _ rfl
                  have c1 : wr0.cell? ⟨g, off + n * 10 + 1, none⟩ = some (.int .i64 x1.a) := hc 1 _ rfl
                  have c2 : wr0.cell? ⟨g, off + n * 10 + 2, none⟩ = some (.int .i64 x1.b) := hc 2 _ rfl
                  have c3 : wr0.cell? ⟨g, off + n * 10 + 3, none⟩ = some (.string x1.n) := hc 3 _ rfl
                  have c4 : wr0.cell? ⟨g, off + n * 10 + 4, none⟩ = some (.int .i64 x1.v.k) := hc 4 _ rfl
                  have c5 : wr0.cell? ⟨g, off + n * 10 + 5, none⟩ = some (.int .i64 x1.v.i) := hc 5 _ rfl
                  have c6 : wr0.cell? ⟨g, off + n * 10 + 6, none⟩ = some (.string x1.v.s) := hc 6 _ rfl
                  have c7 : wr0.cell? ⟨g, off + n * 10 + 7, none⟩ = some (.bool x1.v.b) := hc 7 _ rfl
                  have c8 : wr0.cell? ⟨g, off + n * 10 + 8, none⟩ = some (.int .i64 x1.l) := hc 8 _ rfl
                  have c9 : wr0.cell? ⟨g, off + n * 10 + 9, none⟩ = some (.int .i64 x1.c) := hc 9 _ rfl
                  have d0 : wr0.cell? ⟨g', off' + n * 10, none⟩ = some (.int .i64 y1.op) := hd 0 _ rfl
                  have d1 : wr0.cell? ⟨g', off' + n * 10 + 1, none⟩ = some (.int .i64 y1.a) := hd 1 _ rfl
                  have d2 : wr0.cell? ⟨g', off' + n * 10 + 2, none⟩ = some (.int .i64 y1.b) := hd 2 _ rfl
                  have d3 : wr0.cell? ⟨g', off' + n * 10 + 3, none⟩ = some (.string y1.n) := hd 3 _ rfl
                  have d4 : wr0.cell? ⟨g', off' + n * 10 + 4, none⟩ = some (.int .i64 y1.v.k) := hd 4 _ rfl
                  have d5 : wr0.cell? ⟨g', off' + n * 10 + 5, none⟩ = some (.int .i64 y1.v.i) := hd 5 _ rfl
                  have d6 : wr0.cell? ⟨g', off' + n * 10 + 6, none⟩ = some (.string y1.v.s) := hd 6 _ rfl
                  have d7 : wr0.cell? ⟨g', off' + n * 10 + 7, none⟩ = some (.bool y1.v.b) := hd 7 _ rfl
                  have d8 : wr0.cell? ⟨g', off' + n * 10 + 8, none⟩ = some (.int .i64 y1.l) := hd 8 _ rfl
                  have d9 : wr0.cell? ⟨g', off' + n * 10 + 9, none⟩ = some (.int .i64 y1.c) := hd 9 _ rfl
                  clear hc hd hx hy e1 e2
                  have q1 := eqInEx x1 y1
                  have q2 := guardEx
                  by_cases hz : x1 = y1
                  · have HX := Lib.hid (HE.out hz)
                    rw [decide_eq_true hz] at q1
                    clear hz
                    go_wp2_with fail
                    go_quiet (fail)
                    go_wp2_with fail
                    go_roundw
                    case rel => exact ⟨n + 1, by omega, by go_num, HX, Lib.hid (below_drewN _ HL0.out)⟩
                    case measure => simp [intOf]; omega
                  · have HX : Hid (decide (x.ns = y.ns) = false) := Lib.hid (decide_eq_false (HN.out hz))
                    rw [decide_eq_false hz] at q1
                    clear hz
                    rw [HX.out] at HS
                    go_wp2_with fail
                    go_quiet (fail)
                    go_wp2_with fail
                    go_ret
                    exact ⟨by rw [HS.out]; simp, HBK.out _ (Lib.hid (below_drewN _ HL0.out))⟩
end Go.Proofs.YtojabkhfkbfeaaaDoor
