/- Whether two declarations, symbols or transitions are the same: tree's sameDecl, sameSymbol, sameTrans. -/
import Derived.Test.YtojabkhfkbfeaaaGreatDoorTreeEqualA
import Derived.Test.YtojabkhfkbfeaaaGreatDoorTreeEqualB
namespace Go.Proofs.YtojabkhfkbfeaaaGreatDoor
open Go.RowKit
set_option linter.unusedVariables false

theorem tl_dec (x y : ByteArray) : (x.toList == y.toList) = decide (x = y) := by
  rw [Bool.eq_iff_iff, beq_iff_eq, decide_eq_true_iff, tl_eq]
theorem int_dec (x y : Int) : (x == y) = decide (x = y) := by
  rw [Bool.eq_iff_iff, beq_iff_eq, decide_eq_true_iff]
theorem below2_step {W a b : World} {n : Nat} (h : Below (n + 2) W a) (hW : W.heap.size = n + 2) (k : Below a.heap.size a b) : Below (n + 2) W b :=
  h.trans (k.mono (by have := h.size; omega))
/-- Two boxes that have just been made. -/
theorem box2 {w w1 : World} {A B : List Value} {T U : TypeId} (k : Below (w.heap.size + 2) ((w.alloc (.cells A.toArray T)).alloc (.cells B.toArray U)) w1) :
    (∀ j v, A[j]? = some v → w1.cell? ⟨w.heap.size, j, none⟩ = some v) ∧ (∀ j v, B[j]? = some v → w1.cell? ⟨w.heap.size + 1, j, none⟩ = some v) := by
  refine ⟨fun j v h => ?_, fun j v h => ?_⟩
  · rw [k.cell (p := ⟨w.heap.size, j, none⟩) (by simp)]
    have h1 := heap_alloc2_old w (.cells A.toArray T) (.cells B.toArray U)
    rw [cell_of_row _ _ j A.toArray T (0, 0) h1]
    simpa using h
  · rw [k.cell (p := ⟨w.heap.size + 1, j, none⟩) (by simp)]
    have h1 := heap_alloc2_new w (.cells A.toArray T) (.cells B.toArray U)
    rw [cell_of_row _ _ j B.toArray U (0, 0) h1]
    simpa using h

theorem decDe (x y : De) : decide (x = y) = (decide (x.n = y.n) && (decide (x.ks = y.ks))) := by
  have h : (x = y) ↔ (x.n = y.n ∧ x.ks = y.ks) := by
    cases x; cases y
    simp only [De.mk.injEq]
    all_goals exact ⟨fun h => by simp only [h, and_self], fun h => by simp only [h, and_self]⟩
  rw [Bool.eq_iff_iff]
  simp only [decide_eq_true_iff, Bool.and_eq_true]
  exact h
set_option maxHeartbeats 4000000 in
set_option maxRecDepth 100000 in
theorem sameDe_calls {Y Y' : TyT} {O O' : Prop} (x y : De) (cs cs' : List Value) (w : World) (hx : rDe Y O w cs x) (hy : rDe Y' O' w cs' y) :
    Calls Tryz.prog 55 #[.agg cs.toArray, .agg cs'.toArray] w fun e w' => e = .returned (.bool (decide (x = y))) ∧ Below w.heap.size w w' := by
  obtain ⟨a, c, rfl, g1, _⟩ := hx
  obtain ⟨a', c', rfl, g1', _⟩ := hy
  have hB1 : Below w.heap.size w ((w.alloc (.cells #[.string x.n.t, .int .i64 x.n.l, .int .i64 x.n.c, .slice a x.ks.length c] 39)).alloc (.cells #[.string y.n.t, .int .i64 y.n.l, .int .i64 y.n.c, .slice a' y.ks.length c'] 39)) := ((Below.refl w.heap.size w).alloc (Nat.le_refl _) _).alloc (by simp) _
  have HB := Lib.hid hB1
  have HK0 : Hid (Below (w.heap.size + 2) ((w.alloc (.cells #[.string x.n.t, .int .i64 x.n.l, .int .i64 x.n.c, .slice a x.ks.length c] 39)).alloc (.cells #[.string y.n.t, .int .i64 y.n.l, .int .i64 y.n.c, .slice a' y.ks.length c'] 39)) ((w.alloc (.cells #[.string x.n.t, .int .i64 x.n.l, .int .i64 x.n.c, .slice a x.ks.length c] 39)).alloc (.cells #[.string y.n.t, .int .i64 y.n.l, .int .i64 y.n.c, .slice a' y.ks.length c'] 39))) := Lib.hid (Below.refl _ _)
  have HS := Lib.hid (decDe x y)
  have q0 := eqInId x.n y.n
  have H1 := Lib.hid (fun w1 (hb : Below (w.heap.size + 2) ((w.alloc (.cells #[.string x.n.t, .int .i64 x.n.l, .int .i64 x.n.c, .slice a x.ks.length c] 39)).alloc (.cells #[.string y.n.t, .int .i64 y.n.l, .int .i64 y.n.c, .slice a' y.ks.length c'] 39)) w1) => equalInt_calls a _ c x.ks a' _ c' y.ks w1 (g1.belowF (hB1.trans (hb.mono (Nat.le_add_right _ 2)))) (g1'.belowF (hB1.trans (hb.mono (Nat.le_add_right _ 2)))))
  have qg := guardId
  have s1 := g1.small
  have s1' := g1'.small
  clear hB1 g1 g1'
  cases e0 : decide (x.n = y.n)
  · rw [e0] at q0 HS
    clear e0
    go_enter Tryz.func55, Tryz.ntmps55
    go_wp2_with fail
    go_ret
    exact ⟨by rw [HS.out]; rfl, HB.out.trans (HK0.out.mono (Nat.le_add_right _ 2))⟩
  · rw [e0] at q0 HS
    clear e0
    cases e1 : decide (x.ks = y.ks)
    · rw [e1] at HS H1
      clear e1
      go_enter Tryz.func55, Tryz.ntmps55
      go_wp2_with fail
      refine (H1.out _ HK0.out).mono ?_
      rintro e w1 ⟨rfl, k1⟩
      have HK2 := Lib.hid (below2_step HK0.out (by simp) k1)
      clear k1
      go_wp2_with fail
      go_ret
      exact ⟨by rw [HS.out]; rfl, HB.out.trans (HK2.out.mono (Nat.le_add_right _ 2))⟩
    · rw [e1] at HS H1
      clear e1
      go_enter Tryz.func55, Tryz.ntmps55
      go_wp2_with fail
      refine (H1.out _ HK0.out).mono ?_
      rintro e w1 ⟨rfl, k1⟩
      have HK2 := Lib.hid (below2_step HK0.out (by simp) k1)
      clear k1
      go_wp2_with fail
      go_ret
      exact ⟨by rw [HS.out]; rfl, HB.out.trans (HK2.out.mono (Nat.le_add_right _ 2))⟩

theorem decSy (x y : Sy) : decide (x = y) = (decide (x.n = y.n) && (decide (x.l = y.l) && (decide (x.c = y.c) && (decide (x.ar = y.ar))))) := by
  have h : (x = y) ↔ (x.n = y.n ∧ x.l = y.l ∧ x.c = y.c ∧ x.ar = y.ar) := by
    cases x; cases y
    simp only [Sy.mk.injEq]
    all_goals exact ⟨fun h => by simp only [h, and_self], fun h => by simp only [h, and_self]⟩
  rw [Bool.eq_iff_iff]
  simp only [decide_eq_true_iff, Bool.and_eq_true]
  exact h
set_option maxHeartbeats 4000000 in
set_option maxRecDepth 100000 in
theorem sameSy_calls {Y Y' : TyT} {O O' : Prop} (x y : Sy) (cs cs' : List Value) (w : World) (hx : rSy Y O w cs x) (hy : rSy Y' O' w cs' y) :
    Calls Tryz.prog 60 #[.agg cs.toArray, .agg cs'.toArray] w fun e w' => e = .returned (.bool (decide (x = y))) ∧ Below w.heap.size w w' := by
  obtain ⟨a, c, rfl, g1, _⟩ := hx
  obtain ⟨a', c', rfl, g1', _⟩ := hy
  have hB1 : Below w.heap.size w ((w.alloc (.cells #[.string x.n, .slice a x.ar.length c, .int .i64 x.l, .int .i64 x.c] 47)).alloc (.cells #[.string y.n, .slice a' y.ar.length c', .int .i64 y.l, .int .i64 y.c] 47)) := ((Below.refl w.heap.size w).alloc (Nat.le_refl _) _).alloc (by simp) _
  have HB := Lib.hid hB1
  have HK0 : Hid (Below (w.heap.size + 2) ((w.alloc (.cells #[.string x.n, .slice a x.ar.length c, .int .i64 x.l, .int .i64 x.c] 47)).alloc (.cells #[.string y.n, .slice a' y.ar.length c', .int .i64 y.l, .int .i64 y.c] 47)) ((w.alloc (.cells #[.string x.n, .slice a x.ar.length c, .int .i64 x.l, .int .i64 x.c] 47)).alloc (.cells #[.string y.n, .slice a' y.ar.length c', .int .i64 y.l, .int .i64 y.c] 47))) := Lib.hid (Below.refl _ _)
  have HS := Lib.hid (decSy x y)
  have t0 := tl_dec x.n y.n
  have t1 := int_dec x.l y.l
  have t2 := int_dec x.c y.c
  have H3 := Lib.hid (fun w1 (hb : Below (w.heap.size + 2) ((w.alloc (.cells #[.string x.n, .slice a x.ar.length c, .int .i64 x.l, .int .i64 x.c] 47)).alloc (.cells #[.string y.n, .slice a' y.ar.length c', .int .i64 y.l, .int .i64 y.c] 47)) w1) => equalAg_calls a _ c x.ar a' _ c' y.ar w1 (g1.belowF (hB1.trans (hb.mono (Nat.le_add_right _ 2)))) (g1'.belowF (hB1.trans (hb.mono (Nat.le_add_right _ 2)))))
  have s1 := g1.small
  have s1' := g1'.small
  clear hB1 g1 g1'
  cases e0 : decide (x.n = y.n)
  · rw [e0] at t0 HS
    clear e0
    go_enter Tryz.func60, Tryz.ntmps60
    go_wp2_with fail
    go_ret
    exact ⟨by rw [HS.out]; rfl, HB.out.trans (HK0.out.mono (Nat.le_add_right _ 2))⟩
  · rw [e0] at t0 HS
    clear e0
    cases e1 : decide (x.l = y.l)
    · rw [e1] at t1 HS
      clear e1
      go_enter Tryz.func60, Tryz.ntmps60
      go_wp2_with fail
      go_ret
      exact ⟨by rw [HS.out]; rfl, HB.out.trans (HK0.out.mono (Nat.le_add_right _ 2))⟩
    · rw [e1] at t1 HS
      clear e1
      cases e2 : decide (x.c = y.c)
      · rw [e2] at t2 HS
        clear e2
        go_enter Tryz.func60, Tryz.ntmps60
        go_wp2_with fail
        go_ret
        exact ⟨by rw [HS.out]; rfl, HB.out.trans (HK0.out.mono (Nat.le_add_right _ 2))⟩
      · rw [e2] at t2 HS
        clear e2
        cases e3 : decide (x.ar = y.ar)
        · rw [e3] at HS H3
          clear e3
          go_enter Tryz.func60, Tryz.ntmps60
          go_wp2_with fail
          refine (H3.out _ HK0.out).mono ?_
          rintro e w3 ⟨rfl, k3⟩
          have HK4 := Lib.hid (below2_step HK0.out (by simp) k3)
          clear k3
          go_wp2_with fail
          go_ret
          exact ⟨by rw [HS.out]; rfl, HB.out.trans (HK4.out.mono (Nat.le_add_right _ 2))⟩
        · rw [e3] at HS H3
          clear e3
          go_enter Tryz.func60, Tryz.ntmps60
          go_wp2_with fail
          refine (H3.out _ HK0.out).mono ?_
          rintro e w3 ⟨rfl, k3⟩
          have HK4 := Lib.hid (below2_step HK0.out (by simp) k3)
          clear k3
          go_wp2_with fail
          go_ret
          exact ⟨by rw [HS.out]; rfl, HB.out.trans (HK4.out.mono (Nat.le_add_right _ 2))⟩

theorem decTs (x y : Ts) : decide (x = y) = (decide (x.f = y.f) && (decide (x.t = y.t) && (decide (x.g = y.g) && (decide (x.on = y.on) && (decide (x.ns = y.ns) && (decide (x.ss = y.ss))))))) := by
  have h : (x = y) ↔ (x.f = y.f ∧ x.t = y.t ∧ x.g = y.g ∧ x.on = y.on ∧ x.ns = y.ns ∧ x.ss = y.ss) := by
    cases x; cases y
    simp only [Ts.mk.injEq]
    all_goals exact ⟨fun h => by simp only [h, and_self], fun h => by simp only [h, and_self]⟩
  rw [Bool.eq_iff_iff]
  simp only [decide_eq_true_iff, Bool.and_eq_true]
  exact h
set_option maxHeartbeats 4000000 in
set_option maxRecDepth 100000 in
theorem sameTs_calls {Y Y' : TyT} {O O' : Prop} (x y : Ts) (cs cs' : List Value) (w : World) (hx : rTs Y O w cs x) (hy : rTs Y' O' w cs' y) :
    Calls Tryz.prog 62 #[.agg cs.toArray, .agg cs'.toArray] w fun e w' => e = .returned (.bool (decide (x = y))) ∧ Below w.heap.size w w' := by
  obtain ⟨oa, oc, na, nc, sa, sc, rfl, g1, g2, g3, g4⟩ := hx
  obtain ⟨oa', oc', na', nc', sa', sc', rfl, g1', g2', g3', g4'⟩ := hy
  have hB1 : Below w.heap.size w ((w.alloc (.cells #[.string x.f.t, .int .i64 x.f.l, .int .i64 x.f.c, .string x.t.t, .int .i64 x.t.l, .int .i64 x.t.c, .string x.on.n, .slice oa x.on.ar.length oc, .int .i64 x.on.l, .int .i64 x.on.c, .slice na x.ns.length nc, .int .i64 x.g, .slice sa x.ss.length sc] 51)).alloc (.cells #[.string y.f.t, .int .i64 y.f.l, .int .i64 y.f.c, .string y.t.t, .int .i64 y.t.l, .int .i64 y.t.c, .string y.on.n, .slice oa' y.on.ar.length oc', .int .i64 y.on.l, .int .i64 y.on.c, .slice na' y.ns.length nc', .int .i64 y.g, .slice sa' y.ss.length sc'] 51)) := ((Below.refl w.heap.size w).alloc (Nat.le_refl _) _).alloc (by simp) _
  have HB := Lib.hid hB1
  have HK0 : Hid (Below (w.heap.size + 2) ((w.alloc (.cells #[.string x.f.t, .int .i64 x.f.l, .int .i64 x.f.c, .string x.t.t, .int .i64 x.t.l, .int .i64 x.t.c, .string x.on.n, .slice oa x.on.ar.length oc, .int .i64 x.on.l, .int .i64 x.on.c, .slice na x.ns.length nc, .int .i64 x.g, .slice sa x.ss.length sc] 51)).alloc (.cells #[.string y.f.t, .int .i64 y.f.l, .int .i64 y.f.c, .string y.t.t, .int .i64 y.t.l, .int .i64 y.t.c, .string y.on.n, .slice oa' y.on.ar.length oc', .int .i64 y.on.l, .int .i64 y.on.c, .slice na' y.ns.length nc', .int .i64 y.g, .slice sa' y.ss.length sc'] 51)) ((w.alloc (.cells #[.string x.f.t, .int .i64 x.f.l, .int .i64 x.f.c, .string x.t.t, .int .i64 x.t.l, .int .i64 x.t.c, .string x.on.n, .slice oa x.on.ar.length oc, .int .i64 x.on.l, .int .i64 x.on.c, .slice na x.ns.length nc, .int .i64 x.g, .slice sa x.ss.length sc] 51)).alloc (.cells #[.string y.f.t, .int .i64 y.f.l, .int .i64 y.f.c, .string y.t.t, .int .i64 y.t.l, .int .i64 y.t.c, .string y.on.n, .slice oa' y.on.ar.length oc', .int .i64 y.on.l, .int .i64 y.on.c, .slice na' y.ns.length nc', .int .i64 y.g, .slice sa' y.ss.length sc'] 51))) := Lib.hid (Below.refl _ _)
  have HS := Lib.hid (decTs x y)
  have q0 := eqInId x.f y.f
  have q1 := eqInId x.t y.t
  have t2 := int_dec x.g y.g
  have H3 := Lib.hid (fun w1 (hb : Below (w.heap.size + 2) ((w.alloc (.cells #[.string x.f.t, .int .i64 x.f.l, .int .i64 x.f.c, .string x.t.t, .int .i64 x.t.l, .int .i64 x.t.c, .string x.on.n, .slice oa x.on.ar.length oc, .int .i64 x.on.l, .int .i64 x.on.c, .slice na x.ns.length nc, .int .i64 x.g, .slice sa x.ss.length sc] 51)).alloc (.cells #[.string y.f.t, .int .i64 y.f.l, .int .i64 y.f.c, .string y.t.t, .int .i64 y.t.l, .int .i64 y.t.c, .string y.on.n, .slice oa' y.on.ar.length oc', .int .i64 y.on.l, .int .i64 y.on.c, .slice na' y.ns.length nc', .int .i64 y.g, .slice sa' y.ss.length sc'] 51)) w1) => sameSy_calls (Y := Y) (Y' := Y') (O := O) (O' := O') x.on y.on [.string x.on.n, .slice oa x.on.ar.length oc, .int .i64 x.on.l, .int .i64 x.on.c] [.string y.on.n, .slice oa' y.on.ar.length oc', .int .i64 y.on.l, .int .i64 y.on.c] w1 ⟨oa, oc, rfl, g1.belowF (hB1.trans (hb.mono (Nat.le_add_right _ 2))), g4.2.2⟩ ⟨oa', oc', rfl, g1'.belowF (hB1.trans (hb.mono (Nat.le_add_right _ 2))), g4'.2.2⟩)
  have H4 := Lib.hid (fun w1 (hb : Below (w.heap.size + 2) ((w.alloc (.cells #[.string x.f.t, .int .i64 x.f.l, .int .i64 x.f.c, .string x.t.t, .int .i64 x.t.l, .int .i64 x.t.c, .string x.on.n, .slice oa x.on.ar.length oc, .int .i64 x.on.l, .int .i64 x.on.c, .slice na x.ns.length nc, .int .i64 x.g, .slice sa x.ss.length sc] 51)).alloc (.cells #[.string y.f.t, .int .i64 y.f.l, .int .i64 y.f.c, .string y.t.t, .int .i64 y.t.l, .int .i64 y.t.c, .string y.on.n, .slice oa' y.on.ar.length oc', .int .i64 y.on.l, .int .i64 y.on.c, .slice na' y.ns.length nc', .int .i64 y.g, .slice sa' y.ss.length sc'] 51)) w1) => equalEx_calls na _ nc x.ns na' _ nc' y.ns w1 (g2.belowF (hB1.trans (hb.mono (Nat.le_add_right _ 2)))) (g2'.belowF (hB1.trans (hb.mono (Nat.le_add_right _ 2)))))
  have H5 := Lib.hid (fun w1 (hb : Below (w.heap.size + 2) ((w.alloc (.cells #[.string x.f.t, .int .i64 x.f.l, .int .i64 x.f.c, .string x.t.t, .int .i64 x.t.l, .int .i64 x.t.c, .string x.on.n, .slice oa x.on.ar.length oc, .int .i64 x.on.l, .int .i64 x.on.c, .slice na x.ns.length nc, .int .i64 x.g, .slice sa x.ss.length sc] 51)).alloc (.cells #[.string y.f.t, .int .i64 y.f.l, .int .i64 y.f.c, .string y.t.t, .int .i64 y.t.l, .int .i64 y.t.c, .string y.on.n, .slice oa' y.on.ar.length oc', .int .i64 y.on.l, .int .i64 y.on.c, .slice na' y.ns.length nc', .int .i64 y.g, .slice sa' y.ss.length sc'] 51)) w1) => equalSe_calls sa _ sc x.ss sa' _ sc' y.ss w1 (g3.belowF (hB1.trans (hb.mono (Nat.le_add_right _ 2)))) (g3'.belowF (hB1.trans (hb.mono (Nat.le_add_right _ 2)))))
  have qg := guardId
  have s1 := g1.small
  have s1' := g1'.small
  have s2 := g2.small
  have s2' := g2'.small
  have s3 := g3.small
  have s3' := g3'.small
  clear hB1 g1 g1' g2 g2' g3 g3'
  cases e0 : decide (x.f = y.f)
  · rw [e0] at q0 HS
    clear e0
    go_enter Tryz.func62, Tryz.ntmps62
    go_wp2_with fail
    go_ret
    exact ⟨by rw [HS.out]; rfl, HB.out.trans (HK0.out.mono (Nat.le_add_right _ 2))⟩
  · rw [e0] at q0 HS
    clear e0
    cases e1 : decide (x.t = y.t)
    · rw [e1] at q1 HS
      clear e1
      go_enter Tryz.func62, Tryz.ntmps62
      go_wp2_with fail
      go_ret
      exact ⟨by rw [HS.out]; rfl, HB.out.trans (HK0.out.mono (Nat.le_add_right _ 2))⟩
    · rw [e1] at q1 HS
      clear e1
      cases e2 : decide (x.g = y.g)
      · rw [e2] at t2 HS
        clear e2
        go_enter Tryz.func62, Tryz.ntmps62
        go_wp2_with fail
        go_ret
        exact ⟨by rw [HS.out]; rfl, HB.out.trans (HK0.out.mono (Nat.le_add_right _ 2))⟩
      · rw [e2] at t2 HS
        clear e2
        cases e3 : decide (x.on = y.on)
        · rw [e3] at HS H3
          clear e3
          go_enter Tryz.func62, Tryz.ntmps62
          go_wp2_with fail
          refine (H3.out _ HK0.out).mono ?_
          rintro e w3 ⟨rfl, k3⟩
          have HK4 := Lib.hid (below2_step HK0.out (by simp) k3)
          clear k3
          go_wp2_with fail
          go_ret
          exact ⟨by rw [HS.out]; rfl, HB.out.trans (HK4.out.mono (Nat.le_add_right _ 2))⟩
        · rw [e3] at HS H3
          clear e3
          cases e4 : decide (x.ns = y.ns)
          · rw [e4] at HS H4
            clear e4
            go_enter Tryz.func62, Tryz.ntmps62
            go_wp2_with fail
            refine (H3.out _ HK0.out).mono ?_
            rintro e w3 ⟨rfl, k3⟩
            have HK4 := Lib.hid (below2_step HK0.out (by simp) k3)
            clear k3
            obtain ⟨u3, v3⟩ := box2 HK4.out
            have c3_10 : w3.cell? ⟨w.heap.size, 10, none⟩ = some (.slice na x.ns.length nc) := u3 10 _ rfl
            have d3_10 : w3.cell? ⟨w.heap.size + 1, 10, none⟩ = some (.slice na' y.ns.length nc') := v3 10 _ rfl
            clear u3 v3
            go_wp2_with fail
            refine (H4.out _ HK4.out).mono ?_
            rintro e w4 ⟨rfl, k4⟩
            have HK5 := Lib.hid (below2_step HK4.out (by simp) k4)
            clear k4
            go_wp2_with fail
            go_ret
            exact ⟨by rw [HS.out]; rfl, HB.out.trans (HK5.out.mono (Nat.le_add_right _ 2))⟩
          · rw [e4] at HS H4
            clear e4
            cases e5 : decide (x.ss = y.ss)
            · rw [e5] at HS H5
              clear e5
              go_enter Tryz.func62, Tryz.ntmps62
              go_wp2_with fail
              refine (H3.out _ HK0.out).mono ?_
              rintro e w3 ⟨rfl, k3⟩
              have HK4 := Lib.hid (below2_step HK0.out (by simp) k3)
              clear k3
              obtain ⟨u3, v3⟩ := box2 HK4.out
              have c3_10 : w3.cell? ⟨w.heap.size, 10, none⟩ = some (.slice na x.ns.length nc) := u3 10 _ rfl
              have d3_10 : w3.cell? ⟨w.heap.size + 1, 10, none⟩ = some (.slice na' y.ns.length nc') := v3 10 _ rfl
              have c3_12 : w3.cell? ⟨w.heap.size, 12, none⟩ = some (.slice sa x.ss.length sc) := u3 12 _ rfl
              have d3_12 : w3.cell? ⟨w.heap.size + 1, 12, none⟩ = some (.slice sa' y.ss.length sc') := v3 12 _ rfl
              clear u3 v3
              go_wp2_with fail
              refine (H4.out _ HK4.out).mono ?_
              rintro e w4 ⟨rfl, k4⟩
              have HK5 := Lib.hid (below2_step HK4.out (by simp) k4)
              clear k4
              obtain ⟨u4, v4⟩ := box2 HK5.out
              have c4_12 : w4.cell? ⟨w.heap.size, 12, none⟩ = some (.slice sa x.ss.length sc) := u4 12 _ rfl
              have d4_12 : w4.cell? ⟨w.heap.size + 1, 12, none⟩ = some (.slice sa' y.ss.length sc') := v4 12 _ rfl
              clear u4 v4
              go_wp2_with fail
              refine (H5.out _ HK5.out).mono ?_
              rintro e w5 ⟨rfl, k5⟩
              have HK6 := Lib.hid (below2_step HK5.out (by simp) k5)
              clear k5
              go_wp2_with fail
              go_ret
              exact ⟨by rw [HS.out]; rfl, HB.out.trans (HK6.out.mono (Nat.le_add_right _ 2))⟩
            · rw [e5] at HS H5
              clear e5
              go_enter Tryz.func62, Tryz.ntmps62
              go_wp2_with fail
              refine (H3.out _ HK0.out).mono ?_
              rintro e w3 ⟨rfl, k3⟩
              have HK4 := Lib.hid (below2_step HK0.out (by simp) k3)
              clear k3
              obtain ⟨u3, v3⟩ := box2 HK4.out
              have c3_10 : w3.cell? ⟨w.heap.size, 10, none⟩ = some (.slice na x.ns.length nc) := u3 10 _ rfl
              have d3_10 : w3.cell? ⟨w.heap.size + 1, 10, none⟩ = some (.slice na' y.ns.length nc') := v3 10 _ rfl
              have c3_12 : w3.cell? ⟨w.heap.size, 12, none⟩ = some (.slice sa x.ss.length sc) := u3 12 _ rfl
              have d3_12 : w3.cell? ⟨w.heap.size + 1, 12, none⟩ = some (.slice sa' y.ss.length sc') := v3 12 _ rfl
              clear u3 v3
              go_wp2_with fail
              refine (H4.out _ HK4.out).mono ?_
              rintro e w4 ⟨rfl, k4⟩
              have HK5 := Lib.hid (below2_step HK4.out (by simp) k4)
              clear k4
              obtain ⟨u4, v4⟩ := box2 HK5.out
              have c4_12 : w4.cell? ⟨w.heap.size, 12, none⟩ = some (.slice sa x.ss.length sc) := u4 12 _ rfl
              have d4_12 : w4.cell? ⟨w.heap.size + 1, 12, none⟩ = some (.slice sa' y.ss.length sc') := v4 12 _ rfl
              clear u4 v4
              go_wp2_with fail
              refine (H5.out _ HK5.out).mono ?_
              rintro e w5 ⟨rfl, k5⟩
              have HK6 := Lib.hid (below2_step HK5.out (by simp) k5)
              clear k5
              go_wp2_with fail
              go_ret
              exact ⟨by rw [HS.out]; rfl, HB.out.trans (HK6.out.mono (Nat.le_add_right _ 2))⟩
end Go.Proofs.YtojabkhfkbfeaaaGreatDoor
