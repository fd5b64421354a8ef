/- Whether two trees are the same: tree's Same. -/
import Derived.Test.YtojabkhfkbfeaaaGreatDoorTreeEqualF
namespace Go.Proofs.YtojabkhfkbfeaaaGreatDoor
open Go.RowKit
set_option linter.unusedVariables false

theorem GIn.belowD {Y : TyT} {O O' : Prop} {T : TypeId} {k : Nat} {w w' : World} {a : Option Addr} {len : Nat} {L : List De} (h : GIn (rDe Y O) T O' k w a len L) (hb : Below w.heap.size w w') : GIn (rDe Y O) T O' k w' a len L := h.below hb (fun _ _ _ h => rDe_below h hb)
theorem GIn.belowS {Y : TyT} {O O' : Prop} {T : TypeId} {k : Nat} {w w' : World} {a : Option Addr} {len : Nat} {L : List Sy} (h : GIn (rSy Y O) T O' k w a len L) (hb : Below w.heap.size w w') : GIn (rSy Y O) T O' k w' a len L := h.below hb (fun _ _ _ h => rSy_below h hb)
theorem GIn.belowT {Y : TyT} {O O' : Prop} {T : TypeId} {k : Nat} {w w' : World} {a : Option Addr} {len : Nat} {L : List Ts} (h : GIn (rTs Y O) T O' k w a len L) (hb : Below w.heap.size w w') : GIn (rTs Y O) T O' k w' a len L := h.below hb (fun _ _ _ h => rTs_below h hb)

theorem decTr (x y : Tr) : decide (x = y) = (decide (x.n = y.n) && (decide (x.s = y.s) && (decide (x.ds = y.ds) && (decide (x.qs = y.qs) && (decide (x.fs = y.fs) && (decide (x.st = y.st) && (decide (x.al = y.al) && (decide (x.ts = y.ts))))))))) := by
  have h : (x = y) ↔ (x.n = y.n ∧ x.s = y.s ∧ x.ds = y.ds ∧ x.qs = y.qs ∧ x.fs = y.fs ∧ x.st = y.st ∧ x.al = y.al ∧ x.ts = y.ts) := by
    cases x; cases y
    simp only [Tr.mk.injEq]
    all_goals exact ⟨fun h => by simp only [h, and_self], fun h => by simp only [h, and_self]⟩
  rw [Bool.eq_iff_iff]
  simp only [decide_eq_true_iff, Bool.and_eq_true]
  exact h
set_option maxHeartbeats 20000000 in
set_option maxRecDepth 100000 in
theorem sameTr_calls {Y Y' : TyT} {O O' : Prop} (x y : Tr) (cs cs' : List Value) (w : World) (hx : TrIn Y O w cs x) (hy : TrIn Y' O' w cs' y) :
    Calls Tryz.prog 11 #[.agg cs.toArray, .agg cs'.toArray] w fun e w' => e = .returned (.bool (decide (x = y))) ∧ Below w.heap.size w w' := by
  obtain ⟨⟨da, dc, qa, qc, fa, fc, ta, tc, la, lc, xa, xc, rfl, g1, g2, g3, g4, g5, g6⟩, _⟩ := hx
  obtain ⟨⟨da', dc', qa', qc', fa', fc', ta', tc', la', lc', xa', xc', rfl, g1', g2', g3', g4', g5', g6'⟩, _⟩ := hy
  have hB1 : Below w.heap.size w ((w.alloc (.cells #[.string x.n.t, .int .i64 x.n.l, .int .i64 x.n.c, .slice da x.ds.length dc, .slice qa x.qs.length qc, .slice fa x.fs.length fc, .slice ta x.st.length tc, .string x.s.t, .int .i64 x.s.l, .int .i64 x.s.c, .slice la x.al.length lc, .slice xa x.ts.length xc] 31)).alloc (.cells #[.string y.n.t, .int .i64 y.n.l, .int .i64 y.n.c, .slice da' y.ds.length dc', .slice qa' y.qs.length qc', .slice fa' y.fs.length fc', .slice ta' y.st.length tc', .string y.s.t, .int .i64 y.s.l, .int .i64 y.s.c, .slice la' y.al.length lc', .slice xa' y.ts.length xc'] 31)) := ((Below.refl w.heap.size w).alloc (Nat.le_refl _) _).alloc (by simp) _
  have HB := Lib.hid hB1
  have HK0 : Hid (Below (w.heap.size + 2) ((w.alloc (.cells #[.string x.n.t, .int .i64 x.n.l, .int .i64 x.n.c, .slice da x.ds.length dc, .slice qa x.qs.length qc, .slice fa x.fs.length fc, .slice ta x.st.length tc, .string x.s.t, .int .i64 x.s.l, .int .i64 x.s.c, .slice la x.al.length lc, .slice xa x.ts.length xc] 31)).alloc (.cells #[.string y.n.t, .int .i64 y.n.l, .int .i64 y.n.c, .slice da' y.ds.length dc', .slice qa' y.qs.length qc', .slice fa' y.fs.length fc', .slice ta' y.st.length tc', .string y.s.t, .int .i64 y.s.l, .int .i64 y.s.c, .slice la' y.al.length lc', .slice xa' y.ts.length xc'] 31)) ((w.alloc (.cells #[.string x.n.t, .int .i64 x.n.l, .int .i64 x.n.c, .slice da x.ds.length dc, .slice qa x.qs.length qc, .slice fa x.fs.length fc, .slice ta x.st.length tc, .string x.s.t, .int .i64 x.s.l, .int .i64 x.s.c, .slice la x.al.length lc, .slice xa x.ts.length xc] 31)).alloc (.cells #[.string y.n.t, .int .i64 y.n.l, .int .i64 y.n.c, .slice da' y.ds.length dc', .slice qa' y.qs.length qc', .slice fa' y.fs.length fc', .slice ta' y.st.length tc', .string y.s.t, .int .i64 y.s.l, .int .i64 y.s.c, .slice la' y.al.length lc', .slice xa' y.ts.length xc'] 31))) := Lib.hid (Below.refl _ _)
  have HS := Lib.hid (decTr x y)
  have q0 := eqInId x.n y.n
  have q1 := eqInId x.s y.s
  have H2 := Lib.hid (fun w1 (hb : Below (w.heap.size + 2) ((w.alloc (.cells #[.string x.n.t, .int .i64 x.n.l, .int .i64 x.n.c, .slice da x.ds.length dc, .slice qa x.qs.length qc, .slice fa x.fs.length fc, .slice ta x.st.length tc, .string x.s.t, .int .i64 x.s.l, .int .i64 x.s.c, .slice la x.al.length lc, .slice xa x.ts.length xc] 31)).alloc (.cells #[.string y.n.t, .int .i64 y.n.l, .int .i64 y.n.c, .slice da' y.ds.length dc', .slice qa' y.qs.length qc', .slice fa' y.fs.length fc', .slice ta' y.st.length tc', .string y.s.t, .int .i64 y.s.l, .int .i64 y.s.c, .slice la' y.al.length lc', .slice xa' y.ts.length xc'] 31)) w1) => equalDe_calls da _ dc x.ds da' _ dc' y.ds w1 (g1.belowD (hB1.trans (hb.mono (Nat.le_add_right _ 2)))) (g1'.belowD (hB1.trans (hb.mono (Nat.le_add_right _ 2)))))
  have H3 := Lib.hid (fun w1 (hb : Below (w.heap.size + 2) ((w.alloc (.cells #[.string x.n.t, .int .i64 x.n.l, .int .i64 x.n.c, .slice da x.ds.length dc, .slice qa x.qs.length qc, .slice fa x.fs.length fc, .slice ta x.st.length tc, .string x.s.t, .int .i64 x.s.l, .int .i64 x.s.c, .slice la x.al.length lc, .slice xa x.ts.length xc] 31)).alloc (.cells #[.string y.n.t, .int .i64 y.n.l, .int .i64 y.n.c, .slice da' y.ds.length dc', .slice qa' y.qs.length qc', .slice fa' y.fs.length fc', .slice ta' y.st.length tc', .string y.s.t, .int .i64 y.s.l, .int .i64 y.s.c, .slice la' y.al.length lc', .slice xa' y.ts.length xc'] 31)) w1) => equalQu_calls qa _ qc x.qs qa' _ qc' y.qs w1 (g2.belowF (hB1.trans (hb.mono (Nat.le_add_right _ 2)))) (g2'.belowF (hB1.trans (hb.mono (Nat.le_add_right _ 2)))))
  have H4 := Lib.hid (fun w1 (hb : Below (w.heap.size + 2) ((w.alloc (.cells #[.string x.n.t, .int .i64 x.n.l, .int .i64 x.n.c, .slice da x.ds.length dc, .slice qa x.qs.length qc, .slice fa x.fs.length fc, .slice ta x.st.length tc, .string x.s.t, .int .i64 x.s.l, .int .i64 x.s.c, .slice la x.al.length lc, .slice xa x.ts.length xc] 31)).alloc (.cells #[.string y.n.t, .int .i64 y.n.l, .int .i64 y.n.c, .slice da' y.ds.length dc', .slice qa' y.qs.length qc', .slice fa' y.fs.length fc', .slice ta' y.st.length tc', .string y.s.t, .int .i64 y.s.l, .int .i64 y.s.c, .slice la' y.al.length lc', .slice xa' y.ts.length xc'] 31)) w1) => equalFr_calls fa _ fc x.fs fa' _ fc' y.fs w1 (g3.belowF (hB1.trans (hb.mono (Nat.le_add_right _ 2)))) (g3'.belowF (hB1.trans (hb.mono (Nat.le_add_right _ 2)))))
  have H5 := Lib.hid (fun w1 (hb : Below (w.heap.size + 2) ((w.alloc (.cells #[.string x.n.t, .int .i64 x.n.l, .int .i64 x.n.c, .slice da x.ds.length dc, .slice qa x.qs.length qc, .slice fa x.fs.length fc, .slice ta x.st.length tc, .string x.s.t, .int .i64 x.s.l, .int .i64 x.s.c, .slice la x.al.length lc, .slice xa x.ts.length xc] 31)).alloc (.cells #[.string y.n.t, .int .i64 y.n.l, .int .i64 y.n.c, .slice da' y.ds.length dc', .slice qa' y.qs.length qc', .slice fa' y.fs.length fc', .slice ta' y.st.length tc', .string y.s.t, .int .i64 y.s.l, .int .i64 y.s.c, .slice la' y.al.length lc', .slice xa' y.ts.length xc'] 31)) w1) => equalSta_calls ta _ tc x.st ta' _ tc' y.st w1 (g4.belowF (hB1.trans (hb.mono (Nat.le_add_right _ 2)))) (g4'.belowF (hB1.trans (hb.mono (Nat.le_add_right _ 2)))))
  have H6 := Lib.hid (fun w1 (hb : Below (w.heap.size + 2) ((w.alloc (.cells #[.string x.n.t, .int .i64 x.n.l, .int .i64 x.n.c, .slice da x.ds.length dc, .slice qa x.qs.length qc, .slice fa x.fs.length fc, .slice ta x.st.length tc, .string x.s.t, .int .i64 x.s.l, .int .i64 x.s.c, .slice la x.al.length lc, .slice xa x.ts.length xc] 31)).alloc (.cells #[.string y.n.t, .int .i64 y.n.l, .int .i64 y.n.c, .slice da' y.ds.length dc', .slice qa' y.qs.length qc', .slice fa' y.fs.length fc', .slice ta' y.st.length tc', .string y.s.t, .int .i64 y.s.l, .int .i64 y.s.c, .slice la' y.al.length lc', .slice xa' y.ts.length xc'] 31)) w1) => equalSy_calls la _ lc x.al la' _ lc' y.al w1 (g5.belowS (hB1.trans (hb.mono (Nat.le_add_right _ 2)))) (g5'.belowS (hB1.trans (hb.mono (Nat.le_add_right _ 2)))))
  have H7 := Lib.hid (fun w1 (hb : Below (w.heap.size + 2) ((w.alloc (.cells #[.string x.n.t, .int .i64 x.n.l, .int .i64 x.n.c, .slice da x.ds.length dc, .slice qa x.qs.length qc, .slice fa x.fs.length fc, .slice ta x.st.length tc, .string x.s.t, .int .i64 x.s.l, .int .i64 x.s.c, .slice la x.al.length lc, .slice xa x.ts.length xc] 31)).alloc (.cells #[.string y.n.t, .int .i64 y.n.l, .int .i64 y.n.c, .slice da' y.ds.length dc', .slice qa' y.qs.length qc', .slice fa' y.fs.length fc', .slice ta' y.st.length tc', .string y.s.t, .int .i64 y.s.l, .int .i64 y.s.c, .slice la' y.al.length lc', .slice xa' y.ts.length xc'] 31)) w1) => equalTs_calls xa _ xc x.ts xa' _ xc' y.ts w1 (g6.belowT (hB1.trans (hb.mono (Nat.le_add_right _ 2)))) (g6'.belowT (hB1.trans (hb.mono (Nat.le_add_right _ 2)))))
  have qg := guardId
  have s1 := g1.small
  have s1' := g1'.small
  clear hB1 g1 g1' g2 g2' g3 g3' g4 g4' g5 g5' g6 g6'
  cases e0 : decide (x.n = y.n)
  · rw [e0] at q0 HS
    clear e0
    go_enter Tryz.func11, Tryz.ntmps11
    go_wp2_with fail
    go_ret
    exact ⟨by rw [HS.out]; rfl, HB.out.trans (HK0.out.mono (Nat.le_add_right _ 2))⟩
  · rw [e0] at q0 HS
    clear e0
    cases e1 : decide (x.s = y.s)
    · rw [e1] at q1 HS
      clear e1
      go_enter Tryz.func11, Tryz.ntmps11
      go_wp2_with fail
      go_ret
      exact ⟨by rw [HS.out]; rfl, HB.out.trans (HK0.out.mono (Nat.le_add_right _ 2))⟩
    · rw [e1] at q1 HS
      clear e1
      cases e2 : decide (x.ds = y.ds)
      · rw [e2] at HS H2
        clear e2
        go_enter Tryz.func11, Tryz.ntmps11
        go_wp2_with fail
        refine (H2.out _ HK0.out).mono ?_
        rintro e w2 ⟨rfl, k2⟩
        have HK3 := Lib.hid (below2_step HK0.out (by simp) k2)
        clear k2
        go_wp2_with fail
        go_ret
        exact ⟨by rw [HS.out]; rfl, HB.out.trans (HK3.out.mono (Nat.le_add_right _ 2))⟩
      · rw [e2] at HS H2
        clear e2
        cases e3 : decide (x.qs = y.qs)
        · rw [e3] at HS H3
          clear e3
          go_enter Tryz.func11, Tryz.ntmps11
          go_wp2_with fail
          refine (H2.out _ HK0.out).mono ?_
          rintro e w2 ⟨rfl, k2⟩
          have HK3 := Lib.hid (below2_step HK0.out (by simp) k2)
          clear k2
          obtain ⟨u2, v2⟩ := box2 HK3.out
          have c2_4 : w2.cell? ⟨w.heap.size, 4, none⟩ = some (.slice qa x.qs.length qc) := u2 4 _ rfl
          have d2_4 : w2.cell? ⟨w.heap.size + 1, 4, none⟩ = some (.slice qa' y.qs.length qc') := v2 4 _ rfl
          clear u2 v2
          go_wp2_with fail
          refine (H3.out _ HK3.out).mono ?_
          rintro e w3 ⟨rfl, k3⟩
          have HK4 := Lib.hid (below2_step HK3.out (by simp) k3)
          clear k3
          go_wp2_with fail
          go_ret
          exact ⟨by rw [HS.out]; rfl, HB.out.trans (HK4.out.mono (Nat.le_add_right _ 2))⟩
        · rw [e3] at HS H3
          clear e3
          cases e4 : decide (x.fs = y.fs)
          · rw [e4] at HS H4
            clear e4
            go_enter Tryz.func11, Tryz.ntmps11
            go_wp2_with fail
            refine (H2.out _ HK0.out).mono ?_
            rintro e w2 ⟨rfl, k2⟩
            have HK3 := Lib.hid (below2_step HK0.out (by simp) k2)
            clear k2
            obtain ⟨u2, v2⟩ := box2 HK3.out
            have c2_4 : w2.cell? ⟨w.heap.size, 4, none⟩ = some (.slice qa x.qs.length qc) := u2 4 _ rfl
            have d2_4 : w2.cell? ⟨w.heap.size + 1, 4, none⟩ = some (.slice qa' y.qs.length qc') := v2 4 _ rfl
            have c2_5 : w2.cell? ⟨w.heap.size, 5, none⟩ = some (.slice fa x.fs.length fc) := u2 5 _ rfl
            have d2_5 : w2.cell? ⟨w.heap.size + 1, 5, none⟩ = some (.slice fa' y.fs.length fc') := v2 5 _ rfl
            clear u2 v2
            go_wp2_with fail
            refine (H3.out _ HK3.out).mono ?_
            rintro e w3 ⟨rfl, k3⟩
            have HK4 := Lib.hid (below2_step HK3.out (by simp) k3)
            clear k3
            obtain ⟨u3, v3⟩ := box2 HK4.out
            have c3_5 : w3.cell? ⟨w.heap.size, 5, none⟩ = some (.slice fa x.fs.length fc) := u3 5 _ rfl
            have d3_5 : w3.cell? ⟨w.heap.size + 1, 5, none⟩ = some (.slice fa' y.fs.length fc') := v3 5 _ rfl
            clear u3 v3
            go_wp2_with fail
            refine (H4.out _ HK4.out).mono ?_
            rintro e w4 ⟨rfl, k4⟩
            have HK5 := Lib.hid (below2_step HK4.out (by simp) k4)
            clear k4
            go_wp2_with fail
            go_ret
            exact ⟨by rw [HS.out]; rfl, HB.out.trans (HK5.out.mono (Nat.le_add_right _ 2))⟩
          · rw [e4] at HS H4
            clear e4
            cases e5 : decide (x.st = y.st)
            · rw [e5] at HS H5
              clear e5
              go_enter Tryz.func11, Tryz.ntmps11
              go_wp2_with fail
              refine (H2.out _ HK0.out).mono ?_
              rintro e w2 ⟨rfl, k2⟩
              have HK3 := Lib.hid (below2_step HK0.out (by simp) k2)
              clear k2
              obtain ⟨u2, v2⟩ := box2 HK3.out
              have c2_4 : w2.cell? ⟨w.heap.size, 4, none⟩ = some (.slice qa x.qs.length qc) := u2 4 _ rfl
              have d2_4 : w2.cell? ⟨w.heap.size + 1, 4, none⟩ = some (.slice qa' y.qs.length qc') := v2 4 _ rfl
              have c2_5 : w2.cell? ⟨w.heap.size, 5, none⟩ = some (.slice fa x.fs.length fc) := u2 5 _ rfl
              have d2_5 : w2.cell? ⟨w.heap.size + 1, 5, none⟩ = some (.slice fa' y.fs.length fc') := v2 5 _ rfl
              have c2_6 : w2.cell? ⟨w.heap.size, 6, none⟩ = some (.slice ta x.st.length tc) := u2 6 _ rfl
              have d2_6 : w2.cell? ⟨w.heap.size + 1, 6, none⟩ = some (.slice ta' y.st.length tc') := v2 6 _ rfl
              clear u2 v2
              go_wp2_with fail
              refine (H3.out _ HK3.out).mono ?_
              rintro e w3 ⟨rfl, k3⟩
              have HK4 := Lib.hid (below2_step HK3.out (by simp) k3)
              clear k3
              obtain ⟨u3, v3⟩ := box2 HK4.out
              have c3_5 : w3.cell? ⟨w.heap.size, 5, none⟩ = some (.slice fa x.fs.length fc) := u3 5 _ rfl
              have d3_5 : w3.cell? ⟨w.heap.size + 1, 5, none⟩ = some (.slice fa' y.fs.length fc') := v3 5 _ rfl
              have c3_6 : w3.cell? ⟨w.heap.size, 6, none⟩ = some (.slice ta x.st.length tc) := u3 6 _ rfl
              have d3_6 : w3.cell? ⟨w.heap.size + 1, 6, none⟩ = some (.slice ta' y.st.length tc') := v3 6 _ rfl
              clear u3 v3
              go_wp2_with fail
              refine (H4.out _ HK4.out).mono ?_
              rintro e w4 ⟨rfl, k4⟩
              have HK5 := Lib.hid (below2_step HK4.out (by simp) k4)
              clear k4
              obtain ⟨u4, v4⟩ := box2 HK5.out
              have c4_6 : w4.cell? ⟨w.heap.size, 6, none⟩ = some (.slice ta x.st.length tc) := u4 6 _ rfl
              have d4_6 : w4.cell? ⟨w.heap.size + 1, 6, none⟩ = some (.slice ta' y.st.length tc') := v4 6 _ rfl
              clear u4 v4
              go_wp2_with fail
              refine (H5.out _ HK5.out).mono ?_
              rintro e w5 ⟨rfl, k5⟩
              have HK6 := Lib.hid (below2_step HK5.out (by simp) k5)
              clear k5
              go_wp2_with fail
              go_ret
              exact ⟨by rw [HS.out]; rfl, HB.out.trans (HK6.out.mono (Nat.le_add_right _ 2))⟩
            · rw [e5] at HS H5
              clear e5
              cases e6 : decide (x.al = y.al)
              · rw [e6] at HS H6
                clear e6
                go_enter Tryz.func11, Tryz.ntmps11
                go_wp2_with fail
                refine (H2.out _ HK0.out).mono ?_
                rintro e w2 ⟨rfl, k2⟩
                have HK3 := Lib.hid (below2_step HK0.out (by simp) k2)
                clear k2
                obtain ⟨u2, v2⟩ := box2 HK3.out
                have c2_4 : w2.cell? ⟨w.heap.size, 4, none⟩ = some (.slice qa x.qs.length qc) := u2 4 _ rfl
                have d2_4 : w2.cell? ⟨w.heap.size + 1, 4, none⟩ = some (.slice qa' y.qs.length qc') := v2 4 _ rfl
                have c2_5 : w2.cell? ⟨w.heap.size, 5, none⟩ = some (.slice fa x.fs.length fc) := u2 5 _ rfl
                have d2_5 : w2.cell? ⟨w.heap.size + 1, 5, none⟩ = some (.slice fa' y.fs.length fc') := v2 5 _ rfl
                have c2_6 : w2.cell? ⟨w.heap.size, 6, none⟩ = some (.slice ta x.st.length tc) := u2 6 _ rfl
                have d2_6 : w2.cell? ⟨w.heap.size + 1, 6, none⟩ = some (.slice ta' y.st.length tc') := v2 6 _ rfl
                have c2_10 : w2.cell? ⟨w.heap.size, 10, none⟩ = some (.slice la x.al.length lc) := u2 10 _ rfl
                have d2_10 : w2.cell? ⟨w.heap.size + 1, 10, none⟩ = some (.slice la' y.al.length lc') := v2 10 _ rfl
                clear u2 v2
                go_wp2_with fail
                refine (H3.out _ HK3.out).mono ?_
                rintro e w3 ⟨rfl, k3⟩
                have HK4 := Lib.hid (below2_step HK3.out (by simp) k3)
                clear k3
                obtain ⟨u3, v3⟩ := box2 HK4.out
                have c3_5 : w3.cell? ⟨w.heap.size, 5, none⟩ = some (.slice fa x.fs.length fc) := u3 5 _ rfl
                have d3_5 : w3.cell? ⟨w.heap.size + 1, 5, none⟩ = some (.slice fa' y.fs.length fc') := v3 5 _ rfl
                have c3_6 : w3.cell? ⟨w.heap.size, 6, none⟩ = some (.slice ta x.st.length tc) := u3 6 _ rfl
                have d3_6 : w3.cell? ⟨w.heap.size + 1, 6, none⟩ = some (.slice ta' y.st.length tc') := v3 6 _ rfl
                have c3_10 : w3.cell? ⟨w.heap.size, 10, none⟩ = some (.slice la x.al.length lc) := u3 10 _ rfl
                have d3_10 : w3.cell? ⟨w.heap.size + 1, 10, none⟩ = some (.slice la' y.al.length lc') := v3 10 _ rfl
                clear u3 v3
                go_wp2_with fail
                refine (H4.out _ HK4.out).mono ?_
                rintro e w4 ⟨rfl, k4⟩
                have HK5 := Lib.hid (below2_step HK4.out (by simp) k4)
                clear k4
                obtain ⟨u4, v4⟩ := box2 HK5.out
                have c4_6 : w4.cell? ⟨w.heap.size, 6, none⟩ = some (.slice ta x.st.length tc) := u4 6 _ rfl
                have d4_6 : w4.cell? ⟨w.heap.size + 1, 6, none⟩ = some (.slice ta' y.st.length tc') := v4 6 _ rfl
                have c4_10 : w4.cell? ⟨w.heap.size, 10, none⟩ = some (.slice la x.al.length lc) := u4 10 _ rfl
                have d4_10 : w4.cell? ⟨w.heap.size + 1, 10, none⟩ = some (.slice la' y.al.length lc') := v4 10 _ rfl
                clear u4 v4
                go_wp2_with fail
                refine (H5.out _ HK5.out).mono ?_
                rintro e w5 ⟨rfl, k5⟩
                have HK6 := Lib.hid (below2_step HK5.out (by simp) k5)
                clear k5
                obtain ⟨u5, v5⟩ := box2 HK6.out
                have c5_10 : w5.cell? ⟨w.heap.size, 10, none⟩ = some (.slice la x.al.length lc) := u5 10 _ rfl
                have d5_10 : w5.cell? ⟨w.heap.size + 1, 10, none⟩ = some (.slice la' y.al.length lc') := v5 10 _ rfl
                clear u5 v5
                go_wp2_with fail
                refine (H6.out _ HK6.out).mono ?_
                rintro e w6 ⟨rfl, k6⟩
                have HK7 := Lib.hid (below2_step HK6.out (by simp) k6)
                clear k6
                go_wp2_with fail
                go_ret
                exact ⟨by rw [HS.out]; rfl, HB.out.trans (HK7.out.mono (Nat.le_add_right _ 2))⟩
              · rw [e6] at HS H6
                clear e6
                cases e7 : decide (x.ts = y.ts)
                · rw [e7] at HS H7
                  clear e7
                  go_enter Tryz.func11, Tryz.ntmps11
                  go_wp2_with fail
                  refine (H2.out _ HK0.out).mono ?_
                  rintro e w2 ⟨rfl, k2⟩
                  have HK3 := Lib.hid (below2_step HK0.out (by simp) k2)
                  clear k2
                  obtain ⟨u2, v2⟩ := box2 HK3.out
                  have c2_4 : w2.cell? ⟨w.heap.size, 4, none⟩ = some (.slice qa x.qs.length qc) := u2 4 _ rfl
                  have d2_4 : w2.cell? ⟨w.heap.size + 1, 4, none⟩ = some (.slice qa' y.qs.length qc') := v2 4 _ rfl
                  have c2_5 : w2.cell? ⟨w.heap.size, 5, none⟩ = some (.slice fa x.fs.length fc) := u2 5 _ rfl
                  have d2_5 : w2.cell? ⟨w.heap.size + 1, 5, none⟩ = some (.slice fa' y.fs.length fc') := v2 5 _ rfl
                  have c2_6 : w2.cell? ⟨w.heap.size, 6, none⟩ = some (.slice ta x.st.length tc) := u2 6 _ rfl
                  have d2_6 : w2.cell? ⟨w.heap.size + 1, 6, none⟩ = some (.slice ta' y.st.length tc') := v2 6 _ rfl
                  have c2_10 : w2.cell? ⟨w.heap.size, 10, none⟩ = some (.slice la x.al.length lc) := u2 10 _ rfl
                  have d2_10 : w2.cell? ⟨w.heap.size + 1, 10, none⟩ = some (.slice la' y.al.length lc') := v2 10 _ rfl
                  have c2_11 : w2.cell? ⟨w.heap.size, 11, none⟩ = some (.slice xa x.ts.length xc) := u2 11 _ rfl
                  have d2_11 : w2.cell? ⟨w.heap.size + 1, 11, none⟩ = some (.slice xa' y.ts.length xc') := v2 11 _ rfl
                  clear u2 v2
                  go_wp2_with fail
                  refine (H3.out _ HK3.out).mono ?_
                  rintro e w3 ⟨rfl, k3⟩
                  have HK4 := Lib.hid (below2_step HK3.out (by simp) k3)
                  clear k3
                  obtain ⟨u3, v3⟩ := box2 HK4.out
                  have c3_5 : w3.cell? ⟨w.heap.size, 5, none⟩ = some (.slice fa x.fs.length fc) := u3 5 _ rfl
                  have d3_5 : w3.cell? ⟨w.heap.size + 1, 5, none⟩ = some (.slice fa' y.fs.length fc') := v3 5 _ rfl
                  have c3_6 : w3.cell? ⟨w.heap.size, 6, none⟩ = some (.slice ta x.st.length tc) := u3 6 _ rfl
                  have d3_6 : w3.cell? ⟨w.heap.size + 1, 6, none⟩ = some (.slice ta' y.st.length tc') := v3 6 _ rfl
                  have c3_10 : w3.cell? ⟨w.heap.size, 10, none⟩ = some (.slice la x.al.length lc) := u3 10 _ rfl
                  have d3_10 : w3.cell? ⟨w.heap.size + 1, 10, none⟩ = some (.slice la' y.al.length lc') := v3 10 _ rfl
                  have c3_11 : w3.cell? ⟨w.heap.size, 11, none⟩ = some (.slice xa x.ts.length xc) := u3 11 _ rfl
                  have d3_11 : w3.cell? ⟨w.heap.size + 1, 11, none⟩ = some (.slice xa' y.ts.length xc') := v3 11 _ rfl
                  clear u3 v3
                  go_wp2_with fail
                  refine (H4.out _ HK4.out).mono ?_
                  rintro e w4 ⟨rfl, k4⟩
                  have HK5 := Lib.hid (below2_step HK4.out (by simp) k4)
                  clear k4
                  obtain ⟨u4, v4⟩ := box2 HK5.out
                  have c4_6 : w4.cell? ⟨w.heap.size, 6, none⟩ = some (.slice ta x.st.length tc) := u4 6 _ rfl
                  have d4_6 : w4.cell? ⟨w.heap.size + 1, 6, none⟩ = some (.slice ta' y.st.length tc') := v4 6 _ rfl
                  have c4_10 : w4.cell? ⟨w.heap.size, 10, none⟩ = some (.slice la x.al.length lc) := u4 10 _ rfl
                  have d4_10 : w4.cell? ⟨w.heap.size + 1, 10, none⟩ = some (.slice la' y.al.length lc') := v4 10 _ rfl
                  have c4_11 : w4.cell? ⟨w.heap.size, 11, none⟩ = some (.slice xa x.ts.length xc) := u4 11 _ rfl
                  have d4_11 : w4.cell? ⟨w.heap.size + 1, 11, none⟩ = some (.slice xa' y.ts.length xc') := v4 11 _ rfl
                  clear u4 v4
                  go_wp2_with fail
                  refine (H5.out _ HK5.out).mono ?_
                  rintro e w5 ⟨rfl, k5⟩
                  have HK6 := Lib.hid (below2_step HK5.out (by simp) k5)
                  clear k5
                  obtain ⟨u5, v5⟩ := box2 HK6.out
                  have c5_10 : w5.cell? ⟨w.heap.size, 10, none⟩ = some (.slice la x.al.length lc) := u5 10 _ rfl
                  have d5_10 : w5.cell? ⟨w.heap.size + 1, 10, none⟩ = some (.slice la' y.al.length lc') := v5 10 _ rfl
                  have c5_11 : w5.cell? ⟨w.heap.size, 11, none⟩ = some (.slice xa x.ts.length xc) := u5 11 _ rfl
                  have d5_11 : w5.cell? ⟨w.heap.size + 1, 11, none⟩ = some (.slice xa' y.ts.length xc') := v5 11 _ rfl
                  clear u5 v5
                  go_wp2_with fail
                  refine (H6.out _ HK6.out).mono ?_
                  rintro e w6 ⟨rfl, k6⟩
                  have HK7 := Lib.hid (below2_step HK6.out (by simp) k6)
                  clear k6
                  obtain ⟨u6, v6⟩ := box2 HK7.out
                  have c6_11 : w6.cell? ⟨w.heap.size, 11, none⟩ = some (.slice xa x.ts.length xc) := u6 11 _ rfl
                  have d6_11 : w6.cell? ⟨w.heap.size + 1, 11, none⟩ = some (.slice xa' y.ts.length xc') := v6 11 _ rfl
                  clear u6 v6
                  go_wp2_with fail
                  refine (H7.out _ HK7.out).mono ?_
                  rintro e w7 ⟨rfl, k7⟩
                  have HK8 := Lib.hid (below2_step HK7.out (by simp) k7)
                  clear k7
                  go_wp2_with fail
                  go_ret
                  exact ⟨by rw [HS.out]; rfl, HB.out.trans (HK8.out.mono (Nat.le_add_right _ 2))⟩
                · rw [e7] at HS H7
                  clear e7
                  go_enter Tryz.func11, Tryz.ntmps11
                  go_wp2_with fail
                  refine (H2.out _ HK0.out).mono ?_
                  rintro e w2 ⟨rfl, k2⟩
                  have HK3 := Lib.hid (below2_step HK0.out (by simp) k2)
                  clear k2
                  obtain ⟨u2, v2⟩ := box2 HK3.out
                  have c2_4 : w2.cell? ⟨w.heap.size, 4, none⟩ = some (.slice qa x.qs.length qc) := u2 4 _ rfl
                  have d2_4 : w2.cell? ⟨w.heap.size + 1, 4, none⟩ = some (.slice qa' y.qs.length qc') := v2 4 _ rfl
                  have c2_5 : w2.cell? ⟨w.heap.size, 5, none⟩ = some (.slice fa x.fs.length fc) := u2 5 _ rfl
                  have d2_5 : w2.cell? ⟨w.heap.size + 1, 5, none⟩ = some (.slice fa' y.fs.length fc') := v2 5 _ rfl
                  have c2_6 : w2.cell? ⟨w.heap.size, 6, none⟩ = some (.slice ta x.st.length tc) := u2 6 _ rfl
                  have d2_6 : w2.cell? ⟨w.heap.size + 1, 6, none⟩ = some (.slice ta' y.st.length tc') := v2 6 _ rfl
                  have c2_10 : w2.cell? ⟨w.heap.size, 10, none⟩ = some (.slice la x.al.length lc) := u2 10 _ rfl
                  have d2_10 : w2.cell? ⟨w.heap.size + 1, 10, none⟩ = some (.slice la' y.al.length lc') := v2 10 _ rfl
                  have c2_11 : w2.cell? ⟨w.heap.size, 11, none⟩ = some (.slice xa x.ts.length xc) := u2 11 _ rfl
                  have d2_11 : w2.cell? ⟨w.heap.size + 1, 11, none⟩ = some (.slice xa' y.ts.length xc') := v2 11 _ rfl
                  clear u2 v2
                  go_wp2_with fail
                  refine (H3.out _ HK3.out).mono ?_
                  rintro e w3 ⟨rfl, k3⟩
                  have HK4 := Lib.hid (below2_step HK3.out (by simp) k3)
                  clear k3
                  obtain ⟨u3, v3⟩ := box2 HK4.out
                  have c3_5 : w3.cell? ⟨w.heap.size, 5, none⟩ = some (.slice fa x.fs.length fc) := u3 5 _ rfl
                  have d3_5 : w3.cell? ⟨w.heap.size + 1, 5, none⟩ = some (.slice fa' y.fs.length fc') := v3 5 _ rfl
                  have c3_6 : w3.cell? ⟨w.heap.size, 6, none⟩ = some (.slice ta x.st.length tc) := u3 6 _ rfl
                  have d3_6 : w3.cell? ⟨w.heap.size + 1, 6, none⟩ = some (.slice ta' y.st.length tc') := v3 6 _ rfl
                  have c3_10 : w3.cell? ⟨w.heap.size, 10, none⟩ = some (.slice la x.al.length lc) := u3 10 _ rfl
                  have d3_10 : w3.cell? ⟨w.heap.size + 1, 10, none⟩ = some (.slice la' y.al.length lc') := v3 10 _ rfl
                  have c3_11 : w3.cell? ⟨w.heap.size, 11, none⟩ = some (.slice xa x.ts.length xc) := u3 11 _ rfl
                  have d3_11 : w3.cell? ⟨w.heap.size + 1, 11, none⟩ = some (.slice xa' y.ts.length xc') := v3 11 _ rfl
                  clear u3 v3
                  go_wp2_with fail
                  refine (H4.out _ HK4.out).mono ?_
                  rintro e w4 ⟨rfl, k4⟩
                  have HK5 := Lib.hid (below2_step HK4.out (by simp) k4)
                  clear k4
                  obtain ⟨u4, v4⟩ := box2 HK5.out
                  have c4_6 : w4.cell? ⟨w.heap.size, 6, none⟩ = some (.slice ta x.st.length tc) := u4 6 _ rfl
                  have d4_6 : w4.cell? ⟨w.heap.size + 1, 6, none⟩ = some (.slice ta' y.st.length tc') := v4 6 _ rfl
                  have c4_10 : w4.cell? ⟨w.heap.size, 10, none⟩ = some (.slice la x.al.length lc) := u4 10 _ rfl
                  have d4_10 : w4.cell? ⟨w.heap.size + 1, 10, none⟩ = some (.slice la' y.al.length lc') := v4 10 _ rfl
                  have c4_11 : w4.cell? ⟨w.heap.size, 11, none⟩ = some (.slice xa x.ts.length xc) := u4 11 _ rfl
                  have d4_11 : w4.cell? ⟨w.heap.size + 1, 11, none⟩ = some (.slice xa' y.ts.length xc') := v4 11 _ rfl
                  clear u4 v4
                  go_wp2_with fail
                  refine (H5.out _ HK5.out).mono ?_
                  rintro e w5 ⟨rfl, k5⟩
                  have HK6 := Lib.hid (below2_step HK5.out (by simp) k5)
                  clear k5
                  obtain ⟨u5, v5⟩ := box2 HK6.out
                  have c5_10 : w5.cell? ⟨w.heap.size, 10, none⟩ = some (.slice la x.al.length lc) := u5 10 _ rfl
                  have d5_10 : w5.cell? ⟨w.heap.size + 1, 10, none⟩ = some (.slice la' y.al.length lc') := v5 10 _ rfl
                  have c5_11 : w5.cell? ⟨w.heap.size, 11, none⟩ = some (.slice xa x.ts.length xc) := u5 11 _ rfl
                  have d5_11 : w5.cell? ⟨w.heap.size + 1, 11, none⟩ = some (.slice xa' y.ts.length xc') := v5 11 _ rfl
                  clear u5 v5
                  go_wp2_with fail
                  refine (H6.out _ HK6.out).mono ?_
                  rintro e w6 ⟨rfl, k6⟩
                  have HK7 := Lib.hid (below2_step HK6.out (by simp) k6)
                  clear k6
                  obtain ⟨u6, v6⟩ := box2 HK7.out
                  have c6_11 : w6.cell? ⟨w.heap.size, 11, none⟩ = some (.slice xa x.ts.length xc) := u6 11 _ rfl
                  have d6_11 : w6.cell? ⟨w.heap.size + 1, 11, none⟩ = some (.slice xa' y.ts.length xc') := v6 11 _ rfl
                  clear u6 v6
                  go_wp2_with fail
                  refine (H7.out _ HK7.out).mono ?_
                  rintro e w7 ⟨rfl, k7⟩
                  have HK8 := Lib.hid (below2_step HK7.out (by simp) k7)
                  clear k7
                  go_wp2_with fail
                  go_ret
                  exact ⟨by rw [HS.out]; rfl, HB.out.trans (HK8.out.mono (Nat.le_add_right _ 2))⟩
end Go.Proofs.YtojabkhfkbfeaaaGreatDoor
