/- Whether two trees are the same: the reference's Same. -/
import Derived.Test.YtojabkhfkbfeaaaDoorTreeRefHead
import Derived.Deep.RegionHeld3
namespace Go.Proofs.YtojabkhfkbfeaaaDoor
open Go.RowKit
set_option linter.unusedVariables false

theorem keepC {w w' : World} {p : Addr} {v : Value} (k : Below w.heap.size w w') (h : w.cell? p = some v) : w'.cell? p = some v := (k.cell (p := p) (block_lt_of_cell h)).trans h
theorem same_head (x y : Tr) : decide (x = y) = (headB x y && (decide ((x.al.length : Int) = (y.al.length : Int)) && (decide ((x.ts.length : Int) = (y.ts.length : Int)) && (decide (x.al = y.al) && decide (x.ts = y.ts))))) := by
  rw [decTr, headB, len_and x.al, len_and x.ts]
  generalize decide (x.n = y.n) = b0
  generalize decide (x.s = y.s) = b1
  generalize decide ((x.al.length : Int) = (y.al.length : Int)) = b4
  generalize decide ((x.ts.length : Int) = (y.ts.length : Int)) = b5
  generalize decide (x.ds = y.ds) = c2
  generalize decide (x.qs = y.qs) = c3
  generalize decide (x.fs = y.fs) = c4
  generalize decide (x.st = y.st) = c5
  generalize decide (x.al = y.al) = c6
  generalize decide (x.ts = y.ts) = c7
  cases b0 <;> cases b1 <;> cases b4 <;> cases b5 <;> cases c2 <;> cases c3 <;> simp [Bool.and_assoc]

set_option maxHeartbeats 8000000 in
set_option maxRecDepth 100000 in
theorem refSame_calls {Y Y' : TyT} {O O' : Prop} (x y : Tr) (cs cs' : List Value) (w : World) (hx : TrIn Y O w cs x) (hy : TrIn Y' O' w cs' y) :
    Calls Tryd.prog 7 #[.agg cs.toArray, .agg cs'.toArray] w fun e w' => e = .returned (.bool (decide (x = y))) ∧ Below w.heap.size w w' := by
  have hx0 := hx
  have hy0 := hy
  obtain ⟨⟨da, dc, qa, qc, fa, fc, ta, tc, la, lc, xa, xc, rfl, g1, g2, g3, g4, g5, g6⟩, _⟩ := hx
  obtain ⟨⟨da', dc', qa', qc', fa', fc', ta', tc', la', lc', xa', xc', rfl, g1', g2', g3', g4', g5', g6'⟩, _⟩ := hy
  have HB : Hid (Below w.heap.size w ((w.alloc (.cells #[.string x.n.t, .int .i64 x.n.l, .int .i64 x.n.c, .slice da x.ds.length dc, .slice qa x.qs.length qc, .slice fa x.fs.length fc, .slice ta x.st.length tc, .string x.s.t, .int .i64 x.s.l, .int .i64 x.s.c, .slice la x.al.length lc, .slice xa x.ts.length xc] 31)).alloc (.cells #[.string y.n.t, .int .i64 y.n.l, .int .i64 y.n.c, .slice da' y.ds.length dc', .slice qa' y.qs.length qc', .slice fa' y.fs.length fc', .slice ta' y.st.length tc', .string y.s.t, .int .i64 y.s.l, .int .i64 y.s.c, .slice la' y.al.length lc', .slice xa' y.ts.length xc'] 31))) := Lib.hid (((Below.refl w.heap.size w).alloc (Nat.le_refl _) _).alloc (by simp) _)
  have HK0 : Hid (Below (w.heap.size + 2) ((w.alloc (.cells #[.string x.n.t, .int .i64 x.n.l, .int .i64 x.n.c, .slice da x.ds.length dc, .slice qa x.qs.length qc, .slice fa x.fs.length fc, .slice ta x.st.length tc, .string x.s.t, .int .i64 x.s.l, .int .i64 x.s.c, .slice la x.al.length lc, .slice xa x.ts.length xc] 31)).alloc (.cells #[.string y.n.t, .int .i64 y.n.l, .int .i64 y.n.c, .slice da' y.ds.length dc', .slice qa' y.qs.length qc', .slice fa' y.fs.length fc', .slice ta' y.st.length tc', .string y.s.t, .int .i64 y.s.l, .int .i64 y.s.c, .slice la' y.al.length lc', .slice xa' y.ts.length xc'] 31)) ((w.alloc (.cells #[.string x.n.t, .int .i64 x.n.l, .int .i64 x.n.c, .slice da x.ds.length dc, .slice qa x.qs.length qc, .slice fa x.fs.length fc, .slice ta x.st.length tc, .string x.s.t, .int .i64 x.s.l, .int .i64 x.s.c, .slice la x.al.length lc, .slice xa x.ts.length xc] 31)).alloc (.cells #[.string y.n.t, .int .i64 y.n.l, .int .i64 y.n.c, .slice da' y.ds.length dc', .slice qa' y.qs.length qc', .slice fa' y.fs.length fc', .slice ta' y.st.length tc', .string y.s.t, .int .i64 y.s.l, .int .i64 y.s.c, .slice la' y.al.length lc', .slice xa' y.ts.length xc'] 31))) := Lib.hid (Below.refl _ _)
  have HS : Hid (decide (x = y) = (headB x y && (decide ((x.al.length : Int) = (y.al.length : Int)) && (decide ((x.ts.length : Int) = (y.ts.length : Int)) && (decide (x.al = y.al) && decide (x.ts = y.ts)))))) := Lib.hid (same_head x y)
  have H0 := Lib.hid (fun w1 (hb : Below (w.heap.size + 2) ((w.alloc (.cells #[.string x.n.t, .int .i64 x.n.l, .int .i64 x.n.c, .slice da x.ds.length dc, .slice qa x.qs.length qc, .slice fa x.fs.length fc, .slice ta x.st.length tc, .string x.s.t, .int .i64 x.s.l, .int .i64 x.s.c, .slice la x.al.length lc, .slice xa x.ts.length xc] 31)).alloc (.cells #[.string y.n.t, .int .i64 y.n.l, .int .i64 y.n.c, .slice da' y.ds.length dc', .slice qa' y.qs.length qc', .slice fa' y.fs.length fc', .slice ta' y.st.length tc', .string y.s.t, .int .i64 y.s.l, .int .i64 y.s.c, .slice la' y.al.length lc', .slice xa' y.ts.length xc'] 31)) w1) => refHead_calls (Y := Y) (Y' := Y') (O := O) (O' := O') x y [.string x.n.t, .int .i64 x.n.l, .int .i64 x.n.c, .slice da x.ds.length dc, .slice qa x.qs.length qc, .slice fa x.fs.length fc, .slice ta x.st.length tc, .string x.s.t, .int .i64 x.s.l, .int .i64 x.s.c, .slice la x.al.length lc, .slice xa x.ts.length xc] [.string y.n.t, .int .i64 y.n.l, .int .i64 y.n.c, .slice da' y.ds.length dc', .slice qa' y.qs.length qc', .slice fa' y.fs.length fc', .slice ta' y.st.length tc', .string y.s.t, .int .i64 y.s.l, .int .i64 y.s.c, .slice la' y.al.length lc', .slice xa' y.ts.length xc'] w1 (hx0.below (HB.out.trans (hb.mono (Nat.le_add_right _ 2)))) (hy0.below (HB.out.trans (hb.mono (Nat.le_add_right _ 2)))))
  have t1 := int_ne (x.al.length : Int) (y.al.length : Int)
  have t2 := int_ne (x.ts.length : Int) (y.ts.length : Int)
  have s0 := g1.small
  have s0' := g1'.small
  have G1 := Lib.hid g1
  have G1' := Lib.hid g1'
  have s1 := g2.small
  have s1' := g2'.small
  have G2 := Lib.hid g2
  have G2' := Lib.hid g2'
  have s2 := g3.small
  have s2' := g3'.small
  have G3 := Lib.hid g3
  have G3' := Lib.hid g3'
  have s3 := g4.small
  have s3' := g4'.small
  have G4 := Lib.hid g4
  have G4' := Lib.hid g4'
  have s4 := g5.small
  have s4' := g5'.small
  have G5 := Lib.hid g5
  have G5' := Lib.hid g5'
  have s5 := g6.small
  have s5' := g6'.small
  have G6 := Lib.hid g6
  have G6' := Lib.hid g6'
  have HBk : ∀ (w1 : World), Hid (Below (w.heap.size + 2) ((w.alloc (.cells #[.string x.n.t, .int .i64 x.n.l, .int .i64 x.n.c, .slice da x.ds.length dc, .slice qa x.qs.length qc, .slice fa x.fs.length fc, .slice ta x.st.length tc, .string x.s.t, .int .i64 x.s.l, .int .i64 x.s.c, .slice la x.al.length lc, .slice xa x.ts.length xc] 31)).alloc (.cells #[.string y.n.t, .int .i64 y.n.l, .int .i64 y.n.c, .slice da' y.ds.length dc', .slice qa' y.qs.length qc', .slice fa' y.fs.length fc', .slice ta' y.st.length tc', .string y.s.t, .int .i64 y.s.l, .int .i64 y.s.c, .slice la' y.al.length lc', .slice xa' y.ts.length xc'] 31)) w1) → Below w.heap.size w w1 := fun _ h => HB.out.trans (h.out.mono (Nat.le_add_right _ 2))
  have HBK := Lib.hid HBk
  clear HBk
  clear hx0 hy0 g1 g1' g2 g2' g3 g3' g4 g4' g5 g5' g6 g6'
  cases e0 : headB x y
  · rw [e0] at HS H0
    clear e0
    go_enter Tryd.func7, Tryd.ntmps7
    go_wp2_with fail
    refine (H0.out _ HK0.out).mono ?_
    rintro e w0 ⟨rfl, k0⟩
    have HK1 := Lib.hid (below2_step HK0.out (by simp) k0)
    clear k0
    go_wp2_with fail
    go_ret
    exact ⟨by rw [HS.out]; rfl, HBK.out _ HK1⟩
  · rw [e0] at HS H0
    clear e0
    cases e1 : decide ((x.al.length : Int) = (y.al.length : Int))
    · rw [e1, Bool.not_false] at t1
      rw [e1] at HS
      clear e1
      go_enter Tryd.func7, Tryd.ntmps7
      go_wp2_with fail
      refine (H0.out _ HK0.out).mono ?_
      rintro e w0 ⟨rfl, k0⟩
      have HK1 := Lib.hid (below2_step HK0.out (by simp) k0)
      clear k0
      obtain ⟨u0, v0⟩ := box2 HK1.out
      have c0_10 : w0.cell? ⟨w.heap.size, 10, none⟩ = some (.slice la x.al.length lc) := u0 10 _ rfl
      have d0_10 : w0.cell? ⟨w.heap.size + 1, 10, none⟩ = some (.slice la' y.al.length lc') := v0 10 _ rfl
      clear u0 v0
      go_wp2_with fail
      clear c0_10 d0_10
      go_ret
      exact ⟨by rw [HS.out]; rfl, HBK.out _ HK1⟩
    · rw [e1, Bool.not_true] at t1
      rw [e1] at HS
      have E1 := Lib.hid (len_dec e1)
      clear e1
      cases e2 : decide ((x.ts.length : Int) = (y.ts.length : Int))
      · rw [e2, Bool.not_false] at t2
        rw [e2] at HS
        clear e2
        go_enter Tryd.func7, Tryd.ntmps7
        go_wp2_with fail
        refine (H0.out _ HK0.out).mono ?_
        rintro e w0 ⟨rfl, k0⟩
        have HK1 := Lib.hid (below2_step HK0.out (by simp) k0)
        clear k0
        obtain ⟨u0, v0⟩ := box2 HK1.out
        have c0_10 : w0.cell? ⟨w.heap.size, 10, none⟩ = some (.slice la x.al.length lc) := u0 10 _ rfl
        have d0_10 : w0.cell? ⟨w.heap.size + 1, 10, none⟩ = some (.slice la' y.al.length lc') := v0 10 _ rfl
        have c0_11 : w0.cell? ⟨w.heap.size, 11, none⟩ = some (.slice xa x.ts.length xc) := u0 11 _ rfl
        have d0_11 : w0.cell? ⟨w.heap.size + 1, 11, none⟩ = some (.slice xa' y.ts.length xc') := v0 11 _ rfl
        clear u0 v0
        go_wp2_with fail
        clear c0_10 d0_10 c0_11 d0_11
        go_ret
        exact ⟨by rw [HS.out]; rfl, HBK.out _ HK1⟩
      · rw [e2, Bool.not_true] at t2
        rw [e2] at HS
        have E2 := Lib.hid (len_dec e2)
        clear e2
        go_enter Tryd.func7, Tryd.ntmps7
        go_wp2_with fail
        refine (H0.out _ HK0.out).mono ?_
        rintro e w0 ⟨rfl, k0⟩
        have HK1 := Lib.hid (below2_step HK0.out (by simp) k0)
        clear k0
        obtain ⟨u0, v0⟩ := box2 HK1.out
        have c0_10 : w0.cell? ⟨w.heap.size, 10, none⟩ = some (.slice la x.al.length lc) := u0 10 _ rfl
        have d0_10 : w0.cell? ⟨w.heap.size + 1, 10, none⟩ = some (.slice la' y.al.length lc') := v0 10 _ rfl
        have c0_11 : w0.cell? ⟨w.heap.size, 11, none⟩ = some (.slice xa x.ts.length xc) := u0 11 _ rfl
        have d0_11 : w0.cell? ⟨w.heap.size + 1, 11, none⟩ = some (.slice xa' y.ts.length xc') := v0 11 _ rfl
        clear u0 v0
        go_wp2_with fail
        clear c0_10 d0_10 c0_11 d0_11
        go_loopw [5] (fun i wr => ∃ (n : Nat), n ≤ x.al.length ∧ i = .int .i64 n ∧ Hid (x.al.take n = y.al.take n) ∧ Hid (Below (w.heap.size + 2) ((w.alloc (.cells #[.string x.n.t, .int .i64 x.n.l, .int .i64 x.n.c, .slice da x.ds.length dc, .slice qa x.qs.length qc, .slice fa x.fs.length fc, .slice ta x.st.length tc, .string x.s.t, .int .i64 x.s.l, .int .i64 x.s.c, .slice la x.al.length lc, .slice xa x.ts.length xc] 31)).alloc (.cells #[.string y.n.t, .int .i64 y.n.l, .int .i64 y.n.c, .slice da' y.ds.length dc', .slice qa' y.qs.length qc', .slice fa' y.fs.length fc', .slice ta' y.st.length tc', .string y.s.t, .int .i64 y.s.l, .int .i64 y.s.c, .slice la' y.al.length lc', .slice xa' y.ts.length xc'] 31)) wr)) (fun i _ => x.al.length - (intOf i).toNat)
        case atStart => exact ⟨0, Nat.zero_le _, rfl, Lib.hid rfl, HK1⟩
        case round =>
          obtain ⟨n, hn, rfl, HT, HL0⟩ := hrel
          obtain ⟨wr0, hwr⟩ : ∃ u, u = wr := ⟨_, rfl⟩
          subst hwr
          obtain ⟨u, v⟩ := box2 HL0.out
          have z0 : wr0.cell? ⟨w.heap.size, 10, none⟩ = some (.slice la x.al.length lc) := u 10 _ rfl
          have z1 : wr0.cell? ⟨w.heap.size + 1, 10, none⟩ = some (.slice la' y.al.length lc') := v 10 _ rfl
          clear u v
          by_cases h : n < x.al.length
          case neg =>
            have HX0 : Hid (decide (x.al = y.al) = true) := Lib.hid (decide_eq_true (take_allG HT.out (by omega) (by rw [← E1.out]; omega)))
            rw [HX0.out] at HS
            go_wp2_with fail
            clear z0 z1 HT
            go_loopw [6] (fun i wr => ∃ (n : Nat), n ≤ x.ts.length ∧ i = .int .i64 n ∧ Hid (x.ts.take n = y.ts.take n) ∧ Hid (Below (w.heap.size + 2) ((w.alloc (.cells #[.string x.n.t, .int .i64 x.n.l, .int .i64 x.n.c, .slice da x.ds.length dc, .slice qa x.qs.length qc, .slice fa x.fs.length fc, .slice ta x.st.length tc, .string x.s.t, .int .i64 x.s.l, .int .i64 x.s.c, .slice la x.al.length lc, .slice xa x.ts.length xc] 31)).alloc (.cells #[.string y.n.t, .int .i64 y.n.l, .int .i64 y.n.c, .slice da' y.ds.length dc', .slice qa' y.qs.length qc', .slice fa' y.fs.length fc', .slice ta' y.st.length tc', .string y.s.t, .int .i64 y.s.l, .int .i64 y.s.c, .slice la' y.al.length lc', .slice xa' y.ts.length xc'] 31)) wr)) (fun i _ => x.ts.length - (intOf i).toNat)
            case atStart => exact ⟨0, Nat.zero_le _, rfl, Lib.hid rfl, HL0⟩
            case round =>
              obtain ⟨n, hn, rfl, HT, HL1⟩ := hrel
              obtain ⟨wr1, hwr⟩ : ∃ u, u = wr := ⟨_, rfl⟩
              subst hwr
              obtain ⟨u, v⟩ := box2 HL1.out
              have z0 : wr1.cell? ⟨w.heap.size, 11, none⟩ = some (.slice xa x.ts.length xc) := u 11 _ rfl
              have z1 : wr1.cell? ⟨w.heap.size + 1, 11, none⟩ = some (.slice xa' y.ts.length xc') := v 11 _ rfl
              clear u v
              by_cases h : n < x.ts.length
              case neg =>
                have HX1 : Hid (decide (x.ts = y.ts) = true) := Lib.hid (decide_eq_true (take_allG HT.out (by omega) (by rw [← E2.out]; omega)))
                rw [HX1.out] at HS
                go_wp2_with fail
                clear z0 z1 HT
                go_ret
                exact ⟨by rw [HS.out]; rfl, HBK.out _ HL1⟩
              case pos =>
                obtain ⟨x1, hx⟩ := at_some (L := x.ts) rfl h
                obtain ⟨y1, hy⟩ := at_some (L := y.ts) rfl (show n < y.ts.length by rw [← E2.out]; exact h)
                have HW := Lib.hid (HBK.out _ HL1)
                obtain ⟨g, off, csx, e1, hg, _, hc, hrx, _⟩ := (G6.out.belowT HW.out).at' n x1 hx
                obtain ⟨g', off', csy, e2, hg', _, hd, hry, _⟩ := (G6'.out.belowT HW.out).at' n y1 hy
                have HRX := Lib.hid hrx
                have HRY := Lib.hid hry
                obtain ⟨oaQ, ocQ, naQ, ncQ, saQ, scQ, rfl, g1Q, g2Q, g3Q, g4Q⟩ := hrx
                obtain ⟨oaQ', ocQ', naQ', ncQ', saQ', scQ', rfl, g1Q', g2Q', g3Q', g4Q'⟩ := hry
                clear g1Q g1Q' g2Q g2Q' g3Q g3Q'
                have h2 : (n : Int) < (x.ts.length : Int) := by omega
                have h3 : (n : Int) < (y.ts.length : Int) := by rw [← E2.out]; omega
                have h4 : (0 : Int) ≤ (n : Int) := by omega
                rw [e1] at z0
                rw [e2] at z1
                have HE := Lib.hid (take_sameG hx hy HT.out)
                have HN := Lib.hid (ne_atG hx hy)
                have c0 : wr1.cell? ⟨g, off + n * 13, none⟩ = some (.string x1.f.t) := hc 0 _ rfl
                have c1 : wr1.cell? ⟨g, off + n * 13 + 1, none⟩ = some (.int .i64 x1.f.l) := hc 1 _ rfl
                have c2 : wr1.cell? ⟨g, off + n * 13 + 2, none⟩ = some (.int .i64 x1.f.c) := hc 2 _ rfl
                have c3 : wr1.cell? ⟨g, off + n * 13 + 3, none⟩ = some (.string x1.t.t) := hc 3 _ rfl
                have c4 : wr1.cell? ⟨g, off + n * 13 + 4, none⟩ = some (.int .i64 x1.t.l) := hc 4 _ rfl
                have c5 : wr1.cell? ⟨g, off + n * 13 + 5, none⟩ = some (.int .i64 x1.t.c) := hc 5 _ rfl
                have c6 : wr1.cell? ⟨g, off + n * 13 + 6, none⟩ = some (.string x1.on.n) := hc 6 _ rfl
                have c7 : wr1.cell? ⟨g, off + n * 13 + 7, none⟩ = some (.slice oaQ x1.on.ar.length ocQ) := hc 7 _ rfl
                have c8 : wr1.cell? ⟨g, off + n * 13 + 8, none⟩ = some (.int .i64 x1.on.l) := hc 8 _ rfl
                have c9 : wr1.cell? ⟨g, off + n * 13 + 9, none⟩ = some (.int .i64 x1.on.c) := hc 9 _ rfl
                have c10 : wr1.cell? ⟨g, off + n * 13 + 10, none⟩ = some (.slice naQ x1.ns.length ncQ) := hc 10 _ rfl
                have c11 : wr1.cell? ⟨g, off + n * 13 + 11, none⟩ = some (.int .i64 x1.g) := hc 11 _ rfl
                have c12 : wr1.cell? ⟨g, off + n * 13 + 12, none⟩ = some (.slice saQ x1.ss.length scQ) := hc 12 _ rfl
                have d0 : wr1.cell? ⟨g', off' + n * 13, none⟩ = some (.string y1.f.t) := hd 0 _ rfl
                have d1 : wr1.cell? ⟨g', off' + n * 13 + 1, none⟩ = some (.int .i64 y1.f.l) := hd 1 _ rfl
                have d2 : wr1.cell? ⟨g', off' + n * 13 + 2, none⟩ = some (.int .i64 y1.f.c) := hd 2 _ rfl
                have d3 : wr1.cell? ⟨g', off' + n * 13 + 3, none⟩ = some (.string y1.t.t) := hd 3 _ rfl
                have d4 : wr1.cell? ⟨g', off' + n * 13 + 4, none⟩ = some (.int .i64 y1.t.l) := hd 4 _ rfl
                have d5 : wr1.cell? ⟨g', off' + n * 13 + 5, none⟩ = some (.int .i64 y1.t.c) := hd 5 _ rfl
                have d6 : wr1.cell? ⟨g', off' + n * 13 + 6, none⟩ = some (.string y1.on.n) := hd 6 _ rfl
                have d7 : wr1.cell? ⟨g', off' + n * 13 + 7, none⟩ = some (.slice oaQ' y1.on.ar.length ocQ') := hd 7 _ rfl
                have d8 : wr1.cell? ⟨g', off' + n * 13 + 8, none⟩ = some (.int .i64 y1.on.l) := hd 8 _ rfl
                have d9 : wr1.cell? ⟨g', off' + n * 13 + 9, none⟩ = some (.int .i64 y1.on.c) := hd 9 _ rfl
                have d10 : wr1.cell? ⟨g', off' + n * 13 + 10, none⟩ = some (.slice naQ' y1.ns.length ncQ') := hd 10 _ rfl
                have d11 : wr1.cell? ⟨g', off' + n * 13 + 11, none⟩ = some (.int .i64 y1.g) := hd 11 _ rfl
                have d12 : wr1.cell? ⟨g', off' + n * 13 + 12, none⟩ = some (.slice saQ' y1.ss.length scQ') := hd 12 _ rfl
                clear hc hd hx hy e1 e2
                have HR := Lib.hid (And.intro z0 (And.intro z1 (And.intro c0 (And.intro c1 (And.intro c2 (And.intro c3 (And.intro c4 (And.intro c5 (And.intro c6 (And.intro c7 (And.intro c8 (And.intro c9 (And.intro c10 (And.intro c11 (And.intro c12 (And.intro d0 (And.intro d1 (And.intro d2 (And.intro d3 (And.intro d4 (And.intro d5 (And.intro d6 (And.intro d7 (And.intro d8 (And.intro d9 (And.intro d10 (And.intro d11 d12)))))))))))))))))))))))))))
                have H1 := Lib.hid (fun w1 (hb : Below wr1.heap.size wr1 w1) => refSameTs_calls x1 y1 _ _ w1 (rTs_below HRX.out hb) (rTs_below HRY.out hb))
                clear HRX HRY
                cases e : decide (x1 = y1)
                · have HX : Hid (decide (x.ts = y.ts) = false) := Lib.hid (decide_eq_false (HN.out (of_decide_eq_false e)))
                  rw [HX.out] at HS
                  rw [e] at H1
                  clear e
                  go_wp2_with fail
                  go_region_held3 (fun W9 => W9.cell? ⟨w.heap.size, 11, none⟩ = some (.slice (some ⟨g, off, none⟩) x.ts.length xc) ∧ W9.cell? ⟨w.heap.size + 1, 11, none⟩ = some (.slice (some ⟨g', off', none⟩) y.ts.length xc') ∧ W9.cell? ⟨g, off + n * 13, none⟩ = some (.string x1.f.t) ∧ W9.cell? ⟨g, off + n * 13 + 1, none⟩ = some (.int .i64 x1.f.l) ∧ W9.cell? ⟨g, off + n * 13 + 2, none⟩ = some (.int .i64 x1.f.c) ∧ W9.cell? ⟨g, off + n * 13 + 3, none⟩ = some (.string x1.t.t) ∧ W9.cell? ⟨g, off + n * 13 + 4, none⟩ = some (.int .i64 x1.t.l) ∧ W9.cell? ⟨g, off + n * 13 + 5, none⟩ = some (.int .i64 x1.t.c) ∧ W9.cell? ⟨g, off + n * 13 + 6, none⟩ = some (.string x1.on.n) ∧ W9.cell? ⟨g, off + n * 13 + 7, none⟩ = some (.slice oaQ x1.on.ar.length ocQ) ∧ W9.cell? ⟨g, off + n * 13 + 8, none⟩ = some (.int .i64 x1.on.l) ∧ W9.cell? ⟨g, off + n * 13 + 9, none⟩ = some (.int .i64 x1.on.c) ∧ W9.cell? ⟨g, off + n * 13 + 10, none⟩ = some (.slice naQ x1.ns.length ncQ) ∧ W9.cell? ⟨g, off + n * 13 + 11, none⟩ = some (.int .i64 x1.g) ∧ W9.cell? ⟨g, off + n * 13 + 12, none⟩ = some (.slice saQ x1.ss.length scQ) ∧ W9.cell? ⟨g', off' + n * 13, none⟩ = some (.string y1.f.t) ∧ W9.cell? ⟨g', off' + n * 13 + 1, none⟩ = some (.int .i64 y1.f.l) ∧ W9.cell? ⟨g', off' + n * 13 + 2, none⟩ = some (.int .i64 y1.f.c) ∧ W9.cell? ⟨g', off' + n * 13 + 3, none⟩ = some (.string y1.t.t) ∧ W9.cell? ⟨g', off' + n * 13 + 4, none⟩ = some (.int .i64 y1.t.l) ∧ W9.cell? ⟨g', off' + n * 13 + 5, none⟩ = some (.int .i64 y1.t.c) ∧ W9.cell? ⟨g', off' + n * 13 + 6, none⟩ = some (.string y1.on.n) ∧ W9.cell? ⟨g', off' + n * 13 + 7, none⟩ = some (.slice oaQ' y1.on.ar.length ocQ') ∧ W9.cell? ⟨g', off' + n * 13 + 8, none⟩ = some (.int .i64 y1.on.l) ∧ W9.cell? ⟨g', off' + n * 13 + 9, none⟩ = some (.int .i64 y1.on.c) ∧ W9.cell? ⟨g', off' + n * 13 + 10, none⟩ = some (.slice naQ' y1.ns.length ncQ') ∧ W9.cell? ⟨g', off' + n * 13 + 11, none⟩ = some (.int .i64 y1.g) ∧ W9.cell? ⟨g', off' + n * 13 + 12, none⟩ = some (.slice saQ' y1.ss.length scQ')) (first | exact HR.out | exact HR4.out) (first
                    | (go_at_call 22; refine (H1.out _ (Below.refl wr1.heap.size wr1).drew).mono ?_; rintro e w4 ⟨rfl, k4⟩; have HK4 := Lib.hid ((Below.refl wr1.heap.size wr1).drew.trans k4); have HR4 := Lib.hid (And.intro (keepC HK4.out z0) (And.intro (keepC HK4.out z1) (And.intro (keepC HK4.out c0) (And.intro (keepC HK4.out c1) (And.intro (keepC HK4.out c2) (And.intro (keepC HK4.out c3) (And.intro (keepC HK4.out c4) (And.intro (keepC HK4.out c5) (And.intro (keepC HK4.out c6) (And.intro (keepC HK4.out c7) (And.intro (keepC HK4.out c8) (And.intro (keepC HK4.out c9) (And.intro (keepC HK4.out c10) (And.intro (keepC HK4.out c11) (And.intro (keepC HK4.out c12) (And.intro (keepC HK4.out d0) (And.intro (keepC HK4.out d1) (And.intro (keepC HK4.out d2) (And.intro (keepC HK4.out d3) (And.intro (keepC HK4.out d4) (And.intro (keepC HK4.out d5) (And.intro (keepC HK4.out d6) (And.intro (keepC HK4.out d7) (And.intro (keepC HK4.out d8) (And.intro (keepC HK4.out d9) (And.intro (keepC HK4.out d10) (And.intro (keepC HK4.out d11) (keepC HK4.out d12))))))))))))))))))))))))))))))
                  go_wp2_with fail
                  go_ret
                  exact ⟨by rw [HS.out]; simp, HBK.out _ (Lib.hid (HL1.out.trans (HK4.out.mono (by have := HL1.out.size; simp at this; omega))))⟩
                · have HX := Lib.hid (HE.out (of_decide_eq_true e))
                  rw [e] at H1
                  clear e
                  go_wp2_with fail
                  go_region_held3 (fun W9 => W9.cell? ⟨w.heap.size, 11, none⟩ = some (.slice (some ⟨g, off, none⟩) x.ts.length xc) ∧ W9.cell? ⟨w.heap.size + 1, 11, none⟩ = some (.slice (some ⟨g', off', none⟩) y.ts.length xc') ∧ W9.cell? ⟨g, off + n * 13, none⟩ = some (.string x1.f.t) ∧ W9.cell? ⟨g, off + n * 13 + 1, none⟩ = some (.int .i64 x1.f.l) ∧ W9.cell? ⟨g, off + n * 13 + 2, none⟩ = some (.int .i64 x1.f.c) ∧ W9.cell? ⟨g, off + n * 13 + 3, none⟩ = some (.string x1.t.t) ∧ W9.cell? ⟨g, off + n * 13 + 4, none⟩ = some (.int .i64 x1.t.l) ∧ W9.cell? ⟨g, off + n * 13 + 5, none⟩ = some (.int .i64 x1.t.c) ∧ W9.cell? ⟨g, off + n * 13 + 6, none⟩ = some (.string x1.on.n) ∧ W9.cell? ⟨g, off + n * 13 + 7, none⟩ = some (.slice oaQ x1.on.ar.length ocQ) ∧ W9.cell? ⟨g, off + n * 13 + 8, none⟩ = some (.int .i64 x1.on.l) ∧ W9.cell? ⟨g, off + n * 13 + 9, none⟩ = some (.int .i64 x1.on.c) ∧ W9.cell? ⟨g, off + n * 13 + 10, none⟩ = some (.slice naQ x1.ns.length ncQ) ∧ W9.cell? ⟨g, off + n * 13 + 11, none⟩ = some (.int .i64 x1.g) ∧ W9.cell? ⟨g, off + n * 13 + 12, none⟩ = some (.slice saQ x1.ss.length scQ) ∧ W9.cell? ⟨g', off' + n * 13, none⟩ = some (.string y1.f.t) ∧ W9.cell? ⟨g', off' + n * 13 + 1, none⟩ = some (.int .i64 y1.f.l) ∧ W9.cell? ⟨g', off' + n * 13 + 2, none⟩ = some (.int .i64 y1.f.c) ∧ W9.cell? ⟨g', off' + n * 13 + 3, none⟩ = some (.string y1.t.t) ∧ W9.cell? ⟨g', off' + n * 13 + 4, none⟩ = some (.int .i64 y1.t.l) ∧ W9.cell? ⟨g', off' + n * 13 + 5, none⟩ = some (.int .i64 y1.t.c) ∧ W9.cell? ⟨g', off' + n * 13 + 6, none⟩ = some (.string y1.on.n) ∧ W9.cell? ⟨g', off' + n * 13 + 7, none⟩ = some (.slice oaQ' y1.on.ar.length ocQ') ∧ W9.cell? ⟨g', off' + n * 13 + 8, none⟩ = some (.int .i64 y1.on.l) ∧ W9.cell? ⟨g', off' + n * 13 + 9, none⟩ = some (.int .i64 y1.on.c) ∧ W9.cell? ⟨g', off' + n * 13 + 10, none⟩ = some (.slice naQ' y1.ns.length ncQ') ∧ W9.cell? ⟨g', off' + n * 13 + 11, none⟩ = some (.int .i64 y1.g) ∧ W9.cell? ⟨g', off' + n * 13 + 12, none⟩ = some (.slice saQ' y1.ss.length scQ')) (first | exact HR.out | exact HR4.out) (first
                    | (go_at_call 22; refine (H1.out _ (Below.refl wr1.heap.size wr1).drew).mono ?_; rintro e w4 ⟨rfl, k4⟩; have HK4 := Lib.hid ((Below.refl wr1.heap.size wr1).drew.trans k4); have HR4 := Lib.hid (And.intro (keepC HK4.out z0) (And.intro (keepC HK4.out z1) (And.intro (keepC HK4.out c0) (And.intro (keepC HK4.out c1) (And.intro (keepC HK4.out c2) (And.intro (keepC HK4.out c3) (And.intro (keepC HK4.out c4) (And.intro (keepC HK4.out c5) (And.intro (keepC HK4.out c6) (And.intro (keepC HK4.out c7) (And.intro (keepC HK4.out c8) (And.intro (keepC HK4.out c9) (And.intro (keepC HK4.out c10) (And.intro (keepC HK4.out c11) (And.intro (keepC HK4.out c12) (And.intro (keepC HK4.out d0) (And.intro (keepC HK4.out d1) (And.intro (keepC HK4.out d2) (And.intro (keepC HK4.out d3) (And.intro (keepC HK4.out d4) (And.intro (keepC HK4.out d5) (And.intro (keepC HK4.out d6) (And.intro (keepC HK4.out d7) (And.intro (keepC HK4.out d8) (And.intro (keepC HK4.out d9) (And.intro (keepC HK4.out d10) (And.intro (keepC HK4.out d11) (keepC HK4.out d12))))))))))))))))))))))))))))))
                  go_wp2_with fail
                  go_roundw
                  case rel => exact ⟨n + 1, h, by go_num, HX, Lib.hid (HL1.out.trans (HK4.out.mono (by have := HL1.out.size; simp at this; omega)))⟩
                  case measure => simp [intOf]; omega
          case pos =>
            obtain ⟨x1, hx⟩ := at_some (L := x.al) rfl h
            obtain ⟨y1, hy⟩ := at_some (L := y.al) rfl (show n < y.al.length by rw [← E1.out]; exact h)
            have HW := Lib.hid (HBK.out _ HL0)
            obtain ⟨g, off, csx, e1, hg, _, hc, hrx, _⟩ := (G5.out.belowS HW.out).at' n x1 hx
            obtain ⟨g', off', csy, e2, hg', _, hd, hry, _⟩ := (G5'.out.belowS HW.out).at' n y1 hy
            have HRX := Lib.hid hrx
            have HRY := Lib.hid hry
            obtain ⟨aQ, cQ, rfl, g1Q, _⟩ := hrx
            obtain ⟨aQ', cQ', rfl, g1Q', _⟩ := hry
            clear g1Q g1Q'
            have h2 : (n : Int) < (x.al.length : Int) := by omega
            have h3 : (n : Int) < (y.al.length : Int) := by rw [← E1.out]; omega
            have h4 : (0 : Int) ≤ (n : Int) := by omega
            rw [e1] at z0
            rw [e2] at z1
            have HE := Lib.hid (take_sameG hx hy HT.out)
            have HN := Lib.hid (ne_atG hx hy)
            have c0 : wr0.cell? ⟨g, off + n * 4, none⟩ = some (.string x1.n) := hc 0 _ rfl
            have c1 : wr0.cell? ⟨g, off + n * 4 + 1, none⟩ = some (.slice aQ x1.ar.length cQ) := hc 1 _ rfl
            have c2 : wr0.cell? ⟨g, off + n * 4 + 2, none⟩ = some (.int .i64 x1.l) := hc 2 _ rfl
            have c3 : wr0.cell? ⟨g, off + n * 4 + 3, none⟩ = some (.int .i64 x1.c) := hc 3 _ rfl
            have d0 : wr0.cell? ⟨g', off' + n * 4, none⟩ = some (.string y1.n) := hd 0 _ rfl
            have d1 : wr0.cell? ⟨g', off' + n * 4 + 1, none⟩ = some (.slice aQ' y1.ar.length cQ') := hd 1 _ rfl
            have d2 : wr0.cell? ⟨g', off' + n * 4 + 2, none⟩ = some (.int .i64 y1.l) := hd 2 _ rfl
            have d3 : wr0.cell? ⟨g', off' + n * 4 + 3, none⟩ = some (.int .i64 y1.c) := hd 3 _ rfl
            clear hc hd hx hy e1 e2
            have HR := Lib.hid (And.intro z0 (And.intro z1 (And.intro c0 (And.intro c1 (And.intro c2 (And.intro c3 (And.intro d0 (And.intro d1 (And.intro d2 d3)))))))))
            have H1 := Lib.hid (fun w1 (hb : Below wr0.heap.size wr0 w1) => refSameSy_calls x1 y1 _ _ w1 (rSy_below HRX.out hb) (rSy_below HRY.out hb))
            clear HRX HRY
            cases e : decide (x1 = y1)
            · have HX : Hid (decide (x.al = y.al) = false) := Lib.hid (decide_eq_false (HN.out (of_decide_eq_false e)))
              rw [HX.out] at HS
              rw [e] at H1
              clear e
              go_wp2_with fail
              go_region_held3 (fun W9 => W9.cell? ⟨w.heap.size, 10, none⟩ = some (.slice (some ⟨g, off, none⟩) x.al.length lc) ∧ W9.cell? ⟨w.heap.size + 1, 10, none⟩ = some (.slice (some ⟨g', off', none⟩) y.al.length lc') ∧ W9.cell? ⟨g, off + n * 4, none⟩ = some (.string x1.n) ∧ W9.cell? ⟨g, off + n * 4 + 1, none⟩ = some (.slice aQ x1.ar.length cQ) ∧ W9.cell? ⟨g, off + n * 4 + 2, none⟩ = some (.int .i64 x1.l) ∧ W9.cell? ⟨g, off + n * 4 + 3, none⟩ = some (.int .i64 x1.c) ∧ W9.cell? ⟨g', off' + n * 4, none⟩ = some (.string y1.n) ∧ W9.cell? ⟨g', off' + n * 4 + 1, none⟩ = some (.slice aQ' y1.ar.length cQ') ∧ W9.cell? ⟨g', off' + n * 4 + 2, none⟩ = some (.int .i64 y1.l) ∧ W9.cell? ⟨g', off' + n * 4 + 3, none⟩ = some (.int .i64 y1.c)) (first | exact HR.out | exact HR4.out) (first
                | (go_at_call 21; refine (H1.out _ (Below.refl wr0.heap.size wr0).drew).mono ?_; rintro e w4 ⟨rfl, k4⟩; have HK4 := Lib.hid ((Below.refl wr0.heap.size wr0).drew.trans k4); have HR4 := Lib.hid (And.intro (keepC HK4.out z0) (And.intro (keepC HK4.out z1) (And.intro (keepC HK4.out c0) (And.intro (keepC HK4.out c1) (And.intro (keepC HK4.out c2) (And.intro (keepC HK4.out c3) (And.intro (keepC HK4.out d0) (And.intro (keepC HK4.out d1) (And.intro (keepC HK4.out d2) (keepC HK4.out d3))))))))))))
              go_wp2_with fail
              go_ret
              exact ⟨by rw [HS.out]; simp, HBK.out _ (Lib.hid (HL0.out.trans (HK4.out.mono (by have := HL0.out.size; simp at this; omega))))⟩
            · have HX := Lib.hid (HE.out (of_decide_eq_true e))
              rw [e] at H1
              clear e
              go_wp2_with fail
              go_region_held3 (fun W9 => W9.cell? ⟨w.heap.size, 10, none⟩ = some (.slice (some ⟨g, off, none⟩) x.al.length lc) ∧ W9.cell? ⟨w.heap.size + 1, 10, none⟩ = some (.slice (some ⟨g', off', none⟩) y.al.length lc') ∧ W9.cell? ⟨g, off + n * 4, none⟩ = some (.string x1.n) ∧ W9.cell? ⟨g, off + n * 4 + 1, none⟩ = some (.slice aQ x1.ar.length cQ) ∧ W9.cell? ⟨g, off + n * 4 + 2, none⟩ = some (.int .i64 x1.l) ∧ W9.cell? ⟨g, off + n * 4 + 3, none⟩ = some (.int .i64 x1.c) ∧ W9.cell? ⟨g', off' + n * 4, none⟩ = some (.string y1.n) ∧ W9.cell? ⟨g', off' + n * 4 + 1, none⟩ = some (.slice aQ' y1.ar.length cQ') ∧ W9.cell? ⟨g', off' + n * 4 + 2, none⟩ = some (.int .i64 y1.l) ∧ W9.cell? ⟨g', off' + n * 4 + 3, none⟩ = some (.int .i64 y1.c)) (first | exact HR.out | exact HR4.out) (first
                | (go_at_call 21; refine (H1.out _ (Below.refl wr0.heap.size wr0).drew).mono ?_; rintro e w4 ⟨rfl, k4⟩; have HK4 := Lib.hid ((Below.refl wr0.heap.size wr0).drew.trans k4); have HR4 := Lib.hid (And.intro (keepC HK4.out z0) (And.intro (keepC HK4.out z1) (And.intro (keepC HK4.out c0) (And.intro (keepC HK4.out c1) (And.intro (keepC HK4.out c2) (And.intro (keepC HK4.out c3) (And.intro (keepC HK4.out d0) (And.intro (keepC HK4.out d1) (And.intro (keepC HK4.out d2) (keepC HK4.out d3))))))))))))
              go_wp2_with fail
              go_roundw
              case rel => exact ⟨n + 1, h, by go_num, HX, Lib.hid (HL0.out.trans (HK4.out.mono (by have := HL0.out.size; simp at this; omega)))⟩
              case measure => simp [intOf]; omega
end Go.Proofs.YtojabkhfkbfeaaaDoor
