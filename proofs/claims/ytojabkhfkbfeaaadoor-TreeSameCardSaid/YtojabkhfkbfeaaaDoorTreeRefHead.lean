/- The reference's sameHead: names, declarations, variables and states. -/
import Derived.Test.YtojabkhfkbfeaaaDoorTreeSameF
import Derived.Test.YtojabkhfkbfeaaaDoorTreeRefSameA
namespace Go.Proofs.YtojabkhfkbfeaaaDoor
open Go.RowKit
set_option linter.unusedVariables false

/-- Whether two trees have the same heads. -/
def headB (x y : Tr) : Bool := decide (x.n = y.n) && (decide (x.s = y.s) && (decide (x.ds = y.ds) && (decide (x.qs = y.qs) && (decide (x.fs = y.fs) && decide (x.st = y.st)))))
theorem head_lens (x y : Tr) : headB x y = (decide (x.n = y.n) && (decide (x.s = y.s) && (decide ((x.ds.length : Int) = (y.ds.length : Int)) && (decide ((x.qs.length : Int) = (y.qs.length : Int)) && (decide ((x.fs.length : Int) = (y.fs.length : Int)) && (decide ((x.st.length : Int) = (y.st.length : Int)) && (decide (x.ds = y.ds) && (decide (x.qs = y.qs) && (decide (x.fs = y.fs) && (decide (x.st = y.st))))))))))) := by
  unfold headB
  rw [len_and x.ds, len_and x.qs, len_and x.fs, len_and x.st]
  generalize decide (x.n = y.n) = b0
  generalize decide (x.s = y.s) = b1
  generalize decide ((x.ds.length : Int) = (y.ds.length : Int)) = b2
  generalize decide ((x.qs.length : Int) = (y.qs.length : Int)) = b3
  generalize decide ((x.fs.length : Int) = (y.fs.length : Int)) = b4
  generalize decide ((x.st.length : Int) = (y.st.length : Int)) = b5
  generalize decide (x.ds = y.ds) = c2
  generalize decide (x.qs = y.qs) = c3
  generalize decide (x.fs = y.fs) = c4
  generalize decide (x.st = y.st) = c5
  cases b0 <;> cases b1 <;> cases b2 <;> cases b3 <;> cases b4 <;> cases b5 <;> simp

set_option maxHeartbeats 8000000 in
set_option maxRecDepth 100000 in
theorem refHead_calls {Y Y' : TyT} {O O' : Prop} (x y : Tr) (cs cs' : List Value) (w : World) (hx : TrIn Y O w cs x) (hy : TrIn Y' O' w cs' y) :
    Calls Tryd.prog 20 #[.agg cs.toArray, .agg cs'.toArray] w fun e w' => e = .returned (.bool (headB x y)) ∧ Below w.heap.size w w' := by
  obtain ⟨⟨da, dc, qa, qc, fa, fc, ta, tc, la, lc, xa, xc, rfl, g1, g2, g3, g4, g5, g6⟩, _⟩ := hx
  obtain ⟨⟨da', dc', qa', qc', fa', fc', ta', tc', la', lc', xa', xc', rfl, g1', g2', g3', g4', g5', g6'⟩, _⟩ := hy
  have HB : Hid (Below w.heap.size w ((w.alloc (.cells #[.string x.n.t, .int .i64 x.n.l, .int .i64 x.n.c, .slice da x.ds.length dc, .slice qa x.qs.length qc, .slice fa x.fs.length fc, .slice ta x.st.length tc, .string x.s.t, .int .i64 x.s.l, .int .i64 x.s.c, .slice la x.al.length lc, .slice xa x.ts.length xc] 31)).alloc (.cells #[.string y.n.t, .int .i64 y.n.l, .int .i64 y.n.c, .slice da' y.ds.length dc', .slice qa' y.qs.length qc', .slice fa' y.fs.length fc', .slice ta' y.st.length tc', .string y.s.t, .int .i64 y.s.l, .int .i64 y.s.c, .slice la' y.al.length lc', .slice xa' y.ts.length xc'] 31))) := Lib.hid (((Below.refl w.heap.size w).alloc (Nat.le_refl _) _).alloc (by simp) _)
  have HK0 : Hid (Below (w.heap.size + 2) ((w.alloc (.cells #[.string x.n.t, .int .i64 x.n.l, .int .i64 x.n.c, .slice da x.ds.length dc, .slice qa x.qs.length qc, .slice fa x.fs.length fc, .slice ta x.st.length tc, .string x.s.t, .int .i64 x.s.l, .int .i64 x.s.c, .slice la x.al.length lc, .slice xa x.ts.length xc] 31)).alloc (.cells #[.string y.n.t, .int .i64 y.n.l, .int .i64 y.n.c, .slice da' y.ds.length dc', .slice qa' y.qs.length qc', .slice fa' y.fs.length fc', .slice ta' y.st.length tc', .string y.s.t, .int .i64 y.s.l, .int .i64 y.s.c, .slice la' y.al.length lc', .slice xa' y.ts.length xc'] 31)) ((w.alloc (.cells #[.string x.n.t, .int .i64 x.n.l, .int .i64 x.n.c, .slice da x.ds.length dc, .slice qa x.qs.length qc, .slice fa x.fs.length fc, .slice ta x.st.length tc, .string x.s.t, .int .i64 x.s.l, .int .i64 x.s.c, .slice la x.al.length lc, .slice xa x.ts.length xc] 31)).alloc (.cells #[.string y.n.t, .int .i64 y.n.l, .int .i64 y.n.c, .slice da' y.ds.length dc', .slice qa' y.qs.length qc', .slice fa' y.fs.length fc', .slice ta' y.st.length tc', .string y.s.t, .int .i64 y.s.l, .int .i64 y.s.c, .slice la' y.al.length lc', .slice xa' y.ts.length xc'] 31))) := Lib.hid (Below.refl _ _)
  have HS : Hid (headB x y = (decide (x.n = y.n) && (decide (x.s = y.s) && (decide ((x.ds.length : Int) = (y.ds.length : Int)) && (decide ((x.qs.length : Int) = (y.qs.length : Int)) && (decide ((x.fs.length : Int) = (y.fs.length : Int)) && (decide ((x.st.length : Int) = (y.st.length : Int)) && (decide (x.ds = y.ds) && (decide (x.qs = y.qs) && (decide (x.fs = y.fs) && (decide (x.st = y.st)))))))))))) := Lib.hid (head_lens x y)
  have q0 := eqInId x.n y.n
  have q1 := eqInId x.s y.s
  have t2 := int_ne (x.ds.length : Int) (y.ds.length : Int)
  have t3 := int_ne (x.qs.length : Int) (y.qs.length : Int)
  have t4 := int_ne (x.fs.length : Int) (y.fs.length : Int)
  have t5 := int_ne (x.st.length : Int) (y.st.length : Int)
  have qg := guardId
  have s0 := g1.small
  have s0' := g1'.small
  have G1 := Lib.hid g1
  have G1' := Lib.hid g1'
  have s1 := g2.small
  have s1' := g2'.small
  have G2 := Lib.hid g2
  have G2' := Lib.hid g2'
  have s2 := g3.small
  have s2' := g3'.small
  have G3 := Lib.hid g3
  have G3' := Lib.hid g3'
  have s3 := g4.small
  have s3' := g4'.small
  have G4 := Lib.hid g4
  have G4' := Lib.hid g4'
  have s4 := g5.small
  have s4' := g5'.small
  have G5 := Lib.hid g5
  have G5' := Lib.hid g5'
  have s5 := g6.small
  have s5' := g6'.small
  have G6 := Lib.hid g6
  have G6' := Lib.hid g6'
  have HBk : ∀ (w1 : World), Hid (Below (w.heap.size + 2) ((w.alloc (.cells #[.string x.n.t, .int .i64 x.n.l, .int .i64 x.n.c, .slice da x.ds.length dc, .slice qa x.qs.length qc, .slice fa x.fs.length fc, .slice ta x.st.length tc, .string x.s.t, .int .i64 x.s.l, .int .i64 x.s.c, .slice la x.al.length lc, .slice xa x.ts.length xc] 31)).alloc (.cells #[.string y.n.t, .int .i64 y.n.l, .int .i64 y.n.c, .slice da' y.ds.length dc', .slice qa' y.qs.length qc', .slice fa' y.fs.length fc', .slice ta' y.st.length tc', .string y.s.t, .int .i64 y.s.l, .int .i64 y.s.c, .slice la' y.al.length lc', .slice xa' y.ts.length xc'] 31)) w1) → Below w.heap.size w w1 := fun _ h => HB.out.trans (h.out.mono (Nat.le_add_right _ 2))
  have HBK := Lib.hid HBk
  clear HBk
  clear g1 g1' g2 g2' g3 g3' g4 g4' g5 g5' g6 g6'
  cases e0 : decide (x.n = y.n)
  · rw [e0] at q0 HS
    clear e0
    go_enter Tryd.func20, Tryd.ntmps20
    go_wp2_with fail
    go_ret
    exact ⟨by rw [HS.out]; rfl, HBK.out _ HK0⟩
  · rw [e0] at q0 HS
    clear e0
    cases e1 : decide (x.s = y.s)
    · rw [e1] at q1 HS
      clear e1
      go_enter Tryd.func20, Tryd.ntmps20
      go_wp2_with fail
      go_ret
      exact ⟨by rw [HS.out]; rfl, HBK.out _ HK0⟩
    · rw [e1] at q1 HS
      clear e1
      cases e2 : decide ((x.ds.length : Int) = (y.ds.length : Int))
      · rw [e2, Bool.not_false] at t2
        rw [e2] at HS
        clear e2
        go_enter Tryd.func20, Tryd.ntmps20
        go_wp2_with fail
        go_ret
        exact ⟨by rw [HS.out]; rfl, HBK.out _ HK0⟩
      · rw [e2, Bool.not_true] at t2
        rw [e2] at HS
        have E2 := Lib.hid (len_dec e2)
        clear e2
        cases e3 : decide ((x.qs.length : Int) = (y.qs.length : Int))
        · rw [e3, Bool.not_false] at t3
          rw [e3] at HS
          clear e3
          go_enter Tryd.func20, Tryd.ntmps20
          go_wp2_with fail
          go_ret
          exact ⟨by rw [HS.out]; rfl, HBK.out _ HK0⟩
        · rw [e3, Bool.not_true] at t3
          rw [e3] at HS
          have E3 := Lib.hid (len_dec e3)
          clear e3
          cases e4 : decide ((x.fs.length : Int) = (y.fs.length : Int))
          · rw [e4, Bool.not_false] at t4
            rw [e4] at HS
            clear e4
            go_enter Tryd.func20, Tryd.ntmps20
            go_wp2_with fail
            go_ret
            exact ⟨by rw [HS.out]; rfl, HBK.out _ HK0⟩
          · rw [e4, Bool.not_true] at t4
            rw [e4] at HS
            have E4 := Lib.hid (len_dec e4)
            clear e4
            cases e5 : decide ((x.st.length : Int) = (y.st.length : Int))
            · rw [e5, Bool.not_false] at t5
              rw [e5] at HS
              clear e5
              go_enter Tryd.func20, Tryd.ntmps20
              go_wp2_with fail
              go_ret
              exact ⟨by rw [HS.out]; rfl, HBK.out _ HK0⟩
            · rw [e5, Bool.not_true] at t5
              rw [e5] at HS
              have E5 := Lib.hid (len_dec e5)
              clear e5
              go_enter Tryd.func20, Tryd.ntmps20
              go_wp2_with fail
              go_loopw [5] (fun i wr => ∃ (n : Nat), n ≤ x.ds.length ∧ i = .int .i64 n ∧ Hid (x.ds.take n = y.ds.take n) ∧ Hid (Below (w.heap.size + 2) ((w.alloc (.cells #[.string x.n.t, .int .i64 x.n.l, .int .i64 x.n.c, .slice da x.ds.length dc, .slice qa x.qs.length qc, .slice fa x.fs.length fc, .slice ta x.st.length tc, .string x.s.t, .int .i64 x.s.l, .int .i64 x.s.c, .slice la x.al.length lc, .slice xa x.ts.length xc] 31)).alloc (.cells #[.string y.n.t, .int .i64 y.n.l, .int .i64 y.n.c, .slice da' y.ds.length dc', .slice qa' y.qs.length qc', .slice fa' y.fs.length fc', .slice ta' y.st.length tc', .string y.s.t, .int .i64 y.s.l, .int .i64 y.s.c, .slice la' y.al.length lc', .slice xa' y.ts.length xc'] 31)) wr)) (fun i _ => x.ds.length - (intOf i).toNat)
              case atStart => exact ⟨0, Nat.zero_le _, rfl, Lib.hid rfl, HK0⟩
              case round =>
                obtain ⟨n, hn, rfl, HT, HL0⟩ := hrel
                obtain ⟨wr0, hwr⟩ : ∃ u, u = wr := ⟨_, rfl⟩
                subst hwr
                obtain ⟨u, v⟩ := box2 HL0.out
                have z0 : wr0.cell? ⟨w.heap.size, 3, none⟩ = some (.slice da x.ds.length dc) := u 3 _ rfl
                have z1 : wr0.cell? ⟨w.heap.size + 1, 3, none⟩ = some (.slice da' y.ds.length dc') := v 3 _ rfl
                clear u v
                by_cases h : n < x.ds.length
                case neg =>
                  have HX0 : Hid (decide (x.ds = y.ds) = true) := Lib.hid (decide_eq_true (take_allG HT.out (by omega) (by rw [← E2.out]; omega)))
                  rw [HX0.out] at HS
                  go_wp2_with fail
                  clear z0 z1 HT
                  go_loopw [9] (fun i wr => ∃ (n : Nat), n ≤ x.qs.length ∧ i = .int .i64 n ∧ Hid (x.qs.take n = y.qs.take n) ∧ Hid (Below (w.heap.size + 2) ((w.alloc (.cells #[.string x.n.t, .int .i64 x.n.l, .int .i64 x.n.c, .slice da x.ds.length dc, .slice qa x.qs.length qc, .slice fa x.fs.length fc, .slice ta x.st.length tc, .string x.s.t, .int .i64 x.s.l, .int .i64 x.s.c, .slice la x.al.length lc, .slice xa x.ts.length xc] 31)).alloc (.cells #[.string y.n.t, .int .i64 y.n.l, .int .i64 y.n.c, .slice da' y.ds.length dc', .slice qa' y.qs.length qc', .slice fa' y.fs.length fc', .slice ta' y.st.length tc', .string y.s.t, .int .i64 y.s.l, .int .i64 y.s.c, .slice la' y.al.length lc', .slice xa' y.ts.length xc'] 31)) wr)) (fun i _ => x.qs.length - (intOf i).toNat)
                  case atStart => exact ⟨0, Nat.zero_le _, rfl, Lib.hid rfl, HL0⟩
                  case round =>
                    obtain ⟨n, hn, rfl, HT, HL1⟩ := hrel
                    obtain ⟨wr1, hwr⟩ : ∃ u, u = wr := ⟨_, rfl⟩
                    subst hwr
                    obtain ⟨u, v⟩ := box2 HL1.out
                    have z0 : wr1.cell? ⟨w.heap.size, 4, none⟩ = some (.slice qa x.qs.length qc) := u 4 _ rfl
                    have z1 : wr1.cell? ⟨w.heap.size + 1, 4, none⟩ = some (.slice qa' y.qs.length qc') := v 4 _ rfl
                    clear u v
                    by_cases h : n < x.qs.length
                    case neg =>
                      have HX1 : Hid (decide (x.qs = y.qs) = true) := Lib.hid (decide_eq_true (take_allG HT.out (by omega) (by rw [← E3.out]; omega)))
                      rw [HX1.out] at HS
                      go_wp2_with fail
                      clear z0 z1 HT
                      go_loopw [10] (fun i wr => ∃ (n : Nat), n ≤ x.fs.length ∧ i = .int .i64 n ∧ Hid (x.fs.take n = y.fs.take n) ∧ Hid (Below (w.heap.size + 2) ((w.alloc (.cells #[.string x.n.t, .int .i64 x.n.l, .int .i64 x.n.c, .slice da x.ds.length dc, .slice qa x.qs.length qc, .slice fa x.fs.length fc, .slice ta x.st.length tc, .string x.s.t, .int .i64 x.s.l, .int .i64 x.s.c, .slice la x.al.length lc, .slice xa x.ts.length xc] 31)).alloc (.cells #[.string y.n.t, .int .i64 y.n.l, .int .i64 y.n.c, .slice da' y.ds.length dc', .slice qa' y.qs.length qc', .slice fa' y.fs.length fc', .slice ta' y.st.length tc', .string y.s.t, .int .i64 y.s.l, .int .i64 y.s.c, .slice la' y.al.length lc', .slice xa' y.ts.length xc'] 31)) wr)) (fun i _ => x.fs.length - (intOf i).toNat)
                      case atStart => exact ⟨0, Nat.zero_le _, rfl, Lib.hid rfl, HL1⟩
                      case round =>
                        obtain ⟨n, hn, rfl, HT, HL2⟩ := hrel
                        obtain ⟨wr2, hwr⟩ : ∃ u, u = wr := ⟨_, rfl⟩
                        subst hwr
                        obtain ⟨u, v⟩ := box2 HL2.out
                        have z0 : wr2.cell? ⟨w.heap.size, 5, none⟩ = some (.slice fa x.fs.length fc) := u 5 _ rfl
                        have z1 : wr2.cell? ⟨w.heap.size + 1, 5, none⟩ = some (.slice fa' y.fs.length fc') := v 5 _ rfl
                        clear u v
                        by_cases h : n < x.fs.length
                        case neg =>
                          have HX2 : Hid (decide (x.fs = y.fs) = true) := Lib.hid (decide_eq_true (take_allG HT.out (by omega) (by rw [← E4.out]; omega)))
                          rw [HX2.out] at HS
                          go_wp2_with fail
                          clear z0 z1 HT
                          go_loopw [11] (fun i wr => ∃ (n : Nat), n ≤ x.st.length ∧ i = .int .i64 n ∧ Hid (x.st.take n = y.st.take n) ∧ Hid (Below (w.heap.size + 2) ((w.alloc (.cells #[.string x.n.t, .int .i64 x.n.l, .int .i64 x.n.c, .slice da x.ds.length dc, .slice qa x.qs.length qc, .slice fa x.fs.length fc, .slice ta x.st.length tc, .string x.s.t, .int .i64 x.s.l, .int .i64 x.s.c, .slice la x.al.length lc, .slice xa x.ts.length xc] 31)).alloc (.cells #[.string y.n.t, .int .i64 y.n.l, .int .i64 y.n.c, .slice da' y.ds.length dc', .slice qa' y.qs.length qc', .slice fa' y.fs.length fc', .slice ta' y.st.length tc', .string y.s.t, .int .i64 y.s.l, .int .i64 y.s.c, .slice la' y.al.length lc', .slice xa' y.ts.length xc'] 31)) wr)) (fun i _ => x.st.length - (intOf i).toNat)
                          case atStart => exact ⟨0, Nat.zero_le _, rfl, Lib.hid rfl, HL2⟩
                          case round =>
                            obtain ⟨n, hn, rfl, HT, HL3⟩ := hrel
                            obtain ⟨wr3, hwr⟩ : ∃ u, u = wr := ⟨_, rfl⟩
                            subst hwr
                            obtain ⟨u, v⟩ := box2 HL3.out
                            have z0 : wr3.cell? ⟨w.heap.size, 6, none⟩ = some (.slice ta x.st.length tc) := u 6 _ rfl
                            have z1 : wr3.cell? ⟨w.heap.size + 1, 6, none⟩ = some (.slice ta' y.st.length tc') := v 6 _ rfl
                            clear u v
                            by_cases h : n < x.st.length
                            case neg =>
                              have HX3 : Hid (decide (x.st = y.st) = true) := Lib.hid (decide_eq_true (take_allG HT.out (by omega) (by rw [← E5.out]; omega)))
                              rw [HX3.out] at HS
                              go_wp2_with fail
                              clear z0 z1 HT
                              go_ret
                              exact ⟨by rw [HS.out]; rfl, HBK.out _ HL3⟩
                            case pos =>
                              obtain ⟨x1, hx⟩ := at_some (L := x.st) rfl h
                              obtain ⟨y1, hy⟩ := at_some (L := y.st) rfl (show n < y.st.length by rw [← E5.out]; exact h)
                              have HW := Lib.hid (HBK.out _ HL3)
                              obtain ⟨g, off, e1, hg, hc, _⟩ := (G4.out.belowF HW.out).flat hx
                              obtain ⟨g', off', e2, hg', hd, _⟩ := (G4'.out.belowF HW.out).flat hy
                              have h2 : (n : Int) < (x.st.length : Int) := by omega
                              have h3 : (n : Int) < (y.st.length : Int) := by rw [← E5.out]; omega
                              have h4 : (0 : Int) ≤ (n : Int) := by omega
                              rw [e1] at z0
                              rw [e2] at z1
                              have HE := Lib.hid (take_sameG hx hy HT.out)
                              have HN := Lib.hid (ne_atG hx hy)
                              have c0 : wr3.cell? ⟨g, off + n * 5, none⟩ = some (.string x1.n.t) := hc 0 _ rfl
                              have c1 : wr3.cell? ⟨g, off + n * 5 + 1, none⟩ = some (.int .i64 x1.n.l) := hc 1 _ rfl
                              have c2 : wr3.cell? ⟨g, off + n * 5 + 2, none⟩ = some (.int .i64 x1.n.c) := hc 2 _ rfl
                              have c3 : wr3.cell? ⟨g, off + n * 5 + 3, none⟩ = some (.bool x1.nx) := hc 3 _ rfl
                              have c4 : wr3.cell? ⟨g, off + n * 5 + 4, none⟩ = some (.bool x1.ac) := hc 4 _ rfl
                              have d0 : wr3.cell? ⟨g', off' + n * 5, none⟩ = some (.string y1.n.t) := hd 0 _ rfl
                              have d1 : wr3.cell? ⟨g', off' + n * 5 + 1, none⟩ = some (.int .i64 y1.n.l) := hd 1 _ rfl
                              have d2 : wr3.cell? ⟨g', off' + n * 5 + 2, none⟩ = some (.int .i64 y1.n.c) := hd 2 _ rfl
                              have d3 : wr3.cell? ⟨g', off' + n * 5 + 3, none⟩ = some (.bool y1.nx) := hd 3 _ rfl
                              have d4 : wr3.cell? ⟨g', off' + n * 5 + 4, none⟩ = some (.bool y1.ac) := hd 4 _ rfl
                              clear hc hd hx hy e1 e2
                              have q1 := eqInSta x1 y1
                              have q2 := guardSta
                              by_cases hz : x1 = y1
                              · have HX := Lib.hid (HE.out hz)
                                rw [decide_eq_true hz] at q1
                                clear hz
                                go_wp2_with fail
                                go_quiet (fail)
                                go_wp2_with fail
                                go_roundw
                                case rel => exact ⟨n + 1, by omega, by go_num, HX, Lib.hid (below_drewN _ HL3.out)⟩
                                case measure => simp [intOf]; omega
                              · have HX : Hid (decide (x.st = y.st) = false) := Lib.hid (decide_eq_false (HN.out hz))
                                rw [decide_eq_false hz] at q1
                                clear hz
                                rw [HX.out] at HS
                                go_wp2_with fail
                                go_quiet (fail)
                                go_wp2_with fail
                                go_ret
                                exact ⟨by rw [HS.out]; simp, HBK.out _ (Lib.hid (below_drewN _ HL3.out))⟩
                        case pos =>
                          obtain ⟨x1, hx⟩ := at_some (L := x.fs) rfl h
                          obtain ⟨y1, hy⟩ := at_some (L := y.fs) rfl (show n < y.fs.length by rw [← E4.out]; exact h)
                          have HW := Lib.hid (HBK.out _ HL2)
                          obtain ⟨g, off, e1, hg, hc, _⟩ := (G3.out.belowF HW.out).flat hx
                          obtain ⟨g', off', e2, hg', hd, _⟩ := (G3'.out.belowF HW.out).flat hy
                          have h2 : (n : Int) < (x.fs.length : Int) := by omega
                          have h3 : (n : Int) < (y.fs.length : Int) := by rw [← E4.out]; omega
                          have h4 : (0 : Int) ≤ (n : Int) := by omega
                          rw [e1] at z0
                          rw [e2] at z1
                          have HE := Lib.hid (take_sameG hx hy HT.out)
                          have HN := Lib.hid (ne_atG hx hy)
                          have c0 : wr2.cell? ⟨g, off + n * 7, none⟩ = some (.string x1.n.t) := hc 0 _ rfl
                          have c1 : wr2.cell? ⟨g, off + n * 7 + 1, none⟩ = some (.int .i64 x1.n.l) := hc 1 _ rfl
                          have c2 : wr2.cell? ⟨g, off + n * 7 + 2, none⟩ = some (.int .i64 x1.n.c) := hc 2 _ rfl
                          have c3 : wr2.cell? ⟨g, off + n * 7 + 3, none⟩ = some (.int .i64 x1.v.k) := hc 3 _ rfl
                          have c4 : wr2.cell? ⟨g, off + n * 7 + 4, none⟩ = some (.int .i64 x1.v.i) := hc 4 _ rfl
                          have c5 : wr2.cell? ⟨g, off + n * 7 + 5, none⟩ = some (.string x1.v.s) := hc 5 _ rfl
                          have c6 : wr2.cell? ⟨g, off + n * 7 + 6, none⟩ = some (.bool x1.v.b) := hc 6 _ rfl
                          have d0 : wr2.cell? ⟨g', off' + n * 7, none⟩ = some (.string y1.n.t) := hd 0 _ rfl
                          have d1 : wr2.cell? ⟨g', off' + n * 7 + 1, none⟩ = some (.int .i64 y1.n.l) := hd 1 _ rfl
                          have d2 : wr2.cell? ⟨g', off' + n * 7 + 2, none⟩ = some (.int .i64 y1.n.c) := hd 2 _ rfl
                          have d3 : wr2.cell? ⟨g', off' + n * 7 + 3, none⟩ = some (.int .i64 y1.v.k) := hd 3 _ rfl
                          have d4 : wr2.cell? ⟨g', off' + n * 7 + 4, none⟩ = some (.int .i64 y1.v.i) := hd 4 _ rfl
                          have d5 : wr2.cell? ⟨g', off' + n * 7 + 5, none⟩ = some (.string y1.v.s) := hd 5 _ rfl
                          have d6 : wr2.cell? ⟨g', off' + n * 7 + 6, none⟩ = some (.bool y1.v.b) := hd 6 _ rfl
                          clear hc hd hx hy e1 e2
                          have q1 := eqInFr x1 y1
                          have q2 := guardFr
                          by_cases hz : x1 = y1
                          · have HX := Lib.hid (HE.out hz)
                            rw [decide_eq_true hz] at q1
                            clear hz
                            go_wp2_with fail
                            go_quiet (fail)
                            go_wp2_with fail
                            go_roundw
                            case rel => exact ⟨n + 1, by omega, by go_num, HX, Lib.hid (below_drewN _ HL2.out)⟩
                            case measure => simp [intOf]; omega
                          · have HX : Hid (decide (x.fs = y.fs) = false) := Lib.hid (decide_eq_false (HN.out hz))
                            rw [decide_eq_false hz] at q1
                            clear hz
                            rw [HX.out] at HS
                            go_wp2_with fail
                            go_quiet (fail)
                            go_wp2_with fail
                            go_ret
                            exact ⟨by rw [HS.out]; simp, HBK.out _ (Lib.hid (below_drewN _ HL2.out))⟩
                    case pos =>
                      obtain ⟨x1, hx⟩ := at_some (L := x.qs) rfl h
                      obtain ⟨y1, hy⟩ := at_some (L := y.qs) rfl (show n < y.qs.length by rw [← E3.out]; exact h)
                      have HW := Lib.hid (HBK.out _ HL1)
                      obtain ⟨g, off, e1, hg, hc, _⟩ := (G2.out.belowF HW.out).flat hx
                      obtain ⟨g', off', e2, hg', hd, _⟩ := (G2'.out.belowF HW.out).flat hy
                      have h2 : (n : Int) < (x.qs.length : Int) := by omega
                      have h3 : (n : Int) < (y.qs.length : Int) := by rw [← E3.out]; omega
                      have h4 : (0 : Int) ≤ (n : Int) := by omega
                      rw [e1] at z0
                      rw [e2] at z1
                      have HE := Lib.hid (take_sameG hx hy HT.out)
                      have HN := Lib.hid (ne_atG hx hy)
                      have c0 : wr1.cell? ⟨g, off + n * 5, none⟩ = some (.bool x1.all) := hc 0 _ rfl
                      have c1 : wr1.cell? ⟨g, off + n * 5 + 1, none⟩ = some (.string x1.n.t) := hc 1 _ rfl
                      have c2 : wr1.cell? ⟨g, off + n * 5 + 2, none⟩ = some (.int .i64 x1.n.l) := hc 2 _ rfl
                      have c3 : wr1.cell? ⟨g, off + n * 5 + 3, none⟩ = some (.int .i64 x1.n.c) := hc 3 _ rfl
                      have c4 : wr1.cell? ⟨g, off + n * 5 + 4, none⟩ = some (.int .i64 x1.t) := hc 4 _ rfl
                      have d0 : wr1.cell? ⟨g', off' + n * 5, none⟩ = some (.bool y1.all) := hd 0 _ rfl
                      have d1 : wr1.cell? ⟨g', off' + n * 5 + 1, none⟩ = some (.string y1.n.t) := hd 1 _ rfl
                      have d2 : wr1.cell? ⟨g', off' + n * 5 + 2, none⟩ = some (.int .i64 y1.n.l) := hd 2 _ rfl
                      have d3 : wr1.cell? ⟨g', off' + n * 5 + 3, none⟩ = some (.int .i64 y1.n.c) := hd 3 _ rfl
                      have d4 : wr1.cell? ⟨g', off' + n * 5 + 4, none⟩ = some (.int .i64 y1.t) := hd 4 _ rfl
                      clear hc hd hx hy e1 e2
                      have q1 := eqInQu x1 y1
                      have q2 := guardQu
                      by_cases hz : x1 = y1
                      · have HX := Lib.hid (HE.out hz)
                        rw [decide_eq_true hz] at q1
                        clear hz
                        go_wp2_with fail
                        go_quiet (fail)
                        go_wp2_with fail
                        go_roundw
                        case rel => exact ⟨n + 1, by omega, by go_num, HX, Lib.hid (below_drewN _ HL1.out)⟩
                        case measure => simp [intOf]; omega
                      · have HX : Hid (decide (x.qs = y.qs) = false) := Lib.hid (decide_eq_false (HN.out hz))
                        rw [decide_eq_false hz] at q1
                        clear hz
                        rw [HX.out] at HS
                        go_wp2_with fail
                        go_quiet (fail)
                        go_wp2_with fail
                        go_ret
                        exact ⟨by rw [HS.out]; simp, HBK.out _ (Lib.hid (below_drewN _ HL1.out))⟩
                case pos =>
                  obtain ⟨x1, hx⟩ := at_some (L := x.ds) rfl h
                  obtain ⟨y1, hy⟩ := at_some (L := y.ds) rfl (show n < y.ds.length by rw [← E2.out]; exact h)
                  have HW := Lib.hid (HBK.out _ HL0)
                  obtain ⟨g, off, csx, e1, hg, _, hc, ⟨a1, cx1, rfl, k1, _⟩, _⟩ := (G1.out.belowD HW.out).at' n x1 hx
                  obtain ⟨g', off', csy, e2, hg', _, hd, ⟨a2, cx2, rfl, k2, _⟩, _⟩ := (G1'.out.belowD HW.out).at' n y1 hy
                  have h2 : (n : Int) < (x.ds.length : Int) := by omega
                  have h3 : (n : Int) < (y.ds.length : Int) := by rw [← E2.out]; omega
                  have h4 : (0 : Int) ≤ (n : Int) := by omega
                  rw [e1] at z0
                  rw [e2] at z1
                  have HE := Lib.hid (take_sameG hx hy HT.out)
                  have HN := Lib.hid (ne_atG hx hy)
                  have c0 : wr0.cell? ⟨g, off + n * 4, none⟩ = some (.string x1.n.t) := hc 0 _ rfl
                  have c1 : wr0.cell? ⟨g, off + n * 4 + 1, none⟩ = some (.int .i64 x1.n.l) := hc 1 _ rfl
                  have c2 : wr0.cell? ⟨g, off + n * 4 + 2, none⟩ = some (.int .i64 x1.n.c) := hc 2 _ rfl
                  have c3 : wr0.cell? ⟨g, off + n * 4 + 3, none⟩ = some (.slice a1 x1.ks.length cx1) := hc 3 _ rfl
                  have d0 : wr0.cell? ⟨g', off' + n * 4, none⟩ = some (.string y1.n.t) := hd 0 _ rfl
                  have d1 : wr0.cell? ⟨g', off' + n * 4 + 1, none⟩ = some (.int .i64 y1.n.l) := hd 1 _ rfl
                  have d2 : wr0.cell? ⟨g', off' + n * 4 + 2, none⟩ = some (.int .i64 y1.n.c) := hd 2 _ rfl
                  have d3 : wr0.cell? ⟨g', off' + n * 4 + 3, none⟩ = some (.slice a2 y1.ks.length cx2) := hd 3 _ rfl
                  clear hc hd hx hy e1 e2
                  have K1 := Lib.hid k1
                  have K2 := Lib.hid k2
                  have s7 := k1.small
                  have s8 := k2.small
                  clear k1 k2
                  have HB2 : Hid (Below wr0.heap.size wr0 ((wr0.alloc (.cells #[.string x1.n.t, .int .i64 x1.n.l, .int .i64 x1.n.c, .slice a1 x1.ks.length cx1] 37)).alloc (.cells #[.string y1.n.t, .int .i64 y1.n.l, .int .i64 y1.n.c, .slice a2 y1.ks.length cx2] 37))) := Lib.hid (((Below.refl _ _).alloc (Nat.le_refl _) _).alloc (by simp) _)
                  have HBQ : Hid (∀ w1, Hid (Below (wr0.heap.size + 2) ((wr0.alloc (.cells #[.string x1.n.t, .int .i64 x1.n.l, .int .i64 x1.n.c, .slice a1 x1.ks.length cx1] 37)).alloc (.cells #[.string y1.n.t, .int .i64 y1.n.l, .int .i64 y1.n.c, .slice a2 y1.ks.length cx2] 37)) w1) → Below wr0.heap.size wr0 w1) := Lib.hid (fun _ h => HB2.out.trans (h.out.mono (Nat.le_add_right _ 2)))
                  have HBR : Hid (∀ w1, Hid (Below (wr0.heap.size + 2) ((wr0.alloc (.cells #[.string x1.n.t, .int .i64 x1.n.l, .int .i64 x1.n.c, .slice a1 x1.ks.length cx1] 37)).alloc (.cells #[.string y1.n.t, .int .i64 y1.n.l, .int .i64 y1.n.c, .slice a2 y1.ks.length cx2] 37)) w1) → Hid (Below (w.heap.size + 2) ((w.alloc (.cells #[.string x.n.t, .int .i64 x.n.l, .int .i64 x.n.c, .slice da x.ds.length dc, .slice qa x.qs.length qc, .slice fa x.fs.length fc, .slice ta x.st.length tc, .string x.s.t, .int .i64 x.s.l, .int .i64 x.s.c, .slice la x.al.length lc, .slice xa x.ts.length xc] 31)).alloc (.cells #[.string y.n.t, .int .i64 y.n.l, .int .i64 y.n.c, .slice da' y.ds.length dc', .slice qa' y.qs.length qc', .slice fa' y.fs.length fc', .slice ta' y.st.length tc', .string y.s.t, .int .i64 y.s.l, .int .i64 y.s.c, .slice la' y.al.length lc', .slice xa' y.ts.length xc'] 31)) w1)) := Lib.hid (fun _ h => Lib.hid (HL0.out.trans ((HBQ.out _ h).mono (by have := HL0.out.size; simp at this; omega))))
                  have HQ0 : Hid (Below (wr0.heap.size + 2) ((wr0.alloc (.cells #[.string x1.n.t, .int .i64 x1.n.l, .int .i64 x1.n.c, .slice a1 x1.ks.length cx1] 37)).alloc (.cells #[.string y1.n.t, .int .i64 y1.n.l, .int .i64 y1.n.c, .slice a2 y1.ks.length cx2] 37)) ((wr0.alloc (.cells #[.string x1.n.t, .int .i64 x1.n.l, .int .i64 x1.n.c, .slice a1 x1.ks.length cx1] 37)).alloc (.cells #[.string y1.n.t, .int .i64 y1.n.l, .int .i64 y1.n.c, .slice a2 y1.ks.length cx2] 37))) := Lib.hid (Below.refl _ _)
                  have HSx : Hid (decide (x1 = y1) = (decide (x1.n = y1.n) && (decide ((x1.ks.length : Int) = (y1.ks.length : Int)) && decide (x1.ks = y1.ks)))) := Lib.hid (by rw [decDe, len_and x1.ks]; cases decide (x1.n = y1.n) <;> cases decide ((x1.ks.length : Int) = (y1.ks.length : Int)) <;> cases decide (x1.ks = y1.ks) <;> rfl)
                  have l0 : w.heap.size < wr0.heap.size := by have := HL0.out.size; simp at this; omega
                  have l1 : w.heap.size + 1 < wr0.heap.size := by have := HL0.out.size; simp at this; omega
                  have q7 := eqInId x1.n y1.n
                  have t7 := int_ne (x1.ks.length : Int) (y1.ks.length : Int)
                  cases e7 : decide (x1.n = y1.n)
                  · rw [e7] at q7 HSx
                    clear e7
                    have HX : Hid (decide (x.ds = y.ds) = false) := Lib.hid (decide_eq_false (HN.out (of_decide_eq_false HSx.out)))
                    rw [HX.out] at HS
                    go_wp2_with fail
                    go_ret
                    exact ⟨by rw [HS.out]; simp, HBK.out _ (HBR.out _ HQ0)⟩
                  · rw [e7] at q7 HSx
                    clear e7
                    cases e8 : decide ((x1.ks.length : Int) = (y1.ks.length : Int))
                    · rw [e8, Bool.not_false] at t7
                      rw [e8] at HSx
                      clear e8
                      have HX : Hid (decide (x.ds = y.ds) = false) := Lib.hid (decide_eq_false (HN.out (of_decide_eq_false HSx.out)))
                      rw [HX.out] at HS
                      go_wp2_with fail
                      go_ret
                      exact ⟨by rw [HS.out]; simp, HBK.out _ (HBR.out _ HQ0)⟩
                    · rw [e8, Bool.not_true] at t7
                      rw [e8] at HSx
                      have EK := Lib.hid (len_dec e8)
                      clear e8
                      go_wp2_with fail
                      clear z0 z1 c0 d0 c1 d1 c2 d2 c3 d3
                      go_loopw [8] (fun i wi => ∃ (m : Nat), m ≤ x1.ks.length ∧ i = .int .i64 m ∧ Hid (x1.ks.take m = y1.ks.take m) ∧ Hid (Below (wr0.heap.size + 2) ((wr0.alloc (.cells #[.string x1.n.t, .int .i64 x1.n.l, .int .i64 x1.n.c, .slice a1 x1.ks.length cx1] 37)).alloc (.cells #[.string y1.n.t, .int .i64 y1.n.l, .int .i64 y1.n.c, .slice a2 y1.ks.length cx2] 37)) wi)) (fun i _ => x1.ks.length - (intOf i).toNat)
                      case atStart => exact ⟨0, Nat.zero_le _, rfl, Lib.hid rfl, HQ0⟩
                      case round =>
                        obtain ⟨m, hm, rfl, HTi, HQ⟩ := hrel
                        obtain ⟨u, v⟩ := box2 HQ.out
                        have z0 := u 3 _ rfl
                        have z1 := v 3 _ rfl
                        clear u v
                        by_cases hm2 : m < x1.ks.length
                        case neg =>
                          have HX := Lib.hid (HE.out (of_decide_eq_true (by rw [HSx.out, decide_eq_true (take_allG HTi.out (by omega) (by rw [← EK.out]; omega))]; rfl)))
                          go_wp2_with fail
                          go_roundw
                          case rel => exact ⟨n + 1, h, by go_num, HX, HBR.out _ HQ⟩
                          case measure => simp [intOf]; omega
                        case pos =>
                          obtain ⟨x2, hx⟩ := at_some (L := x1.ks) rfl hm2
                          obtain ⟨y2, hy⟩ := at_some (L := y1.ks) rfl (show m < y1.ks.length by rw [← EK.out]; exact hm2)
                          have HW2 := Lib.hid (HBQ.out _ HQ)
                          obtain ⟨g2, off2, e1, hg2, hc, _⟩ := (K1.out.belowF HW2.out).flat hx
                          obtain ⟨g2', off2', e2, hg2', hd, _⟩ := (K2.out.belowF HW2.out).flat hy
                          have h5 : (m : Int) < (x1.ks.length : Int) := by omega
                          have h6 : (m : Int) < (y1.ks.length : Int) := by rw [← EK.out]; omega
                          have h7 : (0 : Int) ≤ (m : Int) := by omega
                          rw [e1] at z0
                          rw [e2] at z1
                          have HEi := Lib.hid (take_sameG hx hy HTi.out)
                          have HNi := Lib.hid (ne_atG hx hy)
                          have c0 := hc 0 _ rfl
                          have d0 := hd 0 _ rfl
                          rw [Nat.mul_one, Nat.add_zero] at c0 d0
                          clear hc hd hx hy e1 e2
                          have t1 := int_ne x2 y2
                          by_cases hz : x2 = y2
                          · have HX := Lib.hid (HEi.out hz)
                            rw [decide_eq_true hz, Bool.not_true] at t1
                            clear hz
                            go_wp2_with fail
                            go_quiet (fail)
                            go_wp2_with fail
                            go_roundw
                            case rel => exact ⟨m + 1, by omega, by go_num, HX, Lib.hid (below_drewN _ HQ.out)⟩
                            case measure => simp [intOf]; omega
                          · have HXi : Hid (decide (x1.ks = y1.ks) = false) := Lib.hid (decide_eq_false (HNi.out hz))
                            rw [decide_eq_false hz, Bool.not_false] at t1
                            rw [HXi.out] at HSx
                            clear hz
                            have HX : Hid (decide (x.ds = y.ds) = false) := Lib.hid (decide_eq_false (HN.out (of_decide_eq_false HSx.out)))
                            rw [HX.out] at HS
                            go_wp2_with fail
                            go_quiet (fail)
                            go_wp2_with fail
                            go_ret
                            exact ⟨by rw [HS.out]; simp, HBK.out _ (HBR.out _ (Lib.hid (below_drewN _ HQ.out)))⟩
end Go.Proofs.YtojabkhfkbfeaaaDoor
