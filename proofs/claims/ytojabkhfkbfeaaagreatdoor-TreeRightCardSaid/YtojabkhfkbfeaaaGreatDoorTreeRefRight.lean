/- Which trees may be, by the reference: Right. -/
import Derived.Test.YtojabkhfkbfeaaaGreatDoorLowTrSize
import Derived.Test.YtojabkhfkbfeaaaGreatDoorLowTrPlain
import Derived.Test.YtojabkhfkbfeaaaGreatDoorTreeAllB
namespace Go.Proofs.YtojabkhfkbfeaaaGreatDoor
open Go.RowKit
set_option linter.unusedVariables false

theorem rright_eq (s : Tr) : rightT s = ((nameB s.n.t && nameB s.s.t) && (s.ds.all okD && (s.qs.all okQ && (s.fs.all okF && (s.st.all okSt && (s.al.all symB && (s.ts.all transB && true))))))) := by
  unfold rightT
  simp only [Bool.and_assoc, Bool.and_true]
  rfl
theorem r_zero {α : Type} {L : List α} {f : α → Bool} {R r Z : Bool} (h : R = (r && (L.all f && Z))) : R = (r && ((L.drop 0).all f && Z)) := h
theorem r_skip {α : Type} {L : List α} {f : α → Bool} {R Z : Bool} {n : Nat} (h : R = (false && ((L.drop n).all f && Z))) : R = (false && ((L.drop (n + 1)).all f && Z)) := h
theorem r_step {α : Type} {L : List α} {f : α → Bool} {R Z b : Bool} {n : Nat} {y : α} (h : R = (true && ((L.drop n).all f && Z))) (hx : L[n]? = some y) (e : f y = b) : R = (b && ((L.drop (n + 1)).all f && Z)) := by
  rw [h, all_drop hx, List.all_cons, e, Bool.true_and, Bool.and_assoc]
theorem r_end {α : Type} {L : List α} {f : α → Bool} {R r Z : Bool} {n : Nat} (h : R = (r && ((L.drop n).all f && Z))) (hn : L.length ≤ n) : R = (r && Z) := by
  rw [h, List.drop_eq_nil_iff.2 hn, List.all_nil, Bool.true_and]
theorem d_skip {L : List De} {R Z : Bool} {n : Nat} {y : De} (h : R = (false && ((L.drop n).all okD && Z))) : R = (false && ((y.ks.drop 0).all kindB && ((L.drop (n + 1)).all okD && Z))) := h
theorem d_step {L : List De} {R Z b : Bool} {n : Nat} {y : De} (h : R = (true && ((L.drop n).all okD && Z))) (hx : L[n]? = some y) (e : nameB y.n.t = b) : R = (b && ((y.ks.drop 0).all kindB && ((L.drop (n + 1)).all okD && Z))) := by
  rw [h, all_drop hx, List.all_cons, Bool.true_and, okD, e, List.drop_zero, Bool.and_assoc, Bool.and_assoc]
set_option maxHeartbeats 40000000 in
set_option maxRecDepth 100000 in
theorem refRight_calls {Y : TyT} {O : Prop} (x : Tr) (cs : List Value) (w : World) (hr : TrIn Y O w cs x) (hs : SmT x) :
    Calls Tryz.prog 6 #[.agg cs.toArray] w fun e w' => e = .returned (.bool (rightT x)) ∧ Below w.heap.size w w' := by
  obtain ⟨⟨da, dc, qa, qc, fa, fc, ta, tc, la, lc, xa, xc, rfl, g0, g1, g2, g3, g4, g5⟩, hok⟩ := hr
  have HS := Lib.hid (rright_eq x)
  have HB : Hid (Below w.heap.size w (w.alloc (.cells #[.string x.n.t, .int .i64 x.n.l, .int .i64 x.n.c, .slice da x.ds.length dc, .slice qa x.qs.length qc, .slice fa x.fs.length fc, .slice ta x.st.length tc, .string x.s.t, .int .i64 x.s.l, .int .i64 x.s.c, .slice la x.al.length lc, .slice xa x.ts.length xc] 31))) := Lib.hid ((Below.refl w.heap.size w).alloc (Nat.le_refl _) _)
  have HK0 : Hid (Below (w.heap.size + 1) (w.alloc (.cells #[.string x.n.t, .int .i64 x.n.l, .int .i64 x.n.c, .slice da x.ds.length dc, .slice qa x.qs.length qc, .slice fa x.fs.length fc, .slice ta x.st.length tc, .string x.s.t, .int .i64 x.s.l, .int .i64 x.s.c, .slice la x.al.length lc, .slice xa x.ts.length xc] 31)) (w.alloc (.cells #[.string x.n.t, .int .i64 x.n.l, .int .i64 x.n.c, .slice da x.ds.length dc, .slice qa x.qs.length qc, .slice fa x.fs.length fc, .slice ta x.st.length tc, .string x.s.t, .int .i64 x.s.l, .int .i64 x.s.c, .slice la x.al.length lc, .slice xa x.ts.length xc] 31))) := Lib.hid (Below.refl _ _)
  have HBK : Hid (∀ w1, Hid (Below (w.heap.size + 1) (w.alloc (.cells #[.string x.n.t, .int .i64 x.n.l, .int .i64 x.n.c, .slice da x.ds.length dc, .slice qa x.qs.length qc, .slice fa x.fs.length fc, .slice ta x.st.length tc, .string x.s.t, .int .i64 x.s.l, .int .i64 x.s.c, .slice la x.al.length lc, .slice xa x.ts.length xc] 31)) w1) → Below w.heap.size w w1) := Lib.hid (fun _ h => HB.out.trans (h.out.mono (Nat.le_succ _)))
  have HNn := Lib.hid (fun w1 => refName_calls x.n.t w1 hok.1)
  have HNs := Lib.hid (fun w1 => refName_calls x.s.t w1 hok.2)
  have HSM := Lib.hid hs
  have s0 := g0.small
  have G0 := Lib.hid g0
  have s1 := g1.small
  have G1 := Lib.hid g1
  have s2 := g2.small
  have G2 := Lib.hid g2
  have s3 := g3.small
  have G3 := Lib.hid g3
  have s4 := g4.small
  have G4 := Lib.hid g4
  have s5 := g5.small
  have G5 := Lib.hid g5
  clear g0 g1 g2 g3 g4 g5 hok hs
  cases e0 : nameB x.n.t
  case false =>
    rw [e0] at HS HNn
    have HT_ : Hid (rightT x = (false && (x.ds.all okD && (x.qs.all okQ && (x.fs.all okF && (x.st.all okSt && (x.al.all symB && (x.ts.all transB && true)))))))) := Lib.hid (HS.out.trans rfl)
    go_enter Tryz.func6, Tryz.ntmps6
    go_wp2_with fail
    refine (HNn.out _).mono ?_
    rintro e w1 ⟨rfl, k⟩
    have HK1 := Lib.hid (below1_step HK0.out (by simp) k)
    clear k
    go_wp2_with fail
    go_loopw [3, 4] (fun ok i wr => ∃ (n : Nat) (r : Bool), n ≤ x.ds.length ∧ i = .int .i64 n ∧ ok = .bool r ∧ Hid (rightT x = (r && ((x.ds.drop n).all okD && (x.qs.all okQ && (x.fs.all okF && (x.st.all okSt && (x.al.all symB && (x.ts.all transB && true)))))))) ∧ Hid (Below (w.heap.size + 1) (w.alloc (.cells #[.string x.n.t, .int .i64 x.n.l, .int .i64 x.n.c, .slice da x.ds.length dc, .slice qa x.qs.length qc, .slice fa x.fs.length fc, .slice ta x.st.length tc, .string x.s.t, .int .i64 x.s.l, .int .i64 x.s.c, .slice la x.al.length lc, .slice xa x.ts.length xc] 31)) wr)) (fun _ i _ => x.ds.length - (intOf i).toNat)
    case atStart => exact ⟨0, false, Nat.zero_le _, rfl, rfl, Lib.hid (r_zero HT_.out), HK1⟩
    case round =>
      obtain ⟨n, r0, hn, rfl, rfl, HT0, HL0⟩ := hrel
      obtain ⟨v0, hwr⟩ : ∃ u, u = wr := ⟨_, rfl⟩
      subst hwr
      have z := box1 HL0.out 3 _ rfl
      by_cases h : n < x.ds.length
      case neg =>
        have HX0 := Lib.hid (r_end HT0.out (by omega))
        go_wp2_with fail
        clear z HT0 h hn
        go_wp2_with fail
        go_loopw [3, 6] (fun ok i wr => ∃ (n : Nat) (r : Bool), n ≤ x.qs.length ∧ i = .int .i64 n ∧ ok = .bool r ∧ Hid (rightT x = (r && ((x.qs.drop n).all okQ && (x.fs.all okF && (x.st.all okSt && (x.al.all symB && (x.ts.all transB && true))))))) ∧ Hid (Below (w.heap.size + 1) (w.alloc (.cells #[.string x.n.t, .int .i64 x.n.l, .int .i64 x.n.c, .slice da x.ds.length dc, .slice qa x.qs.length qc, .slice fa x.fs.length fc, .slice ta x.st.length tc, .string x.s.t, .int .i64 x.s.l, .int .i64 x.s.c, .slice la x.al.length lc, .slice xa x.ts.length xc] 31)) wr)) (fun _ i _ => x.qs.length - (intOf i).toNat)
        case atStart => exact ⟨0, r0, Nat.zero_le _, rfl, rfl, Lib.hid (r_zero HX0.out), HL0⟩
        case round =>
          obtain ⟨n, r1, hn, rfl, rfl, HT1, HL1⟩ := hrel
          obtain ⟨v1, hwr⟩ : ∃ u, u = wr := ⟨_, rfl⟩
          subst hwr
          have z := box1 HL1.out 4 _ rfl
          by_cases h : n < x.qs.length
          case neg =>
            have HX1 := Lib.hid (r_end HT1.out (by omega))
            go_wp2_with fail
            clear z HT1 h hn
            go_wp2_with fail
            go_loopw [3, 7] (fun ok i wr => ∃ (n : Nat) (r : Bool), n ≤ x.fs.length ∧ i = .int .i64 n ∧ ok = .bool r ∧ Hid (rightT x = (r && ((x.fs.drop n).all okF && (x.st.all okSt && (x.al.all symB && (x.ts.all transB && true)))))) ∧ Hid (Below (w.heap.size + 1) (w.alloc (.cells #[.string x.n.t, .int .i64 x.n.l, .int .i64 x.n.c, .slice da x.ds.length dc, .slice qa x.qs.length qc, .slice fa x.fs.length fc, .slice ta x.st.length tc, .string x.s.t, .int .i64 x.s.l, .int .i64 x.s.c, .slice la x.al.length lc, .slice xa x.ts.length xc] 31)) wr)) (fun _ i _ => x.fs.length - (intOf i).toNat)
            case atStart => exact ⟨0, r1, Nat.zero_le _, rfl, rfl, Lib.hid (r_zero HX1.out), HL1⟩
            case round =>
              obtain ⟨n, r2, hn, rfl, rfl, HT2, HL2⟩ := hrel
              obtain ⟨v2, hwr⟩ : ∃ u, u = wr := ⟨_, rfl⟩
              subst hwr
              have z := box1 HL2.out 5 _ rfl
              by_cases h : n < x.fs.length
              case neg =>
                have HX2 := Lib.hid (r_end HT2.out (by omega))
                go_wp2_with fail
                clear z HT2 h hn
                go_wp2_with fail
                go_loopw [3, 8] (fun ok i wr => ∃ (n : Nat) (r : Bool), n ≤ x.st.length ∧ i = .int .i64 n ∧ ok = .bool r ∧ Hid (rightT x = (r && ((x.st.drop n).all okSt && (x.al.all symB && (x.ts.all transB && true))))) ∧ Hid (Below (w.heap.size + 1) (w.alloc (.cells #[.string x.n.t, .int .i64 x.n.l, .int .i64 x.n.c, .slice da x.ds.length dc, .slice qa x.qs.length qc, .slice fa x.fs.length fc, .slice ta x.st.length tc, .string x.s.t, .int .i64 x.s.l, .int .i64 x.s.c, .slice la x.al.length lc, .slice xa x.ts.length xc] 31)) wr)) (fun _ i _ => x.st.length - (intOf i).toNat)
                case atStart => exact ⟨0, r2, Nat.zero_le _, rfl, rfl, Lib.hid (r_zero HX2.out), HL2⟩
                case round =>
                  obtain ⟨n, r3, hn, rfl, rfl, HT3, HL3⟩ := hrel
                  obtain ⟨v3, hwr⟩ : ∃ u, u = wr := ⟨_, rfl⟩
                  subst hwr
                  have z := box1 HL3.out 6 _ rfl
                  by_cases h : n < x.st.length
                  case neg =>
                    have HX3 := Lib.hid (r_end HT3.out (by omega))
                    go_wp2_with fail
                    clear z HT3 h hn
                    go_wp2_with fail
                    go_loopw [3, 9] (fun ok i wr => ∃ (n : Nat) (r : Bool), n ≤ x.al.length ∧ i = .int .i64 n ∧ ok = .bool r ∧ Hid (rightT x = (r && ((x.al.drop n).all symB && (x.ts.all transB && true)))) ∧ Hid (Below (w.heap.size + 1) (w.alloc (.cells #[.string x.n.t, .int .i64 x.n.l, .int .i64 x.n.c, .slice da x.ds.length dc, .slice qa x.qs.length qc, .slice fa x.fs.length fc, .slice ta x.st.length tc, .string x.s.t, .int .i64 x.s.l, .int .i64 x.s.c, .slice la x.al.length lc, .slice xa x.ts.length xc] 31)) wr)) (fun _ i _ => x.al.length - (intOf i).toNat)
                    case atStart => exact ⟨0, r3, Nat.zero_le _, rfl, rfl, Lib.hid (r_zero HX3.out), HL3⟩
                    case round =>
                      obtain ⟨n, r4, hn, rfl, rfl, HT4, HL4⟩ := hrel
                      obtain ⟨v4, hwr⟩ : ∃ u, u = wr := ⟨_, rfl⟩
                      subst hwr
                      have z := box1 HL4.out 10 _ rfl
                      by_cases h : n < x.al.length
                      case neg =>
                        have HX4 := Lib.hid (r_end HT4.out (by omega))
                        go_wp2_with fail
                        clear z HT4 h hn
                        go_wp2_with fail
                        go_loopw [3, 10] (fun ok i wr => ∃ (n : Nat) (r : Bool), n ≤ x.ts.length ∧ i = .int .i64 n ∧ ok = .bool r ∧ Hid (rightT x = (r && ((x.ts.drop n).all transB && true))) ∧ Hid (Below (w.heap.size + 1) (w.alloc (.cells #[.string x.n.t, .int .i64 x.n.l, .int .i64 x.n.c, .slice da x.ds.length dc, .slice qa x.qs.length qc, .slice fa x.fs.length fc, .slice ta x.st.length tc, .string x.s.t, .int .i64 x.s.l, .int .i64 x.s.c, .slice la x.al.length lc, .slice xa x.ts.length xc] 31)) wr)) (fun _ i _ => x.ts.length - (intOf i).toNat)
                        case atStart => exact ⟨0, r4, Nat.zero_le _, rfl, rfl, Lib.hid (r_zero HX4.out), HL4⟩
                        case round =>
                          obtain ⟨n, r5, hn, rfl, rfl, HT5, HL5⟩ := hrel
                          obtain ⟨v5, hwr⟩ : ∃ u, u = wr := ⟨_, rfl⟩
                          subst hwr
                          have z := box1 HL5.out 11 _ rfl
                          by_cases h : n < x.ts.length
                          case neg =>
                            have HX5 := Lib.hid (r_end HT5.out (by omega))
                            go_wp2_with fail
                            clear z HT5 h hn
                            go_wp2_with fail
                            go_ret
                            exact ⟨by rw [HX5.out, Bool.and_true]; rfl, HBK.out _ HL5⟩
                          case pos =>
                            obtain ⟨y, hy⟩ := at_some (L := x.ts) rfl h
                            have HY := Lib.hid hy
                            have HW := Lib.hid (HBK.out _ HL5)
                            obtain ⟨g, off, csy, e1, hg, _, hc, hry, _⟩ := (G5.out.belowT HW.out).at' n y hy
                            have HRY := Lib.hid hry
                            obtain ⟨oa1, oc1, na1, nc1, sa1, sc1, rfl, g11, g21, g31, g41⟩ := hry
                            rw [e1] at z
                            have c0_ : v5.cell? ⟨g, off + n * 13, none⟩ = some (.string y.f.t) := hc 0 _ rfl
                            have c1_ : v5.cell? ⟨g, off + n * 13 + 1, none⟩ = some (.int .i64 y.f.l) := hc 1 _ rfl
                            have c2_ : v5.cell? ⟨g, off + n * 13 + 2, none⟩ = some (.int .i64 y.f.c) := hc 2 _ rfl
                            have c3_ : v5.cell? ⟨g, off + n * 13 + 3, none⟩ = some (.string y.t.t) := hc 3 _ rfl
                            have c4_ : v5.cell? ⟨g, off + n * 13 + 4, none⟩ = some (.int .i64 y.t.l) := hc 4 _ rfl
                            have c5_ : v5.cell? ⟨g, off + n * 13 + 5, none⟩ = some (.int .i64 y.t.c) := hc 5 _ rfl
                            have c6_ : v5.cell? ⟨g, off + n * 13 + 6, none⟩ = some (.string y.on.n) := hc 6 _ rfl
                            have c7_ : v5.cell? ⟨g, off + n * 13 + 7, none⟩ = some (.slice oa1 y.on.ar.length oc1) := hc 7 _ rfl
                            have c8_ : v5.cell? ⟨g, off + n * 13 + 8, none⟩ = some (.int .i64 y.on.l) := hc 8 _ rfl
                            have c9_ : v5.cell? ⟨g, off + n * 13 + 9, none⟩ = some (.int .i64 y.on.c) := hc 9 _ rfl
                            have c10_ : v5.cell? ⟨g, off + n * 13 + 10, none⟩ = some (.slice na1 y.ns.length nc1) := hc 10 _ rfl
                            have c11_ : v5.cell? ⟨g, off + n * 13 + 11, none⟩ = some (.int .i64 y.g) := hc 11 _ rfl
                            have c12_ : v5.cell? ⟨g, off + n * 13 + 12, none⟩ = some (.slice sa1 y.ss.length sc1) := hc 12 _ rfl
                            have hws : w.heap.size < v5.heap.size := by have := HL5.out.size; simp at this; omega
                            have HN := Lib.hid (refTr_calls y _ v5 HRY.out (HSM.out.t y (List.mem_of_getElem? hy)).2.1)
                            clear hc hy e1
                            cases r5
                            case false =>
                              go_wp2_with fail
                              go_roundw
                              case rel => exact ⟨n + 1, false, by omega, by go_num, rfl, Lib.hid (r_skip HT5.out), HL5⟩
                              case measure => simp [intOf] <;> omega
                            cases en : transB y
                            case false =>
                              have HE := Lib.hid (r_step HT5.out HY.out (show transB y = false from en))
                              rw [en] at HN
                              clear en
                              go_wp2_with fail
                              refine (HN.out).mono ?_
                              rintro e w1 ⟨rfl, k⟩
                              have HK := Lib.hid k
                              clear k
                              have HLN : Hid (Below (w.heap.size + 1) (w.alloc (.cells #[.string x.n.t, .int .i64 x.n.l, .int .i64 x.n.c, .slice da x.ds.length dc, .slice qa x.qs.length qc, .slice fa x.fs.length fc, .slice ta x.st.length tc, .string x.s.t, .int .i64 x.s.l, .int .i64 x.s.c, .slice la x.al.length lc, .slice xa x.ts.length xc] 31)) w1) := Lib.hid (HL5.out.trans (HK.out.mono (by have := HL5.out.size; simpa using this)))
                              go_wp2_with fail
                              go_roundw
                              case rel => exact ⟨n + 1, false, by omega, by go_num, rfl, Lib.hid (HE.out), HLN⟩
                              case measure => simp [intOf] <;> omega
                            have HE := Lib.hid (r_step HT5.out HY.out (show transB y = true from en))
                            rw [en] at HN
                            clear en
                            go_wp2_with fail
                            refine (HN.out).mono ?_
                            rintro e w1 ⟨rfl, k⟩
                            have HK := Lib.hid k
                            clear k
                            have HLN : Hid (Below (w.heap.size + 1) (w.alloc (.cells #[.string x.n.t, .int .i64 x.n.l, .int .i64 x.n.c, .slice da x.ds.length dc, .slice qa x.qs.length qc, .slice fa x.fs.length fc, .slice ta x.st.length tc, .string x.s.t, .int .i64 x.s.l, .int .i64 x.s.c, .slice la x.al.length lc, .slice xa x.ts.length xc] 31)) w1) := Lib.hid (HL5.out.trans (HK.out.mono (by have := HL5.out.size; simpa using this)))
                            go_wp2_with fail
                            go_roundw
                            case rel => exact ⟨n + 1, true, by omega, by go_num, rfl, Lib.hid (HE.out), HLN⟩
                            case measure => simp [intOf] <;> omega
                      case pos =>
                        obtain ⟨y, hy⟩ := at_some (L := x.al) rfl h
                        have HY := Lib.hid hy
                        have HW := Lib.hid (HBK.out _ HL4)
                        obtain ⟨g, off, csy, e1, hg, _, hc, hry, _⟩ := (G4.out.belowS HW.out).at' n y hy
                        have HRY := Lib.hid hry
                        obtain ⟨a1, c1, rfl, g11, _⟩ := hry
                        rw [e1] at z
                        have c0_ : v4.cell? ⟨g, off + n * 4, none⟩ = some (.string y.n) := hc 0 _ rfl
                        have c1_ : v4.cell? ⟨g, off + n * 4 + 1, none⟩ = some (.slice a1 y.ar.length c1) := hc 1 _ rfl
                        have c2_ : v4.cell? ⟨g, off + n * 4 + 2, none⟩ = some (.int .i64 y.l) := hc 2 _ rfl
                        have c3_ : v4.cell? ⟨g, off + n * 4 + 3, none⟩ = some (.int .i64 y.c) := hc 3 _ rfl
                        have hws : w.heap.size < v4.heap.size := by have := HL4.out.size; simp at this; omega
                        have HN := Lib.hid (refSym_calls y _ v4 HRY.out)
                        clear hc hy e1
                        cases r4
                        case false =>
                          go_wp2_with fail
                          go_roundw
                          case rel => exact ⟨n + 1, false, by omega, by go_num, rfl, Lib.hid (r_skip HT4.out), HL4⟩
                          case measure => simp [intOf] <;> omega
                        cases en : symB y
                        case false =>
                          have HE := Lib.hid (r_step HT4.out HY.out (show symB y = false from en))
                          rw [en] at HN
                          clear en
                          go_wp2_with fail
                          refine (HN.out).mono ?_
                          rintro e w1 ⟨rfl, k⟩
                          have HK := Lib.hid k
                          clear k
                          have HLN : Hid (Below (w.heap.size + 1) (w.alloc (.cells #[.string x.n.t, .int .i64 x.n.l, .int .i64 x.n.c, .slice da x.ds.length dc, .slice qa x.qs.length qc, .slice fa x.fs.length fc, .slice ta x.st.length tc, .string x.s.t, .int .i64 x.s.l, .int .i64 x.s.c, .slice la x.al.length lc, .slice xa x.ts.length xc] 31)) w1) := Lib.hid (HL4.out.trans (HK.out.mono (by have := HL4.out.size; simpa using this)))
                          go_wp2_with fail
                          go_roundw
                          case rel => exact ⟨n + 1, false, by omega, by go_num, rfl, Lib.hid (HE.out), HLN⟩
                          case measure => simp [intOf] <;> omega
                        have HE := Lib.hid (r_step HT4.out HY.out (show symB y = true from en))
                        rw [en] at HN
                        clear en
                        go_wp2_with fail
                        refine (HN.out).mono ?_
                        rintro e w1 ⟨rfl, k⟩
                        have HK := Lib.hid k
                        clear k
                        have HLN : Hid (Below (w.heap.size + 1) (w.alloc (.cells #[.string x.n.t, .int .i64 x.n.l, .int .i64 x.n.c, .slice da x.ds.length dc, .slice qa x.qs.length qc, .slice fa x.fs.length fc, .slice ta x.st.length tc, .string x.s.t, .int .i64 x.s.l, .int .i64 x.s.c, .slice la x.al.length lc, .slice xa x.ts.length xc] 31)) w1) := Lib.hid (HL4.out.trans (HK.out.mono (by have := HL4.out.size; simpa using this)))
                        go_wp2_with fail
                        go_roundw
                        case rel => exact ⟨n + 1, true, by omega, by go_num, rfl, Lib.hid (HE.out), HLN⟩
                        case measure => simp [intOf] <;> omega
                  case pos =>
                    obtain ⟨y, hy⟩ := at_some (L := x.st) rfl h
                    have HY := Lib.hid hy
                    have HW := Lib.hid (HBK.out _ HL3)
                    obtain ⟨g, off, e1, hg, hc, hok⟩ := (G3.out.belowF HW.out).flat hy
                    rw [e1] at z
                    have c0_ : v3.cell? ⟨g, off + n * 5, none⟩ = some (.string y.n.t) := hc 0 _ rfl
                    have c1_ : v3.cell? ⟨g, off + n * 5 + 1, none⟩ = some (.int .i64 y.n.l) := hc 1 _ rfl
                    have c2_ : v3.cell? ⟨g, off + n * 5 + 2, none⟩ = some (.int .i64 y.n.c) := hc 2 _ rfl
                    have c3_ : v3.cell? ⟨g, off + n * 5 + 3, none⟩ = some (.bool y.nx) := hc 3 _ rfl
                    have c4_ : v3.cell? ⟨g, off + n * 5 + 4, none⟩ = some (.bool y.ac) := hc 4 _ rfl
                    have hws : w.heap.size < v3.heap.size := by have := HL3.out.size; simp at this; omega
                    have HN := Lib.hid (fun w1 => refName_calls y.n.t w1 hok)
                    clear hc hy e1 hok
                    cases r3
                    case false =>
                      go_wp2_with fail
                      go_roundw
                      case rel => exact ⟨n + 1, false, by omega, by go_num, rfl, Lib.hid (r_skip HT3.out), HL3⟩
                      case measure => simp [intOf] <;> omega
                    cases en : nameB y.n.t
                    case false =>
                      have HE := Lib.hid (r_step HT3.out HY.out (show okSt y = false from en))
                      rw [en] at HN
                      clear en
                      go_wp2_with fail
                      refine (HN.out _).mono ?_
                      rintro e w1 ⟨rfl, k⟩
                      have HK := Lib.hid k
                      clear k
                      have HLN : Hid (Below (w.heap.size + 1) (w.alloc (.cells #[.string x.n.t, .int .i64 x.n.l, .int .i64 x.n.c, .slice da x.ds.length dc, .slice qa x.qs.length qc, .slice fa x.fs.length fc, .slice ta x.st.length tc, .string x.s.t, .int .i64 x.s.l, .int .i64 x.s.c, .slice la x.al.length lc, .slice xa x.ts.length xc] 31)) w1) := Lib.hid (HL3.out.trans (HK.out.mono (by have := HL3.out.size; simpa using this)))
                      go_wp2_with fail
                      go_roundw
                      case rel => exact ⟨n + 1, false, by omega, by go_num, rfl, Lib.hid (HE.out), HLN⟩
                      case measure => simp [intOf] <;> omega
                    have HE := Lib.hid (r_step HT3.out HY.out (show okSt y = true from en))
                    rw [en] at HN
                    clear en
                    go_wp2_with fail
                    refine (HN.out _).mono ?_
                    rintro e w1 ⟨rfl, k⟩
                    have HK := Lib.hid k
                    clear k
                    have HLN : Hid (Below (w.heap.size + 1) (w.alloc (.cells #[.string x.n.t, .int .i64 x.n.l, .int .i64 x.n.c, .slice da x.ds.length dc, .slice qa x.qs.length qc, .slice fa x.fs.length fc, .slice ta x.st.length tc, .string x.s.t, .int .i64 x.s.l, .int .i64 x.s.c, .slice la x.al.length lc, .slice xa x.ts.length xc] 31)) w1) := Lib.hid (HL3.out.trans (HK.out.mono (by have := HL3.out.size; simpa using this)))
                    go_wp2_with fail
                    go_roundw
                    case rel => exact ⟨n + 1, true, by omega, by go_num, rfl, Lib.hid (HE.out), HLN⟩
                    case measure => simp [intOf] <;> omega
              case pos =>
                obtain ⟨y, hy⟩ := at_some (L := x.fs) rfl h
                have HY := Lib.hid hy
                have HW := Lib.hid (HBK.out _ HL2)
                obtain ⟨g, off, e1, hg, hc, hok⟩ := (G2.out.belowF HW.out).flat hy
                rw [e1] at z
                have c0_ : v2.cell? ⟨g, off + n * 7, none⟩ = some (.string y.n.t) := hc 0 _ rfl
                have c1_ : v2.cell? ⟨g, off + n * 7 + 1, none⟩ = some (.int .i64 y.n.l) := hc 1 _ rfl
                have c2_ : v2.cell? ⟨g, off + n * 7 + 2, none⟩ = some (.int .i64 y.n.c) := hc 2 _ rfl
                have c3_ : v2.cell? ⟨g, off + n * 7 + 3, none⟩ = some (.int .i64 y.v.k) := hc 3 _ rfl
                have c4_ : v2.cell? ⟨g, off + n * 7 + 4, none⟩ = some (.int .i64 y.v.i) := hc 4 _ rfl
                have c5_ : v2.cell? ⟨g, off + n * 7 + 5, none⟩ = some (.string y.v.s) := hc 5 _ rfl
                have c6_ : v2.cell? ⟨g, off + n * 7 + 6, none⟩ = some (.bool y.v.b) := hc 6 _ rfl
                have hws : w.heap.size < v2.heap.size := by have := HL2.out.size; simp at this; omega
                have HN := Lib.hid (fun w1 => refName_calls y.n.t w1 hok.1)
                have HR : Hid (∀ w1, Calls Tryz.prog 16 #[.agg #[.int .i64 y.v.k, .int .i64 y.v.i, .string y.v.s, .bool y.v.b]] w1 fun e w' => e = .returned (.bool (rightV y.v)) ∧ Below w1.heap.size w1 w') := Lib.hid (fun w1 => refVRight_calls y.v.k y.v.i y.v.s y.v.b w1 hok.2.1)
                clear hc hy e1 hok
                cases r2
                case false =>
                  go_wp2_with fail
                  go_roundw
                  case rel => exact ⟨n + 1, false, by omega, by go_num, rfl, Lib.hid (r_skip HT2.out), HL2⟩
                  case measure => simp [intOf] <;> omega
                cases en : nameB y.n.t
                case false =>
                  have HE := Lib.hid (r_step HT2.out HY.out (show okF y = false by unfold okF; rw [en]; rfl))
                  rw [en] at HN
                  clear en
                  go_wp2_with fail
                  refine (HN.out _).mono ?_
                  rintro e w1 ⟨rfl, k⟩
                  have HK := Lib.hid k
                  clear k
                  have HLN : Hid (Below (w.heap.size + 1) (w.alloc (.cells #[.string x.n.t, .int .i64 x.n.l, .int .i64 x.n.c, .slice da x.ds.length dc, .slice qa x.qs.length qc, .slice fa x.fs.length fc, .slice ta x.st.length tc, .string x.s.t, .int .i64 x.s.l, .int .i64 x.s.c, .slice la x.al.length lc, .slice xa x.ts.length xc] 31)) w1) := Lib.hid (HL2.out.trans (HK.out.mono (by have := HL2.out.size; simpa using this)))
                  go_wp2_with fail
                  go_roundw
                  case rel => exact ⟨n + 1, false, by omega, by go_num, rfl, Lib.hid (HE.out), HLN⟩
                  case measure => simp [intOf] <;> omega
                cases er : rightV y.v
                case false =>
                  have HE := Lib.hid (r_step HT2.out HY.out (show okF y = false by unfold okF; rw [en, er]; rfl))
                  rw [en] at HN
                  rw [er] at HR
                  clear en er
                  go_wp2_with fail
                  refine (HN.out _).mono ?_
                  rintro e w1 ⟨rfl, k⟩
                  have HK := Lib.hid k
                  clear k
                  have z9 := (HK.out.cell (p := ⟨w.heap.size, 5, none⟩) hws).trans z
                  have y0_ := (HK.out.cell (p := ⟨g, off + n * 7, none⟩) hg).trans c0_
                  have y1_ := (HK.out.cell (p := ⟨g, off + n * 7 + 1, none⟩) hg).trans c1_
                  have y2_ := (HK.out.cell (p := ⟨g, off + n * 7 + 2, none⟩) hg).trans c2_
                  have y3_ := (HK.out.cell (p := ⟨g, off + n * 7 + 3, none⟩) hg).trans c3_
                  have y4_ := (HK.out.cell (p := ⟨g, off + n * 7 + 4, none⟩) hg).trans c4_
                  have y5_ := (HK.out.cell (p := ⟨g, off + n * 7 + 5, none⟩) hg).trans c5_
                  have y6_ := (HK.out.cell (p := ⟨g, off + n * 7 + 6, none⟩) hg).trans c6_
                  go_wp2_with fail
                  refine (HR.out _).mono ?_
                  rintro e w2 ⟨rfl, k⟩
                  have HLN : Hid (Below (w.heap.size + 1) (w.alloc (.cells #[.string x.n.t, .int .i64 x.n.l, .int .i64 x.n.c, .slice da x.ds.length dc, .slice qa x.qs.length qc, .slice fa x.fs.length fc, .slice ta x.st.length tc, .string x.s.t, .int .i64 x.s.l, .int .i64 x.s.c, .slice la x.al.length lc, .slice xa x.ts.length xc] 31)) w2) := Lib.hid (HL2.out.trans ((HK.out.trans (k.mono HK.out.size)).mono (by have := HL2.out.size; simpa using this)))
                  clear k
                  go_wp2_with fail
                  go_roundw
                  case rel => exact ⟨n + 1, false, by omega, by go_num, rfl, Lib.hid (HE.out), HLN⟩
                  case measure => simp [intOf] <;> omega
                have HE := Lib.hid (r_step HT2.out HY.out (show okF y = true by unfold okF; rw [en, er]; rfl))
                rw [en] at HN
                rw [er] at HR
                clear en er
                go_wp2_with fail
                refine (HN.out _).mono ?_
                rintro e w1 ⟨rfl, k⟩
                have HK := Lib.hid k
                clear k
                have z9 := (HK.out.cell (p := ⟨w.heap.size, 5, none⟩) hws).trans z
                have y0_ := (HK.out.cell (p := ⟨g, off + n * 7, none⟩) hg).trans c0_
                have y1_ := (HK.out.cell (p := ⟨g, off + n * 7 + 1, none⟩) hg).trans c1_
                have y2_ := (HK.out.cell (p := ⟨g, off + n * 7 + 2, none⟩) hg).trans c2_
                have y3_ := (HK.out.cell (p := ⟨g, off + n * 7 + 3, none⟩) hg).trans c3_
                have y4_ := (HK.out.cell (p := ⟨g, off + n * 7 + 4, none⟩) hg).trans c4_
                have y5_ := (HK.out.cell (p := ⟨g, off + n * 7 + 5, none⟩) hg).trans c5_
                have y6_ := (HK.out.cell (p := ⟨g, off + n * 7 + 6, none⟩) hg).trans c6_
                go_wp2_with fail
                refine (HR.out _).mono ?_
                rintro e w2 ⟨rfl, k⟩
                have HLN : Hid (Below (w.heap.size + 1) (w.alloc (.cells #[.string x.n.t, .int .i64 x.n.l, .int .i64 x.n.c, .slice da x.ds.length dc, .slice qa x.qs.length qc, .slice fa x.fs.length fc, .slice ta x.st.length tc, .string x.s.t, .int .i64 x.s.l, .int .i64 x.s.c, .slice la x.al.length lc, .slice xa x.ts.length xc] 31)) w2) := Lib.hid (HL2.out.trans ((HK.out.trans (k.mono HK.out.size)).mono (by have := HL2.out.size; simpa using this)))
                clear k
                go_wp2_with fail
                go_roundw
                case rel => exact ⟨n + 1, true, by omega, by go_num, rfl, Lib.hid (HE.out), HLN⟩
                case measure => simp [intOf] <;> omega
          case pos =>
            obtain ⟨y, hy⟩ := at_some (L := x.qs) rfl h
            have HY := Lib.hid hy
            have HW := Lib.hid (HBK.out _ HL1)
            obtain ⟨g, off, e1, hg, hc, hok⟩ := (G1.out.belowF HW.out).flat hy
            rw [e1] at z
            have c0_ : v1.cell? ⟨g, off + n * 5, none⟩ = some (.bool y.all) := hc 0 _ rfl
            have c1_ : v1.cell? ⟨g, off + n * 5 + 1, none⟩ = some (.string y.n.t) := hc 1 _ rfl
            have c2_ : v1.cell? ⟨g, off + n * 5 + 2, none⟩ = some (.int .i64 y.n.l) := hc 2 _ rfl
            have c3_ : v1.cell? ⟨g, off + n * 5 + 3, none⟩ = some (.int .i64 y.n.c) := hc 3 _ rfl
            have c4_ : v1.cell? ⟨g, off + n * 5 + 4, none⟩ = some (.int .i64 y.t) := hc 4 _ rfl
            have hws : w.heap.size < v1.heap.size := by have := HL1.out.size; simp at this; omega
            have HN := Lib.hid (fun w1 => refName_calls y.n.t w1 hok)
            clear hc hy e1 hok
            cases r1
            case false =>
              go_wp2_with fail
              go_roundw
              case rel => exact ⟨n + 1, false, by omega, by go_num, rfl, Lib.hid (r_skip HT1.out), HL1⟩
              case measure => simp [intOf] <;> omega
            cases en : nameB y.n.t
            case false =>
              have HE := Lib.hid (r_step HT1.out HY.out (show okQ y = false by unfold okQ; rw [en]; rfl))
              rw [en] at HN
              clear en
              go_wp2_with fail
              refine (HN.out _).mono ?_
              rintro e w1 ⟨rfl, k⟩
              have HK := Lib.hid k
              clear k
              have HLN : Hid (Below (w.heap.size + 1) (w.alloc (.cells #[.string x.n.t, .int .i64 x.n.l, .int .i64 x.n.c, .slice da x.ds.length dc, .slice qa x.qs.length qc, .slice fa x.fs.length fc, .slice ta x.st.length tc, .string x.s.t, .int .i64 x.s.l, .int .i64 x.s.c, .slice la x.al.length lc, .slice xa x.ts.length xc] 31)) w1) := Lib.hid (HL1.out.trans (HK.out.mono (by have := HL1.out.size; simpa using this)))
              go_wp2_with fail
              go_roundw
              case rel => exact ⟨n + 1, false, by omega, by go_num, rfl, Lib.hid (HE.out), HLN⟩
              case measure => simp [intOf] <;> omega
            by_cases k1 : 1 ≤ y.t
            case neg =>
              have t1 : decide (1 ≤ y.t) = false := decide_eq_false k1
              have HE := Lib.hid (r_step HT1.out HY.out (show okQ y = false by unfold okQ kindB; rw [decide_eq_false k1, Bool.false_and, Bool.and_false]))
              rw [en] at HN
              clear en k1
              go_wp2_with fail
              refine (HN.out _).mono ?_
              rintro e w1 ⟨rfl, k⟩
              have HK := Lib.hid k
              clear k
              have HLN : Hid (Below (w.heap.size + 1) (w.alloc (.cells #[.string x.n.t, .int .i64 x.n.l, .int .i64 x.n.c, .slice da x.ds.length dc, .slice qa x.qs.length qc, .slice fa x.fs.length fc, .slice ta x.st.length tc, .string x.s.t, .int .i64 x.s.l, .int .i64 x.s.c, .slice la x.al.length lc, .slice xa x.ts.length xc] 31)) w1) := Lib.hid (HL1.out.trans (HK.out.mono (by have := HL1.out.size; simpa using this)))
              have z9 := (HK.out.cell (p := ⟨w.heap.size, 4, none⟩) hws).trans z
              have y0_ := (HK.out.cell (p := ⟨g, off + n * 5, none⟩) hg).trans c0_
              have y1_ := (HK.out.cell (p := ⟨g, off + n * 5 + 1, none⟩) hg).trans c1_
              have y2_ := (HK.out.cell (p := ⟨g, off + n * 5 + 2, none⟩) hg).trans c2_
              have y3_ := (HK.out.cell (p := ⟨g, off + n * 5 + 3, none⟩) hg).trans c3_
              have y4_ := (HK.out.cell (p := ⟨g, off + n * 5 + 4, none⟩) hg).trans c4_
              go_wp2_with fail
              go_roundw
              case rel => exact ⟨n + 1, false, by omega, by go_num, rfl, Lib.hid (HE.out), HLN⟩
              case measure => simp [intOf] <;> omega
            have t1 : decide (1 ≤ y.t) = true := decide_eq_true k1
            by_cases k2 : y.t ≤ 3
            case neg =>
              have t2 : decide (y.t ≤ 3) = false := decide_eq_false k2
              have HE := Lib.hid (r_step HT1.out HY.out (show okQ y = false by unfold okQ kindB; rw [decide_eq_false k2, Bool.and_false, Bool.and_false]))
              rw [en] at HN
              clear en k1 k2
              go_wp2_with fail
              refine (HN.out _).mono ?_
              rintro e w1 ⟨rfl, k⟩
              have HK := Lib.hid k
              clear k
              have HLN : Hid (Below (w.heap.size + 1) (w.alloc (.cells #[.string x.n.t, .int .i64 x.n.l, .int .i64 x.n.c, .slice da x.ds.length dc, .slice qa x.qs.length qc, .slice fa x.fs.length fc, .slice ta x.st.length tc, .string x.s.t, .int .i64 x.s.l, .int .i64 x.s.c, .slice la x.al.length lc, .slice xa x.ts.length xc] 31)) w1) := Lib.hid (HL1.out.trans (HK.out.mono (by have := HL1.out.size; simpa using this)))
              have z9 := (HK.out.cell (p := ⟨w.heap.size, 4, none⟩) hws).trans z
              have y0_ := (HK.out.cell (p := ⟨g, off + n * 5, none⟩) hg).trans c0_
              have y1_ := (HK.out.cell (p := ⟨g, off + n * 5 + 1, none⟩) hg).trans c1_
              have y2_ := (HK.out.cell (p := ⟨g, off + n * 5 + 2, none⟩) hg).trans c2_
              have y3_ := (HK.out.cell (p := ⟨g, off + n * 5 + 3, none⟩) hg).trans c3_
              have y4_ := (HK.out.cell (p := ⟨g, off + n * 5 + 4, none⟩) hg).trans c4_
              go_wp2_with fail
              go_roundw
              case rel => exact ⟨n + 1, false, by omega, by go_num, rfl, Lib.hid (HE.out), HLN⟩
              case measure => simp [intOf] <;> omega
            have t2 : decide (y.t ≤ 3) = true := decide_eq_true k2
            have HE := Lib.hid (r_step HT1.out HY.out (show okQ y = true by unfold okQ kindB; rw [en, decide_eq_true k1, decide_eq_true k2]; rfl))
            rw [en] at HN
            clear en k1 k2
            go_wp2_with fail
            refine (HN.out _).mono ?_
            rintro e w1 ⟨rfl, k⟩
            have HK := Lib.hid k
            clear k
            have HLN : Hid (Below (w.heap.size + 1) (w.alloc (.cells #[.string x.n.t, .int .i64 x.n.l, .int .i64 x.n.c, .slice da x.ds.length dc, .slice qa x.qs.length qc, .slice fa x.fs.length fc, .slice ta x.st.length tc, .string x.s.t, .int .i64 x.s.l, .int .i64 x.s.c, .slice la x.al.length lc, .slice xa x.ts.length xc] 31)) w1) := Lib.hid (HL1.out.trans (HK.out.mono (by have := HL1.out.size; simpa using this)))
            have z9 := (HK.out.cell (p := ⟨w.heap.size, 4, none⟩) hws).trans z
            have y0_ := (HK.out.cell (p := ⟨g, off + n * 5, none⟩) hg).trans c0_
            have y1_ := (HK.out.cell (p := ⟨g, off + n * 5 + 1, none⟩) hg).trans c1_
            have y2_ := (HK.out.cell (p := ⟨g, off + n * 5 + 2, none⟩) hg).trans c2_
            have y3_ := (HK.out.cell (p := ⟨g, off + n * 5 + 3, none⟩) hg).trans c3_
            have y4_ := (HK.out.cell (p := ⟨g, off + n * 5 + 4, none⟩) hg).trans c4_
            go_wp2_with fail
            go_roundw
            case rel => exact ⟨n + 1, true, by omega, by go_num, rfl, Lib.hid (HE.out), HLN⟩
            case measure => simp [intOf] <;> omega
      case pos =>
        obtain ⟨y, hy⟩ := at_some (L := x.ds) rfl h
        have HY := Lib.hid hy
        have HW := Lib.hid (HBK.out _ HL0)
        obtain ⟨g, off, csy, e1, hg, _, hc, hry, _⟩ := (G0.out.belowD HW.out).at' n y hy
        have HRY := Lib.hid hry
        obtain ⟨a1, c1, rfl, g11, _⟩ := hry
        rw [e1] at z
        have c0_ : v0.cell? ⟨g, off + n * 4, none⟩ = some (.string y.n.t) := hc 0 _ rfl
        have c1_ : v0.cell? ⟨g, off + n * 4 + 1, none⟩ = some (.int .i64 y.n.l) := hc 1 _ rfl
        have c2_ : v0.cell? ⟨g, off + n * 4 + 2, none⟩ = some (.int .i64 y.n.c) := hc 2 _ rfl
        have c3_ : v0.cell? ⟨g, off + n * 4 + 3, none⟩ = some (.slice a1 y.ks.length c1) := hc 3 _ rfl
        have hws : w.heap.size < v0.heap.size := by have := HL0.out.size; simp at this; omega
        have hyn : okS y.n.t := by obtain ⟨_, _, _, _, h⟩ := HRY.out; exact h
        have HN := Lib.hid (fun w1 => refName_calls y.n.t w1 hyn)
        have hks := g11.small
        have HG := Lib.hid g11
        clear hc hy e1 g11 hyn
        have z3 := z
        cases r0
        case false =>
          go_wp2_with fail
          go_loopw [3, 5] (fun ok i wr => ∃ (m : Nat) (r : Bool), m ≤ y.ks.length ∧ i = .int .i64 m ∧ ok = .bool r ∧ Hid (rightT x = (r && ((y.ks.drop m).all kindB && ((x.ds.drop (n + 1)).all okD && (x.qs.all okQ && (x.fs.all okF && (x.st.all okSt && (x.al.all symB && (x.ts.all transB && true))))))))) ∧ Hid (Below v0.heap.size v0 wr)) (fun _ i _ => y.ks.length - (intOf i).toNat)
          case atStart => exact ⟨0, false, Nat.zero_le _, rfl, rfl, Lib.hid (d_skip HT0.out), Lib.hid (Below.refl _ _)⟩
          case round =>
            obtain ⟨m, r, hm, rfl, rfl, HT, HK⟩ := hrel
            have z : wr.cell? ⟨w.heap.size, 3, none⟩ = _ := (HK.out.cell (p := ⟨w.heap.size, 3, none⟩) hws).trans z3
            have y3 : wr.cell? ⟨g, off + n * 4 + 3, none⟩ = _ := (HK.out.cell (p := ⟨g, off + n * 4 + 3, none⟩) hg).trans c3_
            have HLN : Hid (Below (w.heap.size + 1) (w.alloc (.cells #[.string x.n.t, .int .i64 x.n.l, .int .i64 x.n.c, .slice da x.ds.length dc, .slice qa x.qs.length qc, .slice fa x.fs.length fc, .slice ta x.st.length tc, .string x.s.t, .int .i64 x.s.l, .int .i64 x.s.c, .slice la x.al.length lc, .slice xa x.ts.length xc] 31)) wr) := Lib.hid (HL0.out.trans (HK.out.mono (by have := HL0.out.size; simpa using this)))
            by_cases hlt : m < y.ks.length
            case neg =>
              have HX := Lib.hid (r_end HT.out (by omega))
              go_wp2_with fail
              go_roundw
              case rel => exact ⟨n + 1, r, by omega, by go_num, rfl, Lib.hid (HX.out), HLN⟩
              case measure => simp [intOf] <;> omega
            case pos =>
              obtain ⟨q, hq⟩ := at_some (L := y.ks) rfl hlt
              have HQ := Lib.hid hq
              obtain ⟨g2, off2, e2, hg2, hc2, _⟩ := (HG.out.belowF HK.out).flat hq
              rw [e2] at y3
              have d0 : wr.cell? ⟨g2, off2 + m, none⟩ = some (.int .i64 q) := by have := hc2 0 _ rfl; rwa [Nat.mul_one, Nat.add_zero] at this
              clear hc2 hq e2
              cases r
              case false =>
                go_wp2_with fail
                go_roundw
                case rel => exact ⟨m + 1, false, by omega, by go_num, rfl, Lib.hid (r_skip HT.out), HK⟩
                case measure => simp [intOf] <;> omega
              by_cases k1 : 1 ≤ q
              case neg =>
                have t1 : decide (1 ≤ q) = false := decide_eq_false k1
                have HE := Lib.hid (r_step HT.out HQ.out (show kindB q = false by unfold kindB; rw [decide_eq_false k1]; rfl))
                clear k1
                go_wp2_with fail
                go_roundw
                case rel => exact ⟨m + 1, false, by omega, by go_num, rfl, Lib.hid (HE.out), HK⟩
                case measure => simp [intOf] <;> omega
              have t1 : decide (1 ≤ q) = true := decide_eq_true k1
              by_cases k2 : q ≤ 3
              case neg =>
                have t2 : decide (q ≤ 3) = false := decide_eq_false k2
                have HE := Lib.hid (r_step HT.out HQ.out (show kindB q = false by unfold kindB; rw [decide_eq_false k2, Bool.and_false]))
                clear k1 k2
                go_wp2_with fail
                go_roundw
                case rel => exact ⟨m + 1, false, by omega, by go_num, rfl, Lib.hid (HE.out), HK⟩
                case measure => simp [intOf] <;> omega
              have t2 : decide (q ≤ 3) = true := decide_eq_true k2
              have HE := Lib.hid (r_step HT.out HQ.out (show kindB q = true by unfold kindB; rw [decide_eq_true k1, decide_eq_true k2]; rfl))
              clear k1 k2
              go_wp2_with fail
              go_roundw
              case rel => exact ⟨m + 1, true, by omega, by go_num, rfl, Lib.hid (HE.out), HK⟩
              case measure => simp [intOf] <;> omega
        cases en : nameB y.n.t
        case false =>
          have HD := Lib.hid (d_step HT0.out HY.out en)
          rw [en] at HN
          clear en
          go_wp2_with fail
          refine (HN.out _).mono ?_
          rintro e w1 ⟨rfl, k⟩
          have HK := Lib.hid k
          clear k
          go_wp2_with fail
          go_loopw [3, 5] (fun ok i wr => ∃ (m : Nat) (r : Bool), m ≤ y.ks.length ∧ i = .int .i64 m ∧ ok = .bool r ∧ Hid (rightT x = (r && ((y.ks.drop m).all kindB && ((x.ds.drop (n + 1)).all okD && (x.qs.all okQ && (x.fs.all okF && (x.st.all okSt && (x.al.all symB && (x.ts.all transB && true))))))))) ∧ Hid (Below v0.heap.size v0 wr)) (fun _ i _ => y.ks.length - (intOf i).toNat)
          case atStart => exact ⟨0, false, Nat.zero_le _, rfl, rfl, HD, HK⟩
          case round =>
            obtain ⟨m, r, hm, rfl, rfl, HT, HK⟩ := hrel
            have z : wr.cell? ⟨w.heap.size, 3, none⟩ = _ := (HK.out.cell (p := ⟨w.heap.size, 3, none⟩) hws).trans z3
            have y3 : wr.cell? ⟨g, off + n * 4 + 3, none⟩ = _ := (HK.out.cell (p := ⟨g, off + n * 4 + 3, none⟩) hg).trans c3_
            have HLN : Hid (Below (w.heap.size + 1) (w.alloc (.cells #[.string x.n.t, .int .i64 x.n.l, .int .i64 x.n.c, .slice da x.ds.length dc, .slice qa x.qs.length qc, .slice fa x.fs.length fc, .slice ta x.st.length tc, .string x.s.t, .int .i64 x.s.l, .int .i64 x.s.c, .slice la x.al.length lc, .slice xa x.ts.length xc] 31)) wr) := Lib.hid (HL0.out.trans (HK.out.mono (by have := HL0.out.size; simpa using this)))
            by_cases hlt : m < y.ks.length
            case neg =>
              have HX := Lib.hid (r_end HT.out (by omega))
              go_wp2_with fail
              go_roundw
              case rel => exact ⟨n + 1, r, by omega, by go_num, rfl, Lib.hid (HX.out), HLN⟩
              case measure => simp [intOf] <;> omega
            case pos =>
              obtain ⟨q, hq⟩ := at_some (L := y.ks) rfl hlt
              have HQ := Lib.hid hq
              obtain ⟨g2, off2, e2, hg2, hc2, _⟩ := (HG.out.belowF HK.out).flat hq
              rw [e2] at y3
              have d0 : wr.cell? ⟨g2, off2 + m, none⟩ = some (.int .i64 q) := by have := hc2 0 _ rfl; rwa [Nat.mul_one, Nat.add_zero] at this
              clear hc2 hq e2
              cases r
              case false =>
                go_wp2_with fail
                go_roundw
                case rel => exact ⟨m + 1, false, by omega, by go_num, rfl, Lib.hid (r_skip HT.out), HK⟩
                case measure => simp [intOf] <;> omega
              by_cases k1 : 1 ≤ q
              case neg =>
                have t1 : decide (1 ≤ q) = false := decide_eq_false k1
                have HE := Lib.hid (r_step HT.out HQ.out (show kindB q = false by unfold kindB; rw [decide_eq_false k1]; rfl))
                clear k1
                go_wp2_with fail
                go_roundw
                case rel => exact ⟨m + 1, false, by omega, by go_num, rfl, Lib.hid (HE.out), HK⟩
                case measure => simp [intOf] <;> omega
              have t1 : decide (1 ≤ q) = true := decide_eq_true k1
              by_cases k2 : q ≤ 3
              case neg =>
                have t2 : decide (q ≤ 3) = false := decide_eq_false k2
                have HE := Lib.hid (r_step HT.out HQ.out (show kindB q = false by unfold kindB; rw [decide_eq_false k2, Bool.and_false]))
                clear k1 k2
                go_wp2_with fail
                go_roundw
                case rel => exact ⟨m + 1, false, by omega, by go_num, rfl, Lib.hid (HE.out), HK⟩
                case measure => simp [intOf] <;> omega
              have t2 : decide (q ≤ 3) = true := decide_eq_true k2
              have HE := Lib.hid (r_step HT.out HQ.out (show kindB q = true by unfold kindB; rw [decide_eq_true k1, decide_eq_true k2]; rfl))
              clear k1 k2
              go_wp2_with fail
              go_roundw
              case rel => exact ⟨m + 1, true, by omega, by go_num, rfl, Lib.hid (HE.out), HK⟩
              case measure => simp [intOf] <;> omega
        have HD := Lib.hid (d_step HT0.out HY.out en)
        rw [en] at HN
        clear en
        go_wp2_with fail
        refine (HN.out _).mono ?_
        rintro e w1 ⟨rfl, k⟩
        have HK := Lib.hid k
        clear k
        go_wp2_with fail
        go_loopw [3, 5] (fun ok i wr => ∃ (m : Nat) (r : Bool), m ≤ y.ks.length ∧ i = .int .i64 m ∧ ok = .bool r ∧ Hid (rightT x = (r && ((y.ks.drop m).all kindB && ((x.ds.drop (n + 1)).all okD && (x.qs.all okQ && (x.fs.all okF && (x.st.all okSt && (x.al.all symB && (x.ts.all transB && true))))))))) ∧ Hid (Below v0.heap.size v0 wr)) (fun _ i _ => y.ks.length - (intOf i).toNat)
        case atStart => exact ⟨0, true, Nat.zero_le _, rfl, rfl, HD, HK⟩
        case round =>
          obtain ⟨m, r, hm, rfl, rfl, HT, HK⟩ := hrel
          have z : wr.cell? ⟨w.heap.size, 3, none⟩ = _ := (HK.out.cell (p := ⟨w.heap.size, 3, none⟩) hws).trans z3
          have y3 : wr.cell? ⟨g, off + n * 4 + 3, none⟩ = _ := (HK.out.cell (p := ⟨g, off + n * 4 + 3, none⟩) hg).trans c3_
          have HLN : Hid (Below (w.heap.size + 1) (w.alloc (.cells #[.string x.n.t, .int .i64 x.n.l, .int .i64 x.n.c, .slice da x.ds.length dc, .slice qa x.qs.length qc, .slice fa x.fs.length fc, .slice ta x.st.length tc, .string x.s.t, .int .i64 x.s.l, .int .i64 x.s.c, .slice la x.al.length lc, .slice xa x.ts.length xc] 31)) wr) := Lib.hid (HL0.out.trans (HK.out.mono (by have := HL0.out.size; simpa using this)))
          by_cases hlt : m < y.ks.length
          case neg =>
            have HX := Lib.hid (r_end HT.out (by omega))
            go_wp2_with fail
            go_roundw
            case rel => exact ⟨n + 1, r, by omega, by go_num, rfl, Lib.hid (HX.out), HLN⟩
            case measure => simp [intOf] <;> omega
          case pos =>
            obtain ⟨q, hq⟩ := at_some (L := y.ks) rfl hlt
            have HQ := Lib.hid hq
            obtain ⟨g2, off2, e2, hg2, hc2, _⟩ := (HG.out.belowF HK.out).flat hq
            rw [e2] at y3
            have d0 : wr.cell? ⟨g2, off2 + m, none⟩ = some (.int .i64 q) := by have := hc2 0 _ rfl; rwa [Nat.mul_one, Nat.add_zero] at this
            clear hc2 hq e2
            cases r
            case false =>
              go_wp2_with fail
              go_roundw
              case rel => exact ⟨m + 1, false, by omega, by go_num, rfl, Lib.hid (r_skip HT.out), HK⟩
              case measure => simp [intOf] <;> omega
            by_cases k1 : 1 ≤ q
            case neg =>
              have t1 : decide (1 ≤ q) = false := decide_eq_false k1
              have HE := Lib.hid (r_step HT.out HQ.out (show kindB q = false by unfold kindB; rw [decide_eq_false k1]; rfl))
              clear k1
              go_wp2_with fail
              go_roundw
              case rel => exact ⟨m + 1, false, by omega, by go_num, rfl, Lib.hid (HE.out), HK⟩
              case measure => simp [intOf] <;> omega
            have t1 : decide (1 ≤ q) = true := decide_eq_true k1
            by_cases k2 : q ≤ 3
            case neg =>
              have t2 : decide (q ≤ 3) = false := decide_eq_false k2
              have HE := Lib.hid (r_step HT.out HQ.out (show kindB q = false by unfold kindB; rw [decide_eq_false k2, Bool.and_false]))
              clear k1 k2
              go_wp2_with fail
              go_roundw
              case rel => exact ⟨m + 1, false, by omega, by go_num, rfl, Lib.hid (HE.out), HK⟩
              case measure => simp [intOf] <;> omega
            have t2 : decide (q ≤ 3) = true := decide_eq_true k2
            have HE := Lib.hid (r_step HT.out HQ.out (show kindB q = true by unfold kindB; rw [decide_eq_true k1, decide_eq_true k2]; rfl))
            clear k1 k2
            go_wp2_with fail
            go_roundw
            case rel => exact ⟨m + 1, true, by omega, by go_num, rfl, Lib.hid (HE.out), HK⟩
            case measure => simp [intOf] <;> omega
  rw [e0] at HS HNn
  generalize e1 : nameB x.s.t = r9 at HS HNs
  clear e1
  have HT_ : Hid (rightT x = (r9 && (x.ds.all okD && (x.qs.all okQ && (x.fs.all okF && (x.st.all okSt && (x.al.all symB && (x.ts.all transB && true)))))))) := Lib.hid (HS.out.trans rfl)
  go_enter Tryz.func6, Tryz.ntmps6
  go_wp2_with fail
  refine (HNn.out _).mono ?_
  rintro e w1 ⟨rfl, k⟩
  have HK1 := Lib.hid (below1_step HK0.out (by simp) k)
  clear k
  have z7 := box1 HK1.out 7 _ rfl
  go_wp2_with fail
  refine (HNs.out _).mono ?_
  rintro e w2 ⟨rfl, k⟩
  have HK2 := Lib.hid (below1_step HK1.out (by simp) k)
  clear k
  go_wp2_with fail
  go_loopw [3, 4] (fun ok i wr => ∃ (n : Nat) (r : Bool), n ≤ x.ds.length ∧ i = .int .i64 n ∧ ok = .bool r ∧ Hid (rightT x = (r && ((x.ds.drop n).all okD && (x.qs.all okQ && (x.fs.all okF && (x.st.all okSt && (x.al.all symB && (x.ts.all transB && true)))))))) ∧ Hid (Below (w.heap.size + 1) (w.alloc (.cells #[.string x.n.t, .int .i64 x.n.l, .int .i64 x.n.c, .slice da x.ds.length dc, .slice qa x.qs.length qc, .slice fa x.fs.length fc, .slice ta x.st.length tc, .string x.s.t, .int .i64 x.s.l, .int .i64 x.s.c, .slice la x.al.length lc, .slice xa x.ts.length xc] 31)) wr)) (fun _ i _ => x.ds.length - (intOf i).toNat)
  case atStart => exact ⟨0, r9, Nat.zero_le _, rfl, rfl, Lib.hid (r_zero HT_.out), HK2⟩
  case round =>
    obtain ⟨n, r0, hn, rfl, rfl, HT0, HL0⟩ := hrel
    obtain ⟨v0, hwr⟩ : ∃ u, u = wr := ⟨_, rfl⟩
    subst hwr
    have z := box1 HL0.out 3 _ rfl
    by_cases h : n < x.ds.length
    case neg =>
      have HX0 := Lib.hid (r_end HT0.out (by omega))
      go_wp2_with fail
      clear z HT0 h hn
      go_wp2_with fail
      go_loopw [3, 6] (fun ok i wr => ∃ (n : Nat) (r : Bool), n ≤ x.qs.length ∧ i = .int .i64 n ∧ ok = .bool r ∧ Hid (rightT x = (r && ((x.qs.drop n).all okQ && (x.fs.all okF && (x.st.all okSt && (x.al.all symB && (x.ts.all transB && true))))))) ∧ Hid (Below (w.heap.size + 1) (w.alloc (.cells #[.string x.n.t, .int .i64 x.n.l, .int .i64 x.n.c, .slice da x.ds.length dc, .slice qa x.qs.length qc, .slice fa x.fs.length fc, .slice ta x.st.length tc, .string x.s.t, .int .i64 x.s.l, .int .i64 x.s.c, .slice la x.al.length lc, .slice xa x.ts.length xc] 31)) wr)) (fun _ i _ => x.qs.length - (intOf i).toNat)
      case atStart => exact ⟨0, r0, Nat.zero_le _, rfl, rfl, Lib.hid (r_zero HX0.out), HL0⟩
      case round =>
        obtain ⟨n, r1, hn, rfl, rfl, HT1, HL1⟩ := hrel
        obtain ⟨v1, hwr⟩ : ∃ u, u = wr := ⟨_, rfl⟩
        subst hwr
        have z := box1 HL1.out 4 _ rfl
        by_cases h : n < x.qs.length
        case neg =>
          have HX1 := Lib.hid (r_end HT1.out (by omega))
          go_wp2_with fail
          clear z HT1 h hn
          go_wp2_with fail
          go_loopw [3, 7] (fun ok i wr => ∃ (n : Nat) (r : Bool), n ≤ x.fs.length ∧ i = .int .i64 n ∧ ok = .bool r ∧ Hid (rightT x = (r && ((x.fs.drop n).all okF && (x.st.all okSt && (x.al.all symB && (x.ts.all transB && true)))))) ∧ Hid (Below (w.heap.size + 1) (w.alloc (.cells #[.string x.n.t, .int .i64 x.n.l, .int .i64 x.n.c, .slice da x.ds.length dc, .slice qa x.qs.length qc, .slice fa x.fs.length fc, .slice ta x.st.length tc, .string x.s.t, .int .i64 x.s.l, .int .i64 x.s.c, .slice la x.al.length lc, .slice xa x.ts.length xc] 31)) wr)) (fun _ i _ => x.fs.length - (intOf i).toNat)
          case atStart => exact ⟨0, r1, Nat.zero_le _, rfl, rfl, Lib.hid (r_zero HX1.out), HL1⟩
          case round =>
            obtain ⟨n, r2, hn, rfl, rfl, HT2, HL2⟩ := hrel
            obtain ⟨v2, hwr⟩ : ∃ u, u = wr := ⟨_, rfl⟩
            subst hwr
            have z := box1 HL2.out 5 _ rfl
            by_cases h : n < x.fs.length
            case neg =>
              have HX2 := Lib.hid (r_end HT2.out (by omega))
              go_wp2_with fail
              clear z HT2 h hn
              go_wp2_with fail
              go_loopw [3, 8] (fun ok i wr => ∃ (n : Nat) (r : Bool), n ≤ x.st.length ∧ i = .int .i64 n ∧ ok = .bool r ∧ Hid (rightT x = (r && ((x.st.drop n).all okSt && (x.al.all symB && (x.ts.all transB && true))))) ∧ Hid (Below (w.heap.size + 1) (w.alloc (.cells #[.string x.n.t, .int .i64 x.n.l, .int .i64 x.n.c, .slice da x.ds.length dc, .slice qa x.qs.length qc, .slice fa x.fs.length fc, .slice ta x.st.length tc, .string x.s.t, .int .i64 x.s.l, .int .i64 x.s.c, .slice la x.al.length lc, .slice xa x.ts.length xc] 31)) wr)) (fun _ i _ => x.st.length - (intOf i).toNat)
              case atStart => exact ⟨0, r2, Nat.zero_le _, rfl, rfl, Lib.hid (r_zero HX2.out), HL2⟩
              case round =>
                obtain ⟨n, r3, hn, rfl, rfl, HT3, HL3⟩ := hrel
                obtain ⟨v3, hwr⟩ : ∃ u, u = wr := ⟨_, rfl⟩
                subst hwr
                have z := box1 HL3.out 6 _ rfl
                by_cases h : n < x.st.length
                case neg =>
                  have HX3 := Lib.hid (r_end HT3.out (by omega))
                  go_wp2_with fail
                  clear z HT3 h hn
                  go_wp2_with fail
                  go_loopw [3, 9] (fun ok i wr => ∃ (n : Nat) (r : Bool), n ≤ x.al.length ∧ i = .int .i64 n ∧ ok = .bool r ∧ Hid (rightT x = (r && ((x.al.drop n).all symB && (x.ts.all transB && true)))) ∧ Hid (Below (w.heap.size + 1) (w.alloc (.cells #[.string x.n.t, .int .i64 x.n.l, .int .i64 x.n.c, .slice da x.ds.length dc, .slice qa x.qs.length qc, .slice fa x.fs.length fc, .slice ta x.st.length tc, .string x.s.t, .int .i64 x.s.l, .int .i64 x.s.c, .slice la x.al.length lc, .slice xa x.ts.length xc] 31)) wr)) (fun _ i _ => x.al.length - (intOf i).toNat)
                  case atStart => exact ⟨0, r3, Nat.zero_le _, rfl, rfl, Lib.hid (r_zero HX3.out), HL3⟩
                  case round =>
                    obtain ⟨n, r4, hn, rfl, rfl, HT4, HL4⟩ := hrel
                    obtain ⟨v4, hwr⟩ : ∃ u, u = wr := ⟨_, rfl⟩
                    subst hwr
                    have z := box1 HL4.out 10 _ rfl
                    by_cases h : n < x.al.length
                    case neg =>
                      have HX4 := Lib.hid (r_end HT4.out (by omega))
                      go_wp2_with fail
                      clear z HT4 h hn
                      go_wp2_with fail
                      go_loopw [3, 10] (fun ok i wr => ∃ (n : Nat) (r : Bool), n ≤ x.ts.length ∧ i = .int .i64 n ∧ ok = .bool r ∧ Hid (rightT x = (r && ((x.ts.drop n).all transB && true))) ∧ Hid (Below (w.heap.size + 1) (w.alloc (.cells #[.string x.n.t, .int .i64 x.n.l, .int .i64 x.n.c, .slice da x.ds.length dc, .slice qa x.qs.length qc, .slice fa x.fs.length fc, .slice ta x.st.length tc, .string x.s.t, .int .i64 x.s.l, .int .i64 x.s.c, .slice la x.al.length lc, .slice xa x.ts.length xc] 31)) wr)) (fun _ i _ => x.ts.length - (intOf i).toNat)
                      case atStart => exact ⟨0, r4, Nat.zero_le _, rfl, rfl, Lib.hid (r_zero HX4.out), HL4⟩
                      case round =>
                        obtain ⟨n, r5, hn, rfl, rfl, HT5, HL5⟩ := hrel
                        obtain ⟨v5, hwr⟩ : ∃ u, u = wr := ⟨_, rfl⟩
                        subst hwr
                        have z := box1 HL5.out 11 _ rfl
                        by_cases h : n < x.ts.length
                        case neg =>
                          have HX5 := Lib.hid (r_end HT5.out (by omega))
                          go_wp2_with fail
                          clear z HT5 h hn
                          go_wp2_with fail
                          go_ret
                          exact ⟨by rw [HX5.out, Bool.and_true]; rfl, HBK.out _ HL5⟩
                        case pos =>
                          obtain ⟨y, hy⟩ := at_some (L := x.ts) rfl h
                          have HY := Lib.hid hy
                          have HW := Lib.hid (HBK.out _ HL5)
                          obtain ⟨g, off, csy, e1, hg, _, hc, hry, _⟩ := (G5.out.belowT HW.out).at' n y hy
                          have HRY := Lib.hid hry
                          obtain ⟨oa1, oc1, na1, nc1, sa1, sc1, rfl, g11, g21, g31, g41⟩ := hry
                          rw [e1] at z
                          have c0_ : v5.cell? ⟨g, off + n * 13, none⟩ = some (.string y.f.t) := hc 0 _ rfl
                          have c1_ : v5.cell? ⟨g, off + n * 13 + 1, none⟩ = some (.int .i64 y.f.l) := hc 1 _ rfl
                          have c2_ : v5.cell? ⟨g, off + n * 13 + 2, none⟩ = some (.int .i64 y.f.c) := hc 2 _ rfl
                          have c3_ : v5.cell? ⟨g, off + n * 13 + 3, none⟩ = some (.string y.t.t) := hc 3 _ rfl
                          have c4_ : v5.cell? ⟨g, off + n * 13 + 4, none⟩ = some (.int .i64 y.t.l) := hc 4 _ rfl
                          have c5_ : v5.cell? ⟨g, off + n * 13 + 5, none⟩ = some (.int .i64 y.t.c) := hc 5 _ rfl
                          have c6_ : v5.cell? ⟨g, off + n * 13 + 6, none⟩ = some (.string y.on.n) := hc 6 _ rfl
                          have c7_ : v5.cell? ⟨g, off + n * 13 + 7, none⟩ = some (.slice oa1 y.on.ar.length oc1) := hc 7 _ rfl
                          have c8_ : v5.cell? ⟨g, off + n * 13 + 8, none⟩ = some (.int .i64 y.on.l) := hc 8 _ rfl
                          have c9_ : v5.cell? ⟨g, off + n * 13 + 9, none⟩ = some (.int .i64 y.on.c) := hc 9 _ rfl
                          have c10_ : v5.cell? ⟨g, off + n * 13 + 10, none⟩ = some (.slice na1 y.ns.length nc1) := hc 10 _ rfl
                          have c11_ : v5.cell? ⟨g, off + n * 13 + 11, none⟩ = some (.int .i64 y.g) := hc 11 _ rfl
                          have c12_ : v5.cell? ⟨g, off + n * 13 + 12, none⟩ = some (.slice sa1 y.ss.length sc1) := hc 12 _ rfl
                          have hws : w.heap.size < v5.heap.size := by have := HL5.out.size; simp at this; omega
                          have HN := Lib.hid (refTr_calls y _ v5 HRY.out (HSM.out.t y (List.mem_of_getElem? hy)).2.1)
                          clear hc hy e1
                          cases r5
                          case false =>
                            go_wp2_with fail
                            go_roundw
                            case rel => exact ⟨n + 1, false, by omega, by go_num, rfl, Lib.hid (r_skip HT5.out), HL5⟩
                            case measure => simp [intOf] <;> omega
                          cases en : transB y
                          case false =>
                            have HE := Lib.hid (r_step HT5.out HY.out (show transB y = false from en))
                            rw [en] at HN
                            clear en
                            go_wp2_with fail
                            refine (HN.out).mono ?_
                            rintro e w1 ⟨rfl, k⟩
                            have HK := Lib.hid k
                            clear k
                            have HLN : Hid (Below (w.heap.size + 1) (w.alloc (.cells #[.string x.n.t, .int .i64 x.n.l, .int .i64 x.n.c, .slice da x.ds.length dc, .slice qa x.qs.length qc, .slice fa x.fs.length fc, .slice ta x.st.length tc, .string x.s.t, .int .i64 x.s.l, .int .i64 x.s.c, .slice la x.al.length lc, .slice xa x.ts.length xc] 31)) w1) := Lib.hid (HL5.out.trans (HK.out.mono (by have := HL5.out.size; simpa using this)))
                            go_wp2_with fail
                            go_roundw
                            case rel => exact ⟨n + 1, false, by omega, by go_num, rfl, Lib.hid (HE.out), HLN⟩
                            case measure => simp [intOf] <;> omega
                          have HE := Lib.hid (r_step HT5.out HY.out (show transB y = true from en))
                          rw [en] at HN
                          clear en
                          go_wp2_with fail
                          refine (HN.out).mono ?_
                          rintro e w1 ⟨rfl, k⟩
                          have HK := Lib.hid k
                          clear k
                          have HLN : Hid (Below (w.heap.size + 1) (w.alloc (.cells #[.string x.n.t, .int .i64 x.n.l, .int .i64 x.n.c, .slice da x.ds.length dc, .slice qa x.qs.length qc, .slice fa x.fs.length fc, .slice ta x.st.length tc, .string x.s.t, .int .i64 x.s.l, .int .i64 x.s.c, .slice la x.al.length lc, .slice xa x.ts.length xc] 31)) w1) := Lib.hid (HL5.out.trans (HK.out.mono (by have := HL5.out.size; simpa using this)))
                          go_wp2_with fail
                          go_roundw
                          case rel => exact ⟨n + 1, true, by omega, by go_num, rfl, Lib.hid (HE.out), HLN⟩
                          case measure => simp [intOf] <;> omega
                    case pos =>
                      obtain ⟨y, hy⟩ := at_some (L := x.al) rfl h
                      have HY := Lib.hid hy
                      have HW := Lib.hid (HBK.out _ HL4)
                      obtain ⟨g, off, csy, e1, hg, _, hc, hry, _⟩ := (G4.out.belowS HW.out).at' n y hy
                      have HRY := Lib.hid hry
                      obtain ⟨a1, c1, rfl, g11, _⟩ := hry
                      rw [e1] at z
                      have c0_ : v4.cell? ⟨g, off + n * 4, none⟩ = some (.string y.n) := hc 0 _ rfl
                      have c1_ : v4.cell? ⟨g, off + n * 4 + 1, none⟩ = some (.slice a1 y.ar.length c1) := hc 1 _ rfl
                      have c2_ : v4.cell? ⟨g, off + n * 4 + 2, none⟩ = some (.int .i64 y.l) := hc 2 _ rfl
                      have c3_ : v4.cell? ⟨g, off + n * 4 + 3, none⟩ = some (.int .i64 y.c) := hc 3 _ rfl
                      have hws : w.heap.size < v4.heap.size := by have := HL4.out.size; simp at this; omega
                      have HN := Lib.hid (refSym_calls y _ v4 HRY.out)
                      clear hc hy e1
                      cases r4
                      case false =>
                        go_wp2_with fail
                        go_roundw
                        case rel => exact ⟨n + 1, false, by omega, by go_num, rfl, Lib.hid (r_skip HT4.out), HL4⟩
                        case measure => simp [intOf] <;> omega
                      cases en : symB y
                      case false =>
                        have HE := Lib.hid (r_step HT4.out HY.out (show symB y = false from en))
                        rw [en] at HN
                        clear en
                        go_wp2_with fail
                        refine (HN.out).mono ?_
                        rintro e w1 ⟨rfl, k⟩
                        have HK := Lib.hid k
                        clear k
                        have HLN : Hid (Below (w.heap.size + 1) (w.alloc (.cells #[.string x.n.t, .int .i64 x.n.l, .int .i64 x.n.c, .slice da x.ds.length dc, .slice qa x.qs.length qc, .slice fa x.fs.length fc, .slice ta x.st.length tc, .string x.s.t, .int .i64 x.s.l, .int .i64 x.s.c, .slice la x.al.length lc, .slice xa x.ts.length xc] 31)) w1) := Lib.hid (HL4.out.trans (HK.out.mono (by have := HL4.out.size; simpa using this)))
                        go_wp2_with fail
                        go_roundw
                        case rel => exact ⟨n + 1, false, by omega, by go_num, rfl, Lib.hid (HE.out), HLN⟩
                        case measure => simp [intOf] <;> omega
                      have HE := Lib.hid (r_step HT4.out HY.out (show symB y = true from en))
                      rw [en] at HN
                      clear en
                      go_wp2_with fail
                      refine (HN.out).mono ?_
                      rintro e w1 ⟨rfl, k⟩
                      have HK := Lib.hid k
                      clear k
                      have HLN : Hid (Below (w.heap.size + 1) (w.alloc (.cells #[.string x.n.t, .int .i64 x.n.l, .int .i64 x.n.c, .slice da x.ds.length dc, .slice qa x.qs.length qc, .slice fa x.fs.length fc, .slice ta x.st.length tc, .string x.s.t, .int .i64 x.s.l, .int .i64 x.s.c, .slice la x.al.length lc, .slice xa x.ts.length xc] 31)) w1) := Lib.hid (HL4.out.trans (HK.out.mono (by have := HL4.out.size; simpa using this)))
                      go_wp2_with fail
                      go_roundw
                      case rel => exact ⟨n + 1, true, by omega, by go_num, rfl, Lib.hid (HE.out), HLN⟩
                      case measure => simp [intOf] <;> omega
                case pos =>
                  obtain ⟨y, hy⟩ := at_some (L := x.st) rfl h
                  have HY := Lib.hid hy
                  have HW := Lib.hid (HBK.out _ HL3)
                  obtain ⟨g, off, e1, hg, hc, hok⟩ := (G3.out.belowF HW.out).flat hy
                  rw [e1] at z
                  have c0_ : v3.cell? ⟨g, off + n * 5, none⟩ = some (.string y.n.t) := hc 0 _ rfl
                  have c1_ : v3.cell? ⟨g, off + n * 5 + 1, none⟩ = some (.int .i64 y.n.l) := hc 1 _ rfl
                  have c2_ : v3.cell? ⟨g, off + n * 5 + 2, none⟩ = some (.int .i64 y.n.c) := hc 2 _ rfl
                  have c3_ : v3.cell? ⟨g, off + n * 5 + 3, none⟩ = some (.bool y.nx) := hc 3 _ rfl
                  have c4_ : v3.cell? ⟨g, off + n * 5 + 4, none⟩ = some (.bool y.ac) := hc 4 _ rfl
                  have hws : w.heap.size < v3.heap.size := by have := HL3.out.size; simp at this; omega
                  have HN := Lib.hid (fun w1 => refName_calls y.n.t w1 hok)
                  clear hc hy e1 hok
                  cases r3
                  case false =>
                    go_wp2_with fail
                    go_roundw
                    case rel => exact ⟨n + 1, false, by omega, by go_num, rfl, Lib.hid (r_skip HT3.out), HL3⟩
                    case measure => simp [intOf] <;> omega
                  cases en : nameB y.n.t
                  case false =>
                    have HE := Lib.hid (r_step HT3.out HY.out (show okSt y = false from en))
                    rw [en] at HN
                    clear en
                    go_wp2_with fail
                    refine (HN.out _).mono ?_
                    rintro e w1 ⟨rfl, k⟩
                    have HK := Lib.hid k
                    clear k
                    have HLN : Hid (Below (w.heap.size + 1) (w.alloc (.cells #[.string x.n.t, .int .i64 x.n.l, .int .i64 x.n.c, .slice da x.ds.length dc, .slice qa x.qs.length qc, .slice fa x.fs.length fc, .slice ta x.st.length tc, .string x.s.t, .int .i64 x.s.l, .int .i64 x.s.c, .slice la x.al.length lc, .slice xa x.ts.length xc] 31)) w1) := Lib.hid (HL3.out.trans (HK.out.mono (by have := HL3.out.size; simpa using this)))
                    go_wp2_with fail
                    go_roundw
                    case rel => exact ⟨n + 1, false, by omega, by go_num, rfl, Lib.hid (HE.out), HLN⟩
                    case measure => simp [intOf] <;> omega
                  have HE := Lib.hid (r_step HT3.out HY.out (show okSt y = true from en))
                  rw [en] at HN
                  clear en
                  go_wp2_with fail
                  refine (HN.out _).mono ?_
                  rintro e w1 ⟨rfl, k⟩
                  have HK := Lib.hid k
                  clear k
                  have HLN : Hid (Below (w.heap.size + 1) (w.alloc (.cells #[.string x.n.t, .int .i64 x.n.l, .int .i64 x.n.c, .slice da x.ds.length dc, .slice qa x.qs.length qc, .slice fa x.fs.length fc, .slice ta x.st.length tc, .string x.s.t, .int .i64 x.s.l, .int .i64 x.s.c, .slice la x.al.length lc, .slice xa x.ts.length xc] 31)) w1) := Lib.hid (HL3.out.trans (HK.out.mono (by have := HL3.out.size; simpa using this)))
                  go_wp2_with fail
                  go_roundw
                  case rel => exact ⟨n + 1, true, by omega, by go_num, rfl, Lib.hid (HE.out), HLN⟩
                  case measure => simp [intOf] <;> omega
            case pos =>
              obtain ⟨y, hy⟩ := at_some (L := x.fs) rfl h
              have HY := Lib.hid hy
              have HW := Lib.hid (HBK.out _ HL2)
              obtain ⟨g, off, e1, hg, hc, hok⟩ := (G2.out.belowF HW.out).flat hy
              rw [e1] at z
              have c0_ : v2.cell? ⟨g, off + n * 7, none⟩ = some (.string y.n.t) := hc 0 _ rfl
              have c1_ : v2.cell? ⟨g, off + n * 7 + 1, none⟩ = some (.int .i64 y.n.l) := hc 1 _ rfl
              have c2_ : v2.cell? ⟨g, off + n * 7 + 2, none⟩ = some (.int .i64 y.n.c) := hc 2 _ rfl
              have c3_ : v2.cell? ⟨g, off + n * 7 + 3, none⟩ = some (.int .i64 y.v.k) := hc 3 _ rfl
              have c4_ : v2.cell? ⟨g, off + n * 7 + 4, none⟩ = some (.int .i64 y.v.i) := hc 4 _ rfl
              have c5_ : v2.cell? ⟨g, off + n * 7 + 5, none⟩ = some (.string y.v.s) := hc 5 _ rfl
              have c6_ : v2.cell? ⟨g, off + n * 7 + 6, none⟩ = some (.bool y.v.b) := hc 6 _ rfl
              have hws : w.heap.size < v2.heap.size := by have := HL2.out.size; simp at this; omega
              have HN := Lib.hid (fun w1 => refName_calls y.n.t w1 hok.1)
              have HR : Hid (∀ w1, Calls Tryz.prog 16 #[.agg #[.int .i64 y.v.k, .int .i64 y.v.i, .string y.v.s, .bool y.v.b]] w1 fun e w' => e = .returned (.bool (rightV y.v)) ∧ Below w1.heap.size w1 w') := Lib.hid (fun w1 => refVRight_calls y.v.k y.v.i y.v.s y.v.b w1 hok.2.1)
              clear hc hy e1 hok
              cases r2
              case false =>
                go_wp2_with fail
                go_roundw
                case rel => exact ⟨n + 1, false, by omega, by go_num, rfl, Lib.hid (r_skip HT2.out), HL2⟩
                case measure => simp [intOf] <;> omega
              cases en : nameB y.n.t
              case false =>
                have HE := Lib.hid (r_step HT2.out HY.out (show okF y = false by unfold okF; rw [en]; rfl))
                rw [en] at HN
                clear en
                go_wp2_with fail
                refine (HN.out _).mono ?_
                rintro e w1 ⟨rfl, k⟩
                have HK := Lib.hid k
                clear k
                have HLN : Hid (Below (w.heap.size + 1) (w.alloc (.cells #[.string x.n.t, .int .i64 x.n.l, .int .i64 x.n.c, .slice da x.ds.length dc, .slice qa x.qs.length qc, .slice fa x.fs.length fc, .slice ta x.st.length tc, .string x.s.t, .int .i64 x.s.l, .int .i64 x.s.c, .slice la x.al.length lc, .slice xa x.ts.length xc] 31)) w1) := Lib.hid (HL2.out.trans (HK.out.mono (by have := HL2.out.size; simpa using this)))
                go_wp2_with fail
                go_roundw
                case rel => exact ⟨n + 1, false, by omega, by go_num, rfl, Lib.hid (HE.out), HLN⟩
                case measure => simp [intOf] <;> omega
              cases er : rightV y.v
              case false =>
                have HE := Lib.hid (r_step HT2.out HY.out (show okF y = false by unfold okF; rw [en, er]; rfl))
                rw [en] at HN
                rw [er] at HR
                clear en er
                go_wp2_with fail
                refine (HN.out _).mono ?_
                rintro e w1 ⟨rfl, k⟩
                have HK := Lib.hid k
                clear k
                have z9 := (HK.out.cell (p := ⟨w.heap.size, 5, none⟩) hws).trans z
                have y0_ := (HK.out.cell (p := ⟨g, off + n * 7, none⟩) hg).trans c0_
                have y1_ := (HK.out.cell (p := ⟨g, off + n * 7 + 1, none⟩) hg).trans c1_
                have y2_ := (HK.out.cell (p := ⟨g, off + n * 7 + 2, none⟩) hg).trans c2_
                have y3_ := (HK.out.cell (p := ⟨g, off + n * 7 + 3, none⟩) hg).trans c3_
                have y4_ := (HK.out.cell (p := ⟨g, off + n * 7 + 4, none⟩) hg).trans c4_
                have y5_ := (HK.out.cell (p := ⟨g, off + n * 7 + 5, none⟩) hg).trans c5_
                have y6_ := (HK.out.cell (p := ⟨g, off + n * 7 + 6, none⟩) hg).trans c6_
                go_wp2_with fail
                refine (HR.out _).mono ?_
                rintro e w2 ⟨rfl, k⟩
                have HLN : Hid (Below (w.heap.size + 1) (w.alloc (.cells #[.string x.n.t, .int .i64 x.n.l, .int .i64 x.n.c, .slice da x.ds.length dc, .slice qa x.qs.length qc, .slice fa x.fs.length fc, .slice ta x.st.length tc, .string x.s.t, .int .i64 x.s.l, .int .i64 x.s.c, .slice la x.al.length lc, .slice xa x.ts.length xc] 31)) w2) := Lib.hid (HL2.out.trans ((HK.out.trans (k.mono HK.out.size)).mono (by have := HL2.out.size; simpa using this)))
                clear k
                go_wp2_with fail
                go_roundw
                case rel => exact ⟨n + 1, false, by omega, by go_num, rfl, Lib.hid (HE.out), HLN⟩
                case measure => simp [intOf] <;> omega
              have HE := Lib.hid (r_step HT2.out HY.out (show okF y = true by unfold okF; rw [en, er]; rfl))
              rw [en] at HN
              rw [er] at HR
              clear en er
              go_wp2_with fail
              refine (HN.out _).mono ?_
              rintro e w1 ⟨rfl, k⟩
              have HK := Lib.hid k
              clear k
              have z9 := (HK.out.cell (p := ⟨w.heap.size, 5, none⟩) hws).trans z
              have y0_ := (HK.out.cell (p := ⟨g, off + n * 7, none⟩) hg).trans c0_
              have y1_ := (HK.out.cell (p := ⟨g, off + n * 7 + 1, none⟩) hg).trans c1_
              have y2_ := (HK.out.cell (p := ⟨g, off + n * 7 + 2, none⟩) hg).trans c2_
              have y3_ := (HK.out.cell (p := ⟨g, off + n * 7 + 3, none⟩) hg).trans c3_
              have y4_ := (HK.out.cell (p := ⟨g, off + n * 7 + 4, none⟩) hg).trans c4_
              have y5_ := (HK.out.cell (p := ⟨g, off + n * 7 + 5, none⟩) hg).trans c5_
              have y6_ := (HK.out.cell (p := ⟨g, off + n * 7 + 6, none⟩) hg).trans c6_
              go_wp2_with fail
              refine (HR.out _).mono ?_
              rintro e w2 ⟨rfl, k⟩
              have HLN : Hid (Below (w.heap.size + 1) (w.alloc (.cells #[.string x.n.t, .int .i64 x.n.l, .int .i64 x.n.c, .slice da x.ds.length dc, .slice qa x.qs.length qc, .slice fa x.fs.length fc, .slice ta x.st.length tc, .string x.s.t, .int .i64 x.s.l, .int .i64 x.s.c, .slice la x.al.length lc, .slice xa x.ts.length xc] 31)) w2) := Lib.hid (HL2.out.trans ((HK.out.trans (k.mono HK.out.size)).mono (by have := HL2.out.size; simpa using this)))
              clear k
              go_wp2_with fail
              go_roundw
              case rel => exact ⟨n + 1, true, by omega, by go_num, rfl, Lib.hid (HE.out), HLN⟩
              case measure => simp [intOf] <;> omega
        case pos =>
          obtain ⟨y, hy⟩ := at_some (L := x.qs) rfl h
          have HY := Lib.hid hy
          have HW := Lib.hid (HBK.out _ HL1)
          obtain ⟨g, off, e1, hg, hc, hok⟩ := (G1.out.belowF HW.out).flat hy
          rw [e1] at z
          have c0_ : v1.cell? ⟨g, off + n * 5, none⟩ = some (.bool y.all) := hc 0 _ rfl
          have c1_ : v1.cell? ⟨g, off + n * 5 + 1, none⟩ = some (.string y.n.t) := hc 1 _ rfl
          have c2_ : v1.cell? ⟨g, off + n * 5 + 2, none⟩ = some (.int .i64 y.n.l) := hc 2 _ rfl
          have c3_ : v1.cell? ⟨g, off + n * 5 + 3, none⟩ = some (.int .i64 y.n.c) := hc 3 _ rfl
          have c4_ : v1.cell? ⟨g, off + n * 5 + 4, none⟩ = some (.int .i64 y.t) := hc 4 _ rfl
          have hws : w.heap.size < v1.heap.size := by have := HL1.out.size; simp at this; omega
          have HN := Lib.hid (fun w1 => refName_calls y.n.t w1 hok)
          clear hc hy e1 hok
          cases r1
          case false =>
            go_wp2_with fail
            go_roundw
            case rel => exact ⟨n + 1, false, by omega, by go_num, rfl, Lib.hid (r_skip HT1.out), HL1⟩
            case measure => simp [intOf] <;> omega
          cases en : nameB y.n.t
          case false =>
            have HE := Lib.hid (r_step HT1.out HY.out (show okQ y = false by unfold okQ; rw [en]; rfl))
            rw [en] at HN
            clear en
            go_wp2_with fail
            refine (HN.out _).mono ?_
            rintro e w1 ⟨rfl, k⟩
            have HK := Lib.hid k
            clear k
            have HLN : Hid (Below (w.heap.size + 1) (w.alloc (.cells #[.string x.n.t, .int .i64 x.n.l, .int .i64 x.n.c, .slice da x.ds.length dc, .slice qa x.qs.length qc, .slice fa x.fs.length fc, .slice ta x.st.length tc, .string x.s.t, .int .i64 x.s.l, .int .i64 x.s.c, .slice la x.al.length lc, .slice xa x.ts.length xc] 31)) w1) := Lib.hid (HL1.out.trans (HK.out.mono (by have := HL1.out.size; simpa using this)))
            go_wp2_with fail
            go_roundw
            case rel => exact ⟨n + 1, false, by omega, by go_num, rfl, Lib.hid (HE.out), HLN⟩
            case measure => simp [intOf] <;> omega
          by_cases k1 : 1 ≤ y.t
          case neg =>
            have t1 : decide (1 ≤ y.t) = false := decide_eq_false k1
            have HE := Lib.hid (r_step HT1.out HY.out (show okQ y = false by unfold okQ kindB; rw [decide_eq_false k1, Bool.false_and, Bool.and_false]))
            rw [en] at HN
            clear en k1
            go_wp2_with fail
            refine (HN.out _).mono ?_
            rintro e w1 ⟨rfl, k⟩
            have HK := Lib.hid k
            clear k
            have HLN : Hid (Below (w.heap.size + 1) (w.alloc (.cells #[.string x.n.t, .int .i64 x.n.l, .int .i64 x.n.c, .slice da x.ds.length dc, .slice qa x.qs.length qc, .slice fa x.fs.length fc, .slice ta x.st.length tc, .string x.s.t, .int .i64 x.s.l, .int .i64 x.s.c, .slice la x.al.length lc, .slice xa x.ts.length xc] 31)) w1) := Lib.hid (HL1.out.trans (HK.out.mono (by have := HL1.out.size; simpa using this)))
            have z9 := (HK.out.cell (p := ⟨w.heap.size, 4, none⟩) hws).trans z
            have y0_ := (HK.out.cell (p := ⟨g, off + n * 5, none⟩) hg).trans c0_
            have y1_ := (HK.out.cell (p := ⟨g, off + n * 5 + 1, none⟩) hg).trans c1_
            have y2_ := (HK.out.cell (p := ⟨g, off + n * 5 + 2, none⟩) hg).trans c2_
            have y3_ := (HK.out.cell (p := ⟨g, off + n * 5 + 3, none⟩) hg).trans c3_
            have y4_ := (HK.out.cell (p := ⟨g, off + n * 5 + 4, none⟩) hg).trans c4_
            go_wp2_with fail
            go_roundw
            case rel => exact ⟨n + 1, false, by omega, by go_num, rfl, Lib.hid (HE.out), HLN⟩
            case measure => simp [intOf] <;> omega
          have t1 : decide (1 ≤ y.t) = true := decide_eq_true k1
          by_cases k2 : y.t ≤ 3
          case neg =>
            have t2 : decide (y.t ≤ 3) = false := decide_eq_false k2
            have HE := Lib.hid (r_step HT1.out HY.out (show okQ y = false by unfold okQ kindB; rw [decide_eq_false k2, Bool.and_false, Bool.and_false]))
            rw [en] at HN
            clear en k1 k2
            go_wp2_with fail
            refine (HN.out _).mono ?_
            rintro e w1 ⟨rfl, k⟩
            have HK := Lib.hid k
            clear k
            have HLN : Hid (Below (w.heap.size + 1) (w.alloc (.cells #[.string x.n.t, .int .i64 x.n.l, .int .i64 x.n.c, .slice da x.ds.length dc, .slice qa x.qs.length qc, .slice fa x.fs.length fc, .slice ta x.st.length tc, .string x.s.t, .int .i64 x.s.l, .int .i64 x.s.c, .slice la x.al.length lc, .slice xa x.ts.length xc] 31)) w1) := Lib.hid (HL1.out.trans (HK.out.mono (by have := HL1.out.size; simpa using this)))
            have z9 := (HK.out.cell (p := ⟨w.heap.size, 4, none⟩) hws).trans z
            have y0_ := (HK.out.cell (p := ⟨g, off + n * 5, none⟩) hg).trans c0_
            have y1_ := (HK.out.cell (p := ⟨g, off + n * 5 + 1, none⟩) hg).trans c1_
            have y2_ := (HK.out.cell (p := ⟨g, off + n * 5 + 2, none⟩) hg).trans c2_
            have y3_ := (HK.out.cell (p := ⟨g, off + n * 5 + 3, none⟩) hg).trans c3_
            have y4_ := (HK.out.cell (p := ⟨g, off + n * 5 + 4, none⟩) hg).trans c4_
            go_wp2_with fail
            go_roundw
            case rel => exact ⟨n + 1, false, by omega, by go_num, rfl, Lib.hid (HE.out), HLN⟩
            case measure => simp [intOf] <;> omega
          have t2 : decide (y.t ≤ 3) = true := decide_eq_true k2
          have HE := Lib.hid (r_step HT1.out HY.out (show okQ y = true by unfold okQ kindB; rw [en, decide_eq_true k1, decide_eq_true k2]; rfl))
          rw [en] at HN
          clear en k1 k2
          go_wp2_with fail
          refine (HN.out _).mono ?_
          rintro e w1 ⟨rfl, k⟩
          have HK := Lib.hid k
          clear k
          have HLN : Hid (Below (w.heap.size + 1) (w.alloc (.cells #[.string x.n.t, .int .i64 x.n.l, .int .i64 x.n.c, .slice da x.ds.length dc, .slice qa x.qs.length qc, .slice fa x.fs.length fc, .slice ta x.st.length tc, .string x.s.t, .int .i64 x.s.l, .int .i64 x.s.c, .slice la x.al.length lc, .slice xa x.ts.length xc] 31)) w1) := Lib.hid (HL1.out.trans (HK.out.mono (by have := HL1.out.size; simpa using this)))
          have z9 := (HK.out.cell (p := ⟨w.heap.size, 4, none⟩) hws).trans z
          have y0_ := (HK.out.cell (p := ⟨g, off + n * 5, none⟩) hg).trans c0_
          have y1_ := (HK.out.cell (p := ⟨g, off + n * 5 + 1, none⟩) hg).trans c1_
          have y2_ := (HK.out.cell (p := ⟨g, off + n * 5 + 2, none⟩) hg).trans c2_
          have y3_ := (HK.out.cell (p := ⟨g, off + n * 5 + 3, none⟩) hg).trans c3_
          have y4_ := (HK.out.cell (p := ⟨g, off + n * 5 + 4, none⟩) hg).trans c4_
          go_wp2_with fail
          go_roundw
          case rel => exact ⟨n + 1, true, by omega, by go_num, rfl, Lib.hid (HE.out), HLN⟩
          case measure => simp [intOf] <;> omega
    case pos =>
      obtain ⟨y, hy⟩ := at_some (L := x.ds) rfl h
      have HY := Lib.hid hy
      have HW := Lib.hid (HBK.out _ HL0)
      obtain ⟨g, off, csy, e1, hg, _, hc, hry, _⟩ := (G0.out.belowD HW.out).at' n y hy
      have HRY := Lib.hid hry
      obtain ⟨a1, c1, rfl, g11, _⟩ := hry
      rw [e1] at z
      have c0_ : v0.cell? ⟨g, off + n * 4, none⟩ = some (.string y.n.t) := hc 0 _ rfl
      have c1_ : v0.cell? ⟨g, off + n * 4 + 1, none⟩ = some (.int .i64 y.n.l) := hc 1 _ rfl
      have c2_ : v0.cell? ⟨g, off + n * 4 + 2, none⟩ = some (.int .i64 y.n.c) := hc 2 _ rfl
      have c3_ : v0.cell? ⟨g, off + n * 4 + 3, none⟩ = some (.slice a1 y.ks.length c1) := hc 3 _ rfl
      have hws : w.heap.size < v0.heap.size := by have := HL0.out.size; simp at this; omega
      have hyn : okS y.n.t := by obtain ⟨_, _, _, _, h⟩ := HRY.out; exact h
      have HN := Lib.hid (fun w1 => refName_calls y.n.t w1 hyn)
      have hks := g11.small
      have HG := Lib.hid g11
      clear hc hy e1 g11 hyn
      have z3 := z
      cases r0
      case false =>
        go_wp2_with fail
        go_loopw [3, 5] (fun ok i wr => ∃ (m : Nat) (r : Bool), m ≤ y.ks.length ∧ i = .int .i64 m ∧ ok = .bool r ∧ Hid (rightT x = (r && ((y.ks.drop m).all kindB && ((x.ds.drop (n + 1)).all okD && (x.qs.all okQ && (x.fs.all okF && (x.st.all okSt && (x.al.all symB && (x.ts.all transB && true))))))))) ∧ Hid (Below v0.heap.size v0 wr)) (fun _ i _ => y.ks.length - (intOf i).toNat)
        case atStart => exact ⟨0, false, Nat.zero_le _, rfl, rfl, Lib.hid (d_skip HT0.out), Lib.hid (Below.refl _ _)⟩
        case round =>
          obtain ⟨m, r, hm, rfl, rfl, HT, HK⟩ := hrel
          have z : wr.cell? ⟨w.heap.size, 3, none⟩ = _ := (HK.out.cell (p := ⟨w.heap.size, 3, none⟩) hws).trans z3
          have y3 : wr.cell? ⟨g, off + n * 4 + 3, none⟩ = _ := (HK.out.cell (p := ⟨g, off + n * 4 + 3, none⟩) hg).trans c3_
          have HLN : Hid (Below (w.heap.size + 1) (w.alloc (.cells #[.string x.n.t, .int .i64 x.n.l, .int .i64 x.n.c, .slice da x.ds.length dc, .slice qa x.qs.length qc, .slice fa x.fs.length fc, .slice ta x.st.length tc, .string x.s.t, .int .i64 x.s.l, .int .i64 x.s.c, .slice la x.al.length lc, .slice xa x.ts.length xc] 31)) wr) := Lib.hid (HL0.out.trans (HK.out.mono (by have := HL0.out.size; simpa using this)))
          by_cases hlt : m < y.ks.length
          case neg =>
            have HX := Lib.hid (r_end HT.out (by omega))
            go_wp2_with fail
            go_roundw
            case rel => exact ⟨n + 1, r, by omega, by go_num, rfl, Lib.hid (HX.out), HLN⟩
            case measure => simp [intOf] <;> omega
          case pos =>
            obtain ⟨q, hq⟩ := at_some (L := y.ks) rfl hlt
            have HQ := Lib.hid hq
            obtain ⟨g2, off2, e2, hg2, hc2, _⟩ := (HG.out.belowF HK.out).flat hq
            rw [e2] at y3
            have d0 : wr.cell? ⟨g2, off2 + m, none⟩ = some (.int .i64 q) := by have := hc2 0 _ rfl; rwa [Nat.mul_one, Nat.add_zero] at this
            clear hc2 hq e2
            cases r
            case false =>
              go_wp2_with fail
              go_roundw
              case rel => exact ⟨m + 1, false, by omega, by go_num, rfl, Lib.hid (r_skip HT.out), HK⟩
              case measure => simp [intOf] <;> omega
            by_cases k1 : 1 ≤ q
            case neg =>
              have t1 : decide (1 ≤ q) = false := decide_eq_false k1
              have HE := Lib.hid (r_step HT.out HQ.out (show kindB q = false by unfold kindB; rw [decide_eq_false k1]; rfl))
              clear k1
              go_wp2_with fail
              go_roundw
              case rel => exact ⟨m + 1, false, by omega, by go_num, rfl, Lib.hid (HE.out), HK⟩
              case measure => simp [intOf] <;> omega
            have t1 : decide (1 ≤ q) = true := decide_eq_true k1
            by_cases k2 : q ≤ 3
            case neg =>
              have t2 : decide (q ≤ 3) = false := decide_eq_false k2
              have HE := Lib.hid (r_step HT.out HQ.out (show kindB q = false by unfold kindB; rw [decide_eq_false k2, Bool.and_false]))
              clear k1 k2
              go_wp2_with fail
              go_roundw
              case rel => exact ⟨m + 1, false, by omega, by go_num, rfl, Lib.hid (HE.out), HK⟩
              case measure => simp [intOf] <;> omega
            have t2 : decide (q ≤ 3) = true := decide_eq_true k2
            have HE := Lib.hid (r_step HT.out HQ.out (show kindB q = true by unfold kindB; rw [decide_eq_true k1, decide_eq_true k2]; rfl))
            clear k1 k2
            go_wp2_with fail
            go_roundw
            case rel => exact ⟨m + 1, true, by omega, by go_num, rfl, Lib.hid (HE.out), HK⟩
            case measure => simp [intOf] <;> omega
      cases en : nameB y.n.t
      case false =>
        have HD := Lib.hid (d_step HT0.out HY.out en)
        rw [en] at HN
        clear en
        go_wp2_with fail
        refine (HN.out _).mono ?_
        rintro e w1 ⟨rfl, k⟩
        have HK := Lib.hid k
        clear k
        go_wp2_with fail
        go_loopw [3, 5] (fun ok i wr => ∃ (m : Nat) (r : Bool), m ≤ y.ks.length ∧ i = .int .i64 m ∧ ok = .bool r ∧ Hid (rightT x = (r && ((y.ks.drop m).all kindB && ((x.ds.drop (n + 1)).all okD && (x.qs.all okQ && (x.fs.all okF && (x.st.all okSt && (x.al.all symB && (x.ts.all transB && true))))))))) ∧ Hid (Below v0.heap.size v0 wr)) (fun _ i _ => y.ks.length - (intOf i).toNat)
        case atStart => exact ⟨0, false, Nat.zero_le _, rfl, rfl, HD, HK⟩
        case round =>
          obtain ⟨m, r, hm, rfl, rfl, HT, HK⟩ := hrel
          have z : wr.cell? ⟨w.heap.size, 3, none⟩ = _ := (HK.out.cell (p := ⟨w.heap.size, 3, none⟩) hws).trans z3
          have y3 : wr.cell? ⟨g, off + n * 4 + 3, none⟩ = _ := (HK.out.cell (p := ⟨g, off + n * 4 + 3, none⟩) hg).trans c3_
          have HLN : Hid (Below (w.heap.size + 1) (w.alloc (.cells #[.string x.n.t, .int .i64 x.n.l, .int .i64 x.n.c, .slice da x.ds.length dc, .slice qa x.qs.length qc, .slice fa x.fs.length fc, .slice ta x.st.length tc, .string x.s.t, .int .i64 x.s.l, .int .i64 x.s.c, .slice la x.al.length lc, .slice xa x.ts.length xc] 31)) wr) := Lib.hid (HL0.out.trans (HK.out.mono (by have := HL0.out.size; simpa using this)))
          by_cases hlt : m < y.ks.length
          case neg =>
            have HX := Lib.hid (r_end HT.out (by omega))
            go_wp2_with fail
            go_roundw
            case rel => exact ⟨n + 1, r, by omega, by go_num, rfl, Lib.hid (HX.out), HLN⟩
            case measure => simp [intOf] <;> omega
          case pos =>
            obtain ⟨q, hq⟩ := at_some (L := y.ks) rfl hlt
            have HQ := Lib.hid hq
            obtain ⟨g2, off2, e2, hg2, hc2, _⟩ := (HG.out.belowF HK.out).flat hq
            rw [e2] at y3
            have d0 : wr.cell? ⟨g2, off2 + m, none⟩ = some (.int .i64 q) := by have := hc2 0 _ rfl; rwa [Nat.mul_one, Nat.add_zero] at this
            clear hc2 hq e2
            cases r
            case false =>
              go_wp2_with fail
              go_roundw
              case rel => exact ⟨m + 1, false, by omega, by go_num, rfl, Lib.hid (r_skip HT.out), HK⟩
              case measure => simp [intOf] <;> omega
            by_cases k1 : 1 ≤ q
            case neg =>
              have t1 : decide (1 ≤ q) = false := decide_eq_false k1
              have HE := Lib.hid (r_step HT.out HQ.out (show kindB q = false by unfold kindB; rw [decide_eq_false k1]; rfl))
              clear k1
              go_wp2_with fail
              go_roundw
              case rel => exact ⟨m + 1, false, by omega, by go_num, rfl, Lib.hid (HE.out), HK⟩
              case measure => simp [intOf] <;> omega
            have t1 : decide (1 ≤ q) = true := decide_eq_true k1
            by_cases k2 : q ≤ 3
            case neg =>
              have t2 : decide (q ≤ 3) = false := decide_eq_false k2
              have HE := Lib.hid (r_step HT.out HQ.out (show kindB q = false by unfold kindB; rw [decide_eq_false k2, Bool.and_false]))
              clear k1 k2
              go_wp2_with fail
              go_roundw
              case rel => exact ⟨m + 1, false, by omega, by go_num, rfl, Lib.hid (HE.out), HK⟩
              case measure => simp [intOf] <;> omega
            have t2 : decide (q ≤ 3) = true := decide_eq_true k2
            have HE := Lib.hid (r_step HT.out HQ.out (show kindB q = true by unfold kindB; rw [decide_eq_true k1, decide_eq_true k2]; rfl))
            clear k1 k2
            go_wp2_with fail
            go_roundw
            case rel => exact ⟨m + 1, true, by omega, by go_num, rfl, Lib.hid (HE.out), HK⟩
            case measure => simp [intOf] <;> omega
      have HD := Lib.hid (d_step HT0.out HY.out en)
      rw [en] at HN
      clear en
      go_wp2_with fail
      refine (HN.out _).mono ?_
      rintro e w1 ⟨rfl, k⟩
      have HK := Lib.hid k
      clear k
      go_wp2_with fail
      go_loopw [3, 5] (fun ok i wr => ∃ (m : Nat) (r : Bool), m ≤ y.ks.length ∧ i = .int .i64 m ∧ ok = .bool r ∧ Hid (rightT x = (r && ((y.ks.drop m).all kindB && ((x.ds.drop (n + 1)).all okD && (x.qs.all okQ && (x.fs.all okF && (x.st.all okSt && (x.al.all symB && (x.ts.all transB && true))))))))) ∧ Hid (Below v0.heap.size v0 wr)) (fun _ i _ => y.ks.length - (intOf i).toNat)
      case atStart => exact ⟨0, true, Nat.zero_le _, rfl, rfl, HD, HK⟩
      case round =>
        obtain ⟨m, r, hm, rfl, rfl, HT, HK⟩ := hrel
        have z : wr.cell? ⟨w.heap.size, 3, none⟩ = _ := (HK.out.cell (p := ⟨w.heap.size, 3, none⟩) hws).trans z3
        have y3 : wr.cell? ⟨g, off + n * 4 + 3, none⟩ = _ := (HK.out.cell (p := ⟨g, off + n * 4 + 3, none⟩) hg).trans c3_
        have HLN : Hid (Below (w.heap.size + 1) (w.alloc (.cells #[.string x.n.t, .int .i64 x.n.l, .int .i64 x.n.c, .slice da x.ds.length dc, .slice qa x.qs.length qc, .slice fa x.fs.length fc, .slice ta x.st.length tc, .string x.s.t, .int .i64 x.s.l, .int .i64 x.s.c, .slice la x.al.length lc, .slice xa x.ts.length xc] 31)) wr) := Lib.hid (HL0.out.trans (HK.out.mono (by have := HL0.out.size; simpa using this)))
        by_cases hlt : m < y.ks.length
        case neg =>
          have HX := Lib.hid (r_end HT.out (by omega))
          go_wp2_with fail
          go_roundw
          case rel => exact ⟨n + 1, r, by omega, by go_num, rfl, Lib.hid (HX.out), HLN⟩
          case measure => simp [intOf] <;> omega
        case pos =>
          obtain ⟨q, hq⟩ := at_some (L := y.ks) rfl hlt
          have HQ := Lib.hid hq
          obtain ⟨g2, off2, e2, hg2, hc2, _⟩ := (HG.out.belowF HK.out).flat hq
          rw [e2] at y3
          have d0 : wr.cell? ⟨g2, off2 + m, none⟩ = some (.int .i64 q) := by have := hc2 0 _ rfl; rwa [Nat.mul_one, Nat.add_zero] at this
          clear hc2 hq e2
          cases r
          case false =>
            go_wp2_with fail
            go_roundw
            case rel => exact ⟨m + 1, false, by omega, by go_num, rfl, Lib.hid (r_skip HT.out), HK⟩
            case measure => simp [intOf] <;> omega
          by_cases k1 : 1 ≤ q
          case neg =>
            have t1 : decide (1 ≤ q) = false := decide_eq_false k1
            have HE := Lib.hid (r_step HT.out HQ.out (show kindB q = false by unfold kindB; rw [decide_eq_false k1]; rfl))
            clear k1
            go_wp2_with fail
            go_roundw
            case rel => exact ⟨m + 1, false, by omega, by go_num, rfl, Lib.hid (HE.out), HK⟩
            case measure => simp [intOf] <;> omega
          have t1 : decide (1 ≤ q) = true := decide_eq_true k1
          by_cases k2 : q ≤ 3
          case neg =>
            have t2 : decide (q ≤ 3) = false := decide_eq_false k2
            have HE := Lib.hid (r_step HT.out HQ.out (show kindB q = false by unfold kindB; rw [decide_eq_false k2, Bool.and_false]))
            clear k1 k2
            go_wp2_with fail
            go_roundw
            case rel => exact ⟨m + 1, false, by omega, by go_num, rfl, Lib.hid (HE.out), HK⟩
            case measure => simp [intOf] <;> omega
          have t2 : decide (q ≤ 3) = true := decide_eq_true k2
          have HE := Lib.hid (r_step HT.out HQ.out (show kindB q = true by unfold kindB; rw [decide_eq_true k1, decide_eq_true k2]; rfl))
          clear k1 k2
          go_wp2_with fail
          go_roundw
          case rel => exact ⟨m + 1, true, by omega, by go_num, rfl, Lib.hid (HE.out), HK⟩
          case measure => simp [intOf] <;> omega
end Go.Proofs.YtojabkhfkbfeaaaGreatDoor
