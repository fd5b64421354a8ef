/- What binding.both goes through: the slots of two bindings, as their variables rise. -/
import Derived.RangeFuncNested
import Derived.RangeFuncBound
import Derived.RangeFuncCalls
import Derived.RangeFuncLeaves
import Derived.Shelf.Abstract
import Derived.Shelf.RegionOpen
import Derived.WalkKit
import Derived.OwnWalkIn
import Derived.TacticsInMore
import Derived.LoopNIn
import Derived.LoopIn
import Derived.Sort.QuietIn
import Derived.Sort.CutIn
import Derived.Test.YtjohiehlnbgdaaaDoorSlotGet
namespace Go.Proofs.YtjohiehlnbgdaaaDoor
open Go.RowKit Go.Shelf
set_option linter.unusedVariables false
attribute [local go_sem] Oper.semAt_some

/-- The slots of two lists, as their variables rise, and whether the other one has no other value for it. -/
def bothL : List Sd → List Sd → List (Sd × Bool)
  | [], [] => []
  | a :: A, [] => (a, true) :: bothL A []
  | [], b :: B => (b, true) :: bothL [] B
  | a :: A, b :: B => if a.x < b.x then (a, true) :: bothL A (b :: B) else if b.x < a.x then (b, true) :: bothL (a :: A) B else (a, decide (a = b)) :: bothL A B
termination_by A B => A.length + B.length

/-- What a round of the loop over both keeps. -/
def KpB (n₀ Ba Bb : Nat) (W W' : World) : Prop := Below n₀ W W' ∧ W'.cell? ⟨Ba, 0, none⟩ = W.cell? ⟨Ba, 0, none⟩ ∧ W'.cell? ⟨Bb, 0, none⟩ = W.cell? ⟨Bb, 0, none⟩
theorem lt_of_cell {w : World} {g o : Nat} {v : Value} (h : w.cell? ⟨g, o, none⟩ = some v) : g < w.heap.size := by
  rcases Nat.lt_or_ge g w.heap.size with h' | h'
  · exact h'
  · simp [World.cell?, Array.getElem?_eq_none h'] at h
theorem grown_of_below {W W' : World} (h : Below W.heap.size W W') : W.grownBy W' none :=
  ⟨h.os, h.tape, h.output, h.size, fun k hk _ => h.block k hk⟩

def Free5 (g : Nat) (w : World) : Prop :=
  w.frozen? ⟨g, 0, none⟩ = false ∧ w.frozen? ⟨g, 1, none⟩ = false ∧ w.frozen? ⟨g, 2, none⟩ = false ∧ w.frozen? ⟨g, 3, none⟩ = false ∧ w.frozen? ⟨g, 4, none⟩ = false
/-- A slot's cells lie in a block of its own, and nothing else has turned. -/
structure NewS (w : World) (g : Nat) (z : Sd) (w' : World) : Prop where
  below : Below w.heap.size w w'
  lies : LiesS g 0 z w'
  free : Free5 g w'
  ge : w.heap.size ≤ g
  lt : g < w'.heap.size
theorem NewS.new (w : World) (z : Sd) (t : TypeId) : NewS w w.heap.size z (w.alloc (.cells #[.int .i64 z.x, .int .i64 z.v.k, .int .i64 z.v.i, .string z.v.s, .bool z.v.b] t)) :=
  ⟨(Below.refl _ w).alloc (Nat.le_refl _) _, LiesS.new z w t, by refine ⟨?_, ?_, ?_, ?_, ?_⟩ <;> rw [World.frozen?_alloc_at (hn := rfl)], Nat.le_refl _, by simp⟩
theorem NewS.drewN {w : World} {g : Nat} {z : Sd} {w' : World} (h : NewS w g z w') (n : Nat) : NewS w g z (w'.drewN n) := ⟨below_drewN n h.below, h.lies, h.free, h.ge, h.lt⟩
theorem NewS.drew {w : World} {g : Nat} {z : Sd} {w' : World} (h : NewS w g z w') : NewS w g z w'.drew := ⟨h.below.drew, h.lies, h.free, h.ge, h.lt⟩
/-- A slot stored over another one. -/
def setS (w : World) (g : Nat) (z : Sd) : World := ((((w.setCell ⟨g, 0, none⟩ (.int .i64 z.x)).setCell ⟨g, 1, none⟩ (.int .i64 z.v.k)).setCell ⟨g, 2, none⟩ (.int .i64 z.v.i)).setCell ⟨g, 3, none⟩ (.string z.v.s)).setCell ⟨g, 4, none⟩ (.bool z.v.b)
theorem LiesS.set {g : Nat} {y : Sd} {w : World} (h : LiesS g 0 y w) (z : Sd) : LiesS g 0 z (setS w g z) := by
  obtain ⟨h0, h1, h2, h3, h4⟩ := h
  unfold setS
  refine ⟨?_, ?_, ?_, ?_, ?_⟩
  · rw [World.cell?_setCell_other _ _ _ _ (by simp), World.cell?_setCell_other _ _ _ _ (by simp), World.cell?_setCell_other _ _ _ _ (by simp), World.cell?_setCell_other _ _ _ _ (by simp)]
    exact World.cell?_setCell_same _ _ _ h0
  · rw [World.cell?_setCell_other _ _ _ _ (by simp), World.cell?_setCell_other _ _ _ _ (by simp), World.cell?_setCell_other _ _ _ _ (by simp)]
    exact World.cell?_setCell_same _ _ _ ((World.cell?_setCell_other _ _ _ _ (by simp)).trans h1)
  · rw [World.cell?_setCell_other _ _ _ _ (by simp), World.cell?_setCell_other _ _ _ _ (by simp)]
    exact World.cell?_setCell_same _ _ _ (((World.cell?_setCell_other _ _ _ _ (by simp)).trans (World.cell?_setCell_other _ _ _ _ (by simp))).trans h2)
  · rw [World.cell?_setCell_other _ _ _ _ (by simp)]
    exact World.cell?_setCell_same _ _ _ ((((World.cell?_setCell_other _ _ _ _ (by simp)).trans (World.cell?_setCell_other _ _ _ _ (by simp))).trans (World.cell?_setCell_other _ _ _ _ (by simp))).trans h3)
  · exact World.cell?_setCell_same _ _ _ (((((World.cell?_setCell_other _ _ _ _ (by simp)).trans (World.cell?_setCell_other _ _ _ _ (by simp))).trans (World.cell?_setCell_other _ _ _ _ (by simp))).trans (World.cell?_setCell_other _ _ _ _ (by simp))).trans h4)
theorem NewS.set {w : World} {g : Nat} {y : Sd} {w' : World} (h : NewS w g y w') (z : Sd) : NewS w g z (setS w' g z) :=
  ⟨((((h.below.setCell h.ge _).setCell h.ge _).setCell h.ge _).setCell h.ge _).setCell h.ge _, h.lies.set z, by
    obtain ⟨f0, f1, f2, f3, f4⟩ := h.free
    refine ⟨?_, ?_, ?_, ?_, ?_⟩ <;> simp [setS, *], h.ge, by unfold setS; simpa using h.lt⟩
theorem NewS.cell {w : World} {g : Nat} {y : Sd} {w' : World} (h : NewS w g y w') {b o : Nat} {v : Value} (hb : b < w.heap.size) (hc : w.cell? ⟨b, o, none⟩ = some v) : w'.cell? ⟨b, o, none⟩ = some v :=
  (h.below.cell (p := ⟨b, o, none⟩) hb).trans hc
theorem NewS.zero (w : World) (t : TypeId) : NewS w w.heap.size ⟨0, ⟨0, 0, ⟨#[]⟩, false⟩⟩ (w.alloc (.cells #[.int .i64 0, .int .i64 0, .int .i64 0, .string ⟨#[]⟩, .bool false] t)) := NewS.new w ⟨0, ⟨0, 0, ⟨#[]⟩, false⟩⟩ t

set_option maxRecDepth 100000 in
set_option maxHeartbeats 1000000 in
theorem both1_in (n : Nat) (hn : 1 ≤ n) (l Ba Bb : Nat) (a b : Option Addr) (la ca lb cb : Nat) (A B : List Sd) (J Jx : List (Sd × Bool) → World → Prop)
    (w0 : World) (hsA : SIn w0 a la A) (hsB : SIn w0 b lb B) 
    (W : World) (hJ : AbidesFrom W.heap.size J)
    (hY : ∀ pre x W, J pre W → pre.length < (bothL A B).length → YieldAt Fence.wide (n - 1) Tryd.prog l #[.agg #[.int .i64 x.1.x, .int .i64 x.1.v.k, .int .i64 x.1.v.i, .string x.1.v.s, .bool x.1.v.b], .bool x.2] W fun e W' =>
      (e = .returned (.bool true) ∧ J (pre ++ [x]) W' ∧ KpB w0.heap.size Ba Bb W W') ∨ (e = .returned (.bool false) ∧ Jx (pre ++ [x]) W'))
    (hBa : W.cell? ⟨Ba, 0, none⟩ = some (.slice a la ca)) (hBb : W.cell? ⟨Bb, 0, none⟩ = some (.slice b lb cb)) (hW : Below w0.heap.size w0 W) (hBal : Ba < W.heap.size) (hBbl : Bb < W.heap.size) (h0 : J [] W) :
    CallsIn Fence.wide n Tryd.prog 43 #[.func (.yield l) #[] #[], .pointer (some ⟨Ba, 0, none⟩), .pointer (some ⟨Bb, 0, none⟩)] W fun e W' => (∃ v, e = .returned v) ∧
      ((∃ ys, ys = bothL A B ∧ J ys W') ∨ (∃ pre, pre <+: bothL A B ∧ Jx pre W')) := by
  refine callsIn_of_wp Tryd.func43 rfl trivial ?_ rfl
  simp only [Tryd.ntmps43, List.size_toArray, List.length_cons, List.length_nil, Nat.reduceAdd, Nat.reduceSub, Array.replicate_succ, Array.replicate_zero, List.push_toArray, List.append_toArray, List.nil_append, List.cons_append]
  have HSA := Lib.hid hsA
  have HSB := Lib.hid hsB
  have HLA := Lib.hid hsA.leng
  have HLB := Lib.hid hsB.leng
  have hsmA := hsA.small
  have hsmB := hsB.small
  have HY := Lib.hid hY
  have HJ := Lib.hid hJ
  have HW := Lib.hid hW
  clear hsA hsB hY hJ hW
  gi_wp2
  gi_loopw [4, 5] (fun p q wr => ∃ (i k : Nat) (pre : List (Sd × Bool)), i ≤ la ∧ k ≤ lb ∧ p = .int .i64 i ∧ q = .int .i64 k ∧ Hid (bothL A B = pre ++ bothL (A.drop i) (B.drop k)) ∧ Hid (J pre wr) ∧ wr.cell? ⟨Ba, 0, none⟩ = some (.slice a la ca) ∧ wr.cell? ⟨Bb, 0, none⟩ = some (.slice b lb cb) ∧ Hid (Below w0.heap.size w0 wr) ∧ Ba < wr.heap.size ∧ Bb < wr.heap.size)
    (fun p q _ => (la - (intOf p).toNat) + (lb - (intOf q).toNat))
  case atStart => exact ⟨0, 0, [], Nat.zero_le _, Nat.zero_le _, rfl, rfl, Lib.hid rfl, Lib.hid h0, hBa, hBb, HW, hBal, hBbl⟩
  case round =>
    obtain ⟨i, k, pre, hi, hk, rfl, rfl, HE, HJ1, b1, b2, HB, l1, l2⟩ := hrel
    by_cases h1 : i < la
    case neg =>
      obtain rfl : i = la := by omega
      by_cases h2 : k < lb
      case neg =>
        obtain rfl : k = lb := by omega
        gi_wp2
        go_end0
        exact ⟨⟨_, rfl⟩, .inl ⟨pre, by rw [HE.out, List.drop_eq_nil_iff (l := A).2 (by rw [HLA.out]; exact Nat.le_refl _), List.drop_eq_nil_iff (l := B).2 (by rw [HLB.out]; exact Nat.le_refl _), bothL, List.append_nil], HJ1.out⟩⟩
      case pos =>
        obtain ⟨g', off', rfl, hg2, hc2⟩ := HSB.out.at' HB.out h2
        have hgw2 : g' < wr.heap.size := Nat.lt_of_lt_of_le hg2 HB.out.size
        have hdb := drop_at B k (by rw [HLB.out]; exact h2)
        generalize B.getD k default = y at hc2 hdb
        have HDB := Lib.hid hdb
        obtain ⟨d0, d1, d2, d3, d4⟩ := hc2
        clear hdb
        have tk : ((k : Int) == (lb : Int)) = false := by simp; omega
        have HX : Hid (bothL (A.drop i) (B.drop k) = (y, true) :: bothL (A.drop i) (B.drop (k + 1))) := Lib.hid (by rw [HDB.out, List.drop_eq_nil_iff (l := A).2 (by rw [HLA.out]; exact Nat.le_refl _), bothL])
        gi_wp2
        gi_quiet (fail)
        obtain ⟨wq, hwq⟩ : ∃ wv : World, (wr.alloc (.cells #[.int .i64 0, .int .i64 0, .int .i64 0, .string ⟨#[]⟩, .bool false] 36)).drewN nq = wv := ⟨_, rfl⟩
        have HN : Hid (NewS wr wr.heap.size ⟨0, ⟨0, 0, ⟨#[]⟩, false⟩⟩ wq) := Lib.hid (by rw [← hwq]; exact (NewS.zero wr _).drewN nq)
        rw [hwq]
        clear hwq
        obtain ⟨s0, s1, s2, s3, s4⟩ := HN.out.lies
        obtain ⟨f0, f1, f2, f3, f4⟩ := HN.out.free
        dsimp only at s0 s1 s2 s3 s4
        have ea := HN.out.cell l1 b1
        have eb := HN.out.cell l2 b2
        have cb0 := HN.out.cell hgw2 d0
        have cb1 := HN.out.cell hgw2 d1
        have cb2 := HN.out.cell hgw2 d2
        have cb3 := HN.out.cell hgw2 d3
        have cb4 := HN.out.cell hgw2 d4
        gi_wp2
        gi_quiet (fail)
        obtain ⟨wqr, hwq⟩ : ∃ wv : World, (wq).drewN nq = wv := ⟨_, rfl⟩
        have HNr : Hid (NewS wr wr.heap.size ⟨0, ⟨0, 0, ⟨#[]⟩, false⟩⟩ wqr) := Lib.hid (by rw [← hwq]; exact (HN.out).drewN nq)
        rw [hwq]
        clear hwq
        obtain ⟨sr0, sr1, sr2, sr3, sr4⟩ := HNr.out.lies
        obtain ⟨fr0, fr1, fr2, fr3, fr4⟩ := HNr.out.free
        dsimp only at sr0 sr1 sr2 sr3 sr4
        have ear := HNr.out.cell l1 b1
        have ebr := HNr.out.cell l2 b2
        have cb0r := HNr.out.cell hgw2 d0
        have cb1r := HNr.out.cell hgw2 d1
        have cb2r := HNr.out.cell hgw2 d2
        have cb3r := HNr.out.cell hgw2 d3
        have cb4r := HNr.out.cell hgw2 d4
        gi_upto_region 12 with fail
        change Code.wpIn _ _ _ _ _ _ ((setS wqr wr.heap.size y))
        obtain ⟨wx, hwx⟩ : ∃ wx, (setS wqr wr.heap.size y) = wx := ⟨_, rfl⟩
        rw [hwx]
        have HN2 : Hid (NewS wr wr.heap.size y wx) := Lib.hid (by rw [← hwx]; exact (HNr.out.set y))
        clear hwx
        obtain ⟨y0, y1, y2, y3, y4⟩ := HN2.out.lies
        obtain ⟨fn, tmps, assign, body, hy, hR⟩ := HY.out pre (y, true) wx (HJ.out _ _ _ none HJ1.out (grown_of_below HN2.out.below) (fun r e => by cases e)) (by rw [HE.out, HX.out]; simp)
        dsimp only at hy
        gi_wp2
        refine hR.mono ?_
        rintro e W3 (⟨rfl, hJ3, hk3⟩ | ⟨rfl, hJx3⟩)
        · have g1 := hk3.2.1.trans (HN2.out.cell l1 b1)
          have g2 := hk3.2.2.trans (HN2.out.cell l2 b2)
          have HB3 := Lib.hid ((HB.out.trans (HN2.out.below.mono HB.out.size)).trans hk3.1)
          have HJ3 := Lib.hid hJ3
          clear hk3 hJ3 hR hy
          gi_wp2
          go_roundw
          case rel => exact ⟨i, k + 1, pre ++ [(y, true)], by omega, by omega, by go_num, by go_num, Lib.hid (by rw [HE.out, HX.out]; simp), HJ3, g1, g2, HB3, lt_of_cell g1, lt_of_cell g2⟩
          case measure => simp [intOf]; omega
        · gi_wp2
          refine bodyPost_ret (results_none rfl _ _ _) rfl ?_
          exact ⟨⟨_, rfl⟩, .inr ⟨pre ++ [(y, true)], ⟨bothL (A.drop (i)) (B.drop (k + 1)), by rw [HE.out, HX.out]; simp⟩, hJx3⟩⟩
    case pos =>
      obtain ⟨g, off, rfl, hg, hc⟩ := HSA.out.at' HB.out h1
      have hgw : g < wr.heap.size := Nat.lt_of_lt_of_le hg HB.out.size
      have hda := drop_at A i (by rw [HLA.out]; exact h1)
      generalize A.getD i default = z at hc hda
      have HDA := Lib.hid hda
      obtain ⟨c0, c1, c2, c3, c4⟩ := hc
      clear hda
      by_cases h2 : k < lb
      case neg =>
        obtain rfl : k = lb := by omega
        have HX : Hid (bothL (A.drop i) (B.drop k) = (z, true) :: bothL (A.drop (i + 1)) (B.drop k)) := Lib.hid (by rw [HDA.out, List.drop_eq_nil_iff (l := B).2 (by rw [HLB.out]; exact Nat.le_refl _), bothL])
        gi_wp2
        gi_quiet (fail)
        obtain ⟨wq, hwq⟩ : ∃ wv : World, (wr.alloc (.cells #[.int .i64 0, .int .i64 0, .int .i64 0, .string ⟨#[]⟩, .bool false] 36)).drewN nq = wv := ⟨_, rfl⟩
        have HN : Hid (NewS wr wr.heap.size ⟨0, ⟨0, 0, ⟨#[]⟩, false⟩⟩ wq) := Lib.hid (by rw [← hwq]; exact (NewS.zero wr _).drewN nq)
        rw [hwq]
        clear hwq
        obtain ⟨s0, s1, s2, s3, s4⟩ := HN.out.lies
        obtain ⟨f0, f1, f2, f3, f4⟩ := HN.out.free
        dsimp only at s0 s1 s2 s3 s4
        have ea := HN.out.cell l1 b1
        have ca0 := HN.out.cell hgw c0
        have ca1 := HN.out.cell hgw c1
        have ca2 := HN.out.cell hgw c2
        have ca3 := HN.out.cell hgw c3
        have ca4 := HN.out.cell hgw c4
        gi_upto_region 12 with fail
        change Code.wpIn _ _ _ _ _ _ ((setS wq wr.heap.size z))
        obtain ⟨wx, hwx⟩ : ∃ wx, (setS wq wr.heap.size z) = wx := ⟨_, rfl⟩
        rw [hwx]
        have HN2 : Hid (NewS wr wr.heap.size z wx) := Lib.hid (by rw [← hwx]; exact (HN.out.set z))
        clear hwx
        obtain ⟨y0, y1, y2, y3, y4⟩ := HN2.out.lies
        obtain ⟨fn, tmps, assign, body, hy, hR⟩ := HY.out pre (z, true) wx (HJ.out _ _ _ none HJ1.out (grown_of_below HN2.out.below) (fun r e => by cases e)) (by rw [HE.out, HX.out]; simp)
        dsimp only at hy
        gi_wp2
        refine hR.mono ?_
        rintro e W3 (⟨rfl, hJ3, hk3⟩ | ⟨rfl, hJx3⟩)
        · have g1 := hk3.2.1.trans (HN2.out.cell l1 b1)
          have g2 := hk3.2.2.trans (HN2.out.cell l2 b2)
          have HB3 := Lib.hid ((HB.out.trans (HN2.out.below.mono HB.out.size)).trans hk3.1)
          have HJ3 := Lib.hid hJ3
          clear hk3 hJ3 hR hy
          gi_wp2
          go_roundw
          case rel => exact ⟨i + 1, k, pre ++ [(z, true)], by omega, by omega, by go_num, by go_num, Lib.hid (by rw [HE.out, HX.out]; simp), HJ3, g1, g2, HB3, lt_of_cell g1, lt_of_cell g2⟩
          case measure => simp [intOf]; omega
        · gi_wp2
          refine bodyPost_ret (results_none rfl _ _ _) rfl ?_
          exact ⟨⟨_, rfl⟩, .inr ⟨pre ++ [(z, true)], ⟨bothL (A.drop (i + 1)) (B.drop (k)), by rw [HE.out, HX.out]; simp⟩, hJx3⟩⟩
      case pos =>
        obtain ⟨g', off', rfl, hg2, hc2⟩ := HSB.out.at' HB.out h2
        have hgw2 : g' < wr.heap.size := Nat.lt_of_lt_of_le hg2 HB.out.size
        have hdb := drop_at B k (by rw [HLB.out]; exact h2)
        generalize B.getD k default = y at hc2 hdb
        have HDB := Lib.hid hdb
        obtain ⟨d0, d1, d2, d3, d4⟩ := hc2
        clear hdb
        have tk : ((k : Int) == (lb : Int)) = false := by simp; omega
        have ti : ((i : Int) == (la : Int)) = false := by simp; omega
        by_cases hlt : z.x < y.x
        · have HX : Hid (bothL (A.drop i) (B.drop k) = (z, true) :: bothL (A.drop (i + 1)) (B.drop k)) := Lib.hid (by rw [HDA.out, HDB.out, bothL, if_pos hlt])
          have t1 : decide (z.x < y.x) = true := decide_eq_true hlt
          clear hlt
          gi_wp2
          gi_quiet (fail)
          obtain ⟨wq, hwq⟩ : ∃ wv : World, (wr.alloc (.cells #[.int .i64 0, .int .i64 0, .int .i64 0, .string ⟨#[]⟩, .bool false] 36)).drewN nq = wv := ⟨_, rfl⟩
          have HN : Hid (NewS wr wr.heap.size ⟨0, ⟨0, 0, ⟨#[]⟩, false⟩⟩ wq) := Lib.hid (by rw [← hwq]; exact (NewS.zero wr _).drewN nq)
          rw [hwq]
          clear hwq
          obtain ⟨s0, s1, s2, s3, s4⟩ := HN.out.lies
          obtain ⟨f0, f1, f2, f3, f4⟩ := HN.out.free
          dsimp only at s0 s1 s2 s3 s4
          have ea := HN.out.cell l1 b1
          have ca0 := HN.out.cell hgw c0
          have ca1 := HN.out.cell hgw c1
          have ca2 := HN.out.cell hgw c2
          have ca3 := HN.out.cell hgw c3
          have ca4 := HN.out.cell hgw c4
          gi_upto_region 12 with fail
          change Code.wpIn _ _ _ _ _ _ ((setS wq wr.heap.size z))
          obtain ⟨wx, hwx⟩ : ∃ wx, (setS wq wr.heap.size z) = wx := ⟨_, rfl⟩
          rw [hwx]
          have HN2 : Hid (NewS wr wr.heap.size z wx) := Lib.hid (by rw [← hwx]; exact (HN.out.set z))
          clear hwx
          obtain ⟨y0, y1, y2, y3, y4⟩ := HN2.out.lies
          obtain ⟨fn, tmps, assign, body, hy, hR⟩ := HY.out pre (z, true) wx (HJ.out _ _ _ none HJ1.out (grown_of_below HN2.out.below) (fun r e => by cases e)) (by rw [HE.out, HX.out]; simp)
          dsimp only at hy
          gi_wp2
          refine hR.mono ?_
          rintro e W3 (⟨rfl, hJ3, hk3⟩ | ⟨rfl, hJx3⟩)
          · have g1 := hk3.2.1.trans (HN2.out.cell l1 b1)
            have g2 := hk3.2.2.trans (HN2.out.cell l2 b2)
            have HB3 := Lib.hid ((HB.out.trans (HN2.out.below.mono HB.out.size)).trans hk3.1)
            have HJ3 := Lib.hid hJ3
            clear hk3 hJ3 hR hy
            gi_wp2
            go_roundw
            case rel => exact ⟨i + 1, k, pre ++ [(z, true)], by omega, by omega, by go_num, by go_num, Lib.hid (by rw [HE.out, HX.out]; simp), HJ3, g1, g2, HB3, lt_of_cell g1, lt_of_cell g2⟩
            case measure => simp [intOf]; omega
          · gi_wp2
            refine bodyPost_ret (results_none rfl _ _ _) rfl ?_
            exact ⟨⟨_, rfl⟩, .inr ⟨pre ++ [(z, true)], ⟨bothL (A.drop (i + 1)) (B.drop (k)), by rw [HE.out, HX.out]; simp⟩, hJx3⟩⟩
        have t1 : decide (z.x < y.x) = false := decide_eq_false hlt
        by_cases hlt2 : y.x < z.x
        · have HX : Hid (bothL (A.drop i) (B.drop k) = (y, true) :: bothL (A.drop i) (B.drop (k + 1))) := Lib.hid (by rw [HDA.out, HDB.out, bothL, if_neg hlt, if_pos hlt2])
          have t2 : decide (y.x < z.x) = true := decide_eq_true hlt2
          clear hlt hlt2
          gi_wp2
          gi_quiet (fail)
          obtain ⟨wq, hwq⟩ : ∃ wv : World, (wr.alloc (.cells #[.int .i64 0, .int .i64 0, .int .i64 0, .string ⟨#[]⟩, .bool false] 36)).drewN nq = wv := ⟨_, rfl⟩
          have HN : Hid (NewS wr wr.heap.size ⟨0, ⟨0, 0, ⟨#[]⟩, false⟩⟩ wq) := Lib.hid (by rw [← hwq]; exact (NewS.zero wr _).drewN nq)
          rw [hwq]
          clear hwq
          obtain ⟨s0, s1, s2, s3, s4⟩ := HN.out.lies
          obtain ⟨f0, f1, f2, f3, f4⟩ := HN.out.free
          dsimp only at s0 s1 s2 s3 s4
          have ea := HN.out.cell l1 b1
          have ca0 := HN.out.cell hgw c0
          have ca1 := HN.out.cell hgw c1
          have ca2 := HN.out.cell hgw c2
          have ca3 := HN.out.cell hgw c3
          have ca4 := HN.out.cell hgw c4
          have eb := HN.out.cell l2 b2
          have cb0 := HN.out.cell hgw2 d0
          have cb1 := HN.out.cell hgw2 d1
          have cb2 := HN.out.cell hgw2 d2
          have cb3 := HN.out.cell hgw2 d3
          have cb4 := HN.out.cell hgw2 d4
          gi_wp2
          gi_quiet (fail)
          obtain ⟨wqr, hwq⟩ : ∃ wv : World, (wq).drewN nq = wv := ⟨_, rfl⟩
          have HNr : Hid (NewS wr wr.heap.size ⟨0, ⟨0, 0, ⟨#[]⟩, false⟩⟩ wqr) := Lib.hid (by rw [← hwq]; exact (HN.out).drewN nq)
          rw [hwq]
          clear hwq
          obtain ⟨sr0, sr1, sr2, sr3, sr4⟩ := HNr.out.lies
          obtain ⟨fr0, fr1, fr2, fr3, fr4⟩ := HNr.out.free
          dsimp only at sr0 sr1 sr2 sr3 sr4
          have ear := HNr.out.cell l1 b1
          have ca0r := HNr.out.cell hgw c0
          have ca1r := HNr.out.cell hgw c1
          have ca2r := HNr.out.cell hgw c2
          have ca3r := HNr.out.cell hgw c3
          have ca4r := HNr.out.cell hgw c4
          have ebr := HNr.out.cell l2 b2
          have cb0r := HNr.out.cell hgw2 d0
          have cb1r := HNr.out.cell hgw2 d1
          have cb2r := HNr.out.cell hgw2 d2
          have cb3r := HNr.out.cell hgw2 d3
          have cb4r := HNr.out.cell hgw2 d4
          gi_upto_region 12 with fail
          change Code.wpIn _ _ _ _ _ _ ((setS wqr wr.heap.size y))
          obtain ⟨wx, hwx⟩ : ∃ wx, (setS wqr wr.heap.size y) = wx := ⟨_, rfl⟩
          rw [hwx]
          have HN2 : Hid (NewS wr wr.heap.size y wx) := Lib.hid (by rw [← hwx]; exact (HNr.out.set y))
          clear hwx
          obtain ⟨y0, y1, y2, y3, y4⟩ := HN2.out.lies
          obtain ⟨fn, tmps, assign, body, hy, hR⟩ := HY.out pre (y, true) wx (HJ.out _ _ _ none HJ1.out (grown_of_below HN2.out.below) (fun r e => by cases e)) (by rw [HE.out, HX.out]; simp)
          dsimp only at hy
          gi_wp2
          refine hR.mono ?_
          rintro e W3 (⟨rfl, hJ3, hk3⟩ | ⟨rfl, hJx3⟩)
          · have g1 := hk3.2.1.trans (HN2.out.cell l1 b1)
            have g2 := hk3.2.2.trans (HN2.out.cell l2 b2)
            have HB3 := Lib.hid ((HB.out.trans (HN2.out.below.mono HB.out.size)).trans hk3.1)
            have HJ3 := Lib.hid hJ3
            clear hk3 hJ3 hR hy
            gi_wp2
            go_roundw
            case rel => exact ⟨i, k + 1, pre ++ [(y, true)], by omega, by omega, by go_num, by go_num, Lib.hid (by rw [HE.out, HX.out]; simp), HJ3, g1, g2, HB3, lt_of_cell g1, lt_of_cell g2⟩
            case measure => simp [intOf]; omega
          · gi_wp2
            refine bodyPost_ret (results_none rfl _ _ _) rfl ?_
            exact ⟨⟨_, rfl⟩, .inr ⟨pre ++ [(y, true)], ⟨bothL (A.drop (i)) (B.drop (k + 1)), by rw [HE.out, HX.out]; simp⟩, hJx3⟩⟩
        · have HX : Hid (bothL (A.drop i) (B.drop k) = (z, decide (z = y)) :: bothL (A.drop (i + 1)) (B.drop (k + 1))) := Lib.hid (by rw [HDA.out, HDB.out, bothL, if_neg hlt, if_neg hlt2])
          have t2 : decide (y.x < z.x) = false := decide_eq_false hlt2
          have q1 := eqInS z y
          have q2 := guardS
          generalize decide (z = y) = eq at q1 HX
          clear hlt hlt2
          gi_wp2
          gi_quiet (fail)
          obtain ⟨wq, hwq⟩ : ∃ wv : World, (wr.alloc (.cells #[.int .i64 0, .int .i64 0, .int .i64 0, .string ⟨#[]⟩, .bool false] 36)).drewN nq = wv := ⟨_, rfl⟩
          have HN : Hid (NewS wr wr.heap.size ⟨0, ⟨0, 0, ⟨#[]⟩, false⟩⟩ wq) := Lib.hid (by rw [← hwq]; exact (NewS.zero wr _).drewN nq)
          rw [hwq]
          clear hwq
          obtain ⟨s0, s1, s2, s3, s4⟩ := HN.out.lies
          obtain ⟨f0, f1, f2, f3, f4⟩ := HN.out.free
          dsimp only at s0 s1 s2 s3 s4
          have ea := HN.out.cell l1 b1
          have ca0 := HN.out.cell hgw c0
          have ca1 := HN.out.cell hgw c1
          have ca2 := HN.out.cell hgw c2
          have ca3 := HN.out.cell hgw c3
          have ca4 := HN.out.cell hgw c4
          have eb := HN.out.cell l2 b2
          have cb0 := HN.out.cell hgw2 d0
          have cb1 := HN.out.cell hgw2 d1
          have cb2 := HN.out.cell hgw2 d2
          have cb3 := HN.out.cell hgw2 d3
          have cb4 := HN.out.cell hgw2 d4
          gi_wp2
          gi_quiet (fail)
          obtain ⟨wqr, hwq⟩ : ∃ wv : World, (wq).drewN nq = wv := ⟨_, rfl⟩
          have HNr : Hid (NewS wr wr.heap.size ⟨0, ⟨0, 0, ⟨#[]⟩, false⟩⟩ wqr) := Lib.hid (by rw [← hwq]; exact (HN.out).drewN nq)
          rw [hwq]
          clear hwq
          obtain ⟨sr0, sr1, sr2, sr3, sr4⟩ := HNr.out.lies
          obtain ⟨fr0, fr1, fr2, fr3, fr4⟩ := HNr.out.free
          dsimp only at sr0 sr1 sr2 sr3 sr4
          have ear := HNr.out.cell l1 b1
          have ca0r := HNr.out.cell hgw c0
          have ca1r := HNr.out.cell hgw c1
          have ca2r := HNr.out.cell hgw c2
          have ca3r := HNr.out.cell hgw c3
          have ca4r := HNr.out.cell hgw c4
          have ebr := HNr.out.cell l2 b2
          have cb0r := HNr.out.cell hgw2 d0
          have cb1r := HNr.out.cell hgw2 d1
          have cb2r := HNr.out.cell hgw2 d2
          have cb3r := HNr.out.cell hgw2 d3
          have cb4r := HNr.out.cell hgw2 d4
          gi_wp2
          gi_region
          gi_upto_region 12 with fail
          change Code.wpIn _ _ _ _ _ _ ((setS wqr wr.heap.size z).drew)
          obtain ⟨wx, hwx⟩ : ∃ wx, (setS wqr wr.heap.size z).drew = wx := ⟨_, rfl⟩
          rw [hwx]
          have HN2 : Hid (NewS wr wr.heap.size z wx) := Lib.hid (by rw [← hwx]; exact (HNr.out.set z).drew)
          clear hwx
          obtain ⟨y0, y1, y2, y3, y4⟩ := HN2.out.lies
          obtain ⟨fn, tmps, assign, body, hy, hR⟩ := HY.out pre (z, eq) wx (HJ.out _ _ _ none HJ1.out (grown_of_below HN2.out.below) (fun r e => by cases e)) (by rw [HE.out, HX.out]; simp)
          dsimp only at hy
          gi_wp2
          refine hR.mono ?_
          rintro e W3 (⟨rfl, hJ3, hk3⟩ | ⟨rfl, hJx3⟩)
          · have g1 := hk3.2.1.trans (HN2.out.cell l1 b1)
            have g2 := hk3.2.2.trans (HN2.out.cell l2 b2)
            have HB3 := Lib.hid ((HB.out.trans (HN2.out.below.mono HB.out.size)).trans hk3.1)
            have HJ3 := Lib.hid hJ3
            clear hk3 hJ3 hR hy
            gi_wp2
            go_roundw
            case rel => exact ⟨i + 1, k + 1, pre ++ [(z, eq)], by omega, by omega, by go_num, by go_num, Lib.hid (by rw [HE.out, HX.out]; simp), HJ3, g1, g2, HB3, lt_of_cell g1, lt_of_cell g2⟩
            case measure => simp [intOf]; omega
          · gi_wp2
            refine bodyPost_ret (results_none rfl _ _ _) rfl ?_
            exact ⟨⟨_, rfl⟩, .inr ⟨pre ++ [(z, eq)], ⟨bothL (A.drop (i + 1)) (B.drop (k + 1)), by rw [HE.out, HX.out]; simp⟩, hJx3⟩⟩
end Go.Proofs.YtjohiehlnbgdaaaDoor
