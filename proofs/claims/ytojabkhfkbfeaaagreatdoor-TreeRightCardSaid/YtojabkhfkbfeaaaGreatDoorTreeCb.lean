/- Which parts of a tree may be: rightName, isKind, rightArg, and the closures of Right over flat things. -/
import Derived.Test.YtojabkhfkbfeaaaGreatDoorTreeNode
import Derived.Test.YtojabkhfkbfeaaaGreatDoorTreeRun
import Derived.Test.YtojabkhfkbfeaaaGreatDoorTreeFew
import Derived.Test.YtojabkhfkbfeaaaGreatDoorScNames
namespace Go.Proofs.YtojabkhfkbfeaaaGreatDoor
open Go.RowKit
set_option linter.unusedVariables false

set_option maxHeartbeats 400000 in
theorem rightName_calls (x : Id3) (w : World) (hok : okS x.t) (hw : Wds w) :
    Calls Tryz.prog 33 #[.agg #[.string x.t, .int .i64 x.l, .int .i64 x.c]] w fun e w' => e = .returned (.bool (nameB x.t)) ∧ Below w.heap.size w w' := by
  have hs : x.t.size ≤ 9223372036854775807 := hok
  have HB : Hid (Below w.heap.size w (w.alloc (.cells #[.string x.t, .int .i64 x.l, .int .i64 x.c] 23))) := Lib.hid ((Below.refl w.heap.size w).alloc (Nat.le_refl _) _)
  have HC := Lib.hid (scName_calls x.t _ hs (hw.below HB.out))
  clear hok hw
  generalize nameB x.t = r at HC
  go_enter Tryz.func33, Tryz.ntmps33
  go_wp2_with fail
  refine HC.out.mono ?_
  rintro e w1 ⟨rfl, hw1⟩
  subst hw1
  go_wp2_with fail
  go_ret
  exact ⟨rfl, HB.out⟩
theorem kindB_iff (k : Int) : kindB k = !isT (kindT k) ⟨#[]⟩ := by
  rw [← noKind_iff]
  unfold kindB noKind
  rw [Bool.not_not, Bool.decide_and]
set_option maxHeartbeats 400000 in
theorem cbInt_calls (x : Int) (w : World) :
    Calls Tryz.prog 37 #[.int .i64 x] w fun e w' => e = .returned (.bool (kindB x)) ∧ Below w.heap.size w w' := by
  have H1 := Lib.hid (fun w1 => scKind_calls x w1)
  have HV := Lib.hid (kindB_iff x)
  generalize kindT x = t at H1 HV
  have t0 : (t.toList == (⟨#[]⟩ : ByteArray).toList) = isT t ⟨#[]⟩ := rfl
  have t1 : t.toList.isEmpty = isT t ⟨#[]⟩ := by
    unfold isT
    rw [sc_tl ⟨#[]⟩]
    cases t.toList <;> rfl
  go_enter Tryz.func37, Tryz.ntmps37
  go_wp2_with fail
  refine (H1.out _).mono ?_
  rintro e w1 ⟨rfl, rfl⟩
  go_wp2_with fail
  go_ret
  refine ⟨?_, Below.refl _ _⟩
  rw [HV.out, ← t1]
  rfl

def okQ (x : Qu) : Bool := nameB x.n.t && kindB x.t
set_option maxHeartbeats 1000000 in
set_option maxRecDepth 100000 in
theorem cbQu_calls (x : Qu) (w : World) (hok : okS x.n.t) (hw : Wds w) :
    Calls Tryz.prog 39 #[.agg #[.bool x.all, .string x.n.t, .int .i64 x.n.l, .int .i64 x.n.c, .int .i64 x.t]] w fun e w' => e = .returned (.bool (okQ x)) ∧ Below w.heap.size w w' := by
  have HB : Hid (Below w.heap.size w (w.alloc (.cells #[.bool x.all, .string x.n.t, .int .i64 x.n.l, .int .i64 x.n.c, .int .i64 x.t] 57))) := Lib.hid ((Below.refl w.heap.size w).alloc (Nat.le_refl _) _)
  have HK0 : Hid (Below (w.heap.size + 1) (w.alloc (.cells #[.bool x.all, .string x.n.t, .int .i64 x.n.l, .int .i64 x.n.c, .int .i64 x.t] 57)) (w.alloc (.cells #[.bool x.all, .string x.n.t, .int .i64 x.n.l, .int .i64 x.n.c, .int .i64 x.t] 57))) := Lib.hid (Below.refl _ _)
  have HN := Lib.hid (rightName_calls x.n _ hok (hw.below HB.out))
  have HV : Hid (okQ x = _) := Lib.hid (okQ.eq_1 x)
  have HC := Lib.hid (fun w1 => cbInt_calls x.t w1)
  generalize kindB x.t = r at HC HV
  clear hok hw
  cases e : nameB x.n.t
  · rw [e] at HN HV
    clear e
    go_enter Tryz.func39, Tryz.ntmps39
    go_wp2_with fail
    refine HN.out.mono ?_
    rintro e w1 ⟨rfl, k1⟩
    have HB1 := Lib.hid (HB.out.trans (k1.mono HB.out.size))
    have HK1 := Lib.hid (below1_step HK0.out (by simp) k1)
    clear k1
    go_wp2_with fail
    go_ret
    exact ⟨by rw [HV.out]; rfl, HB1.out⟩
  · rw [e] at HN HV
    clear e
    go_enter Tryz.func39, Tryz.ntmps39
    go_wp2_with fail
    refine HN.out.mono ?_
    rintro e w1 ⟨rfl, k1⟩
    have HB1 := Lib.hid (HB.out.trans (k1.mono HB.out.size))
    have HK1 := Lib.hid (below1_step HK0.out (by simp) k1)
    clear k1
    have y4 := box1 HK1.out 4 _ rfl
    go_wp2_with fail
    refine (HC.out _).mono ?_
    rintro e w2 ⟨rfl, k2⟩
    go_wp2_with fail
    go_ret
    exact ⟨by rw [HV.out]; rfl, HB1.out.trans (k2.mono HB1.out.size)⟩

def okF (x : Fr) : Bool := nameB x.n.t && rightV x.v
set_option maxHeartbeats 1000000 in
set_option maxRecDepth 100000 in
theorem cbFr_calls (x : Fr) (w : World) (hok : okS x.n.t ∧ okV x.v) (hw : Wds w) :
    Calls Tryz.prog 41 #[.agg #[.string x.n.t, .int .i64 x.n.l, .int .i64 x.n.c, .int .i64 x.v.k, .int .i64 x.v.i, .string x.v.s, .bool x.v.b]] w fun e w' => e = .returned (.bool (okF x)) ∧ Below w.heap.size w w' := by
  have HB : Hid (Below w.heap.size w (w.alloc (.cells #[.string x.n.t, .int .i64 x.n.l, .int .i64 x.n.c, .int .i64 x.v.k, .int .i64 x.v.i, .string x.v.s, .bool x.v.b] 43))) := Lib.hid ((Below.refl w.heap.size w).alloc (Nat.le_refl _) _)
  have HK0 : Hid (Below (w.heap.size + 1) (w.alloc (.cells #[.string x.n.t, .int .i64 x.n.l, .int .i64 x.n.c, .int .i64 x.v.k, .int .i64 x.v.i, .string x.v.s, .bool x.v.b] 43)) (w.alloc (.cells #[.string x.n.t, .int .i64 x.n.l, .int .i64 x.n.c, .int .i64 x.v.k, .int .i64 x.v.i, .string x.v.s, .bool x.v.b] 43))) := Lib.hid (Below.refl _ _)
  have HN := Lib.hid (rightName_calls x.n _ hok.1 (hw.below HB.out))
  have HV : Hid (okF x = _) := Lib.hid (okF.eq_1 x)
  have HC := Lib.hid (fun w1 => vRight_calls x.v.k x.v.i x.v.s x.v.b w1 hok.2.1)
  have HC := Lib.hid (show ∀ w1, Calls Tryz.prog 42 #[.agg #[.int .i64 x.v.k, .int .i64 x.v.i, .string x.v.s, .bool x.v.b]] w1 fun e w' => e = .returned (.bool (rightV x.v)) ∧ Below w1.heap.size w1 w' from HC.out)
  generalize rightV x.v = r at HC HV
  clear hok hw
  cases e : nameB x.n.t
  · rw [e] at HN HV
    clear e
    go_enter Tryz.func41, Tryz.ntmps41
    go_wp2_with fail
    refine HN.out.mono ?_
    rintro e w1 ⟨rfl, k1⟩
    have HB1 := Lib.hid (HB.out.trans (k1.mono HB.out.size))
    have HK1 := Lib.hid (below1_step HK0.out (by simp) k1)
    clear k1
    go_wp2_with fail
    go_ret
    exact ⟨by rw [HV.out]; rfl, HB1.out⟩
  · rw [e] at HN HV
    clear e
    go_enter Tryz.func41, Tryz.ntmps41
    go_wp2_with fail
    refine HN.out.mono ?_
    rintro e w1 ⟨rfl, k1⟩
    have HB1 := Lib.hid (HB.out.trans (k1.mono HB.out.size))
    have HK1 := Lib.hid (below1_step HK0.out (by simp) k1)
    clear k1
    have y3 := box1 HK1.out 3 _ rfl
    have y4 := box1 HK1.out 4 _ rfl
    have y5 := box1 HK1.out 5 _ rfl
    have y6 := box1 HK1.out 6 _ rfl
    go_wp2_with fail
    refine (HC.out _).mono ?_
    rintro e w2 ⟨rfl, k2⟩
    go_wp2_with fail
    go_ret
    exact ⟨by rw [HV.out]; rfl, HB1.out.trans (k2.mono HB1.out.size)⟩

def okSt (x : Sta) : Bool := nameB x.n.t
set_option maxHeartbeats 1000000 in
set_option maxRecDepth 100000 in
theorem cbSta_calls (x : Sta) (w : World) (hok : okS x.n.t) (hw : Wds w) :
    Calls Tryz.prog 44 #[.agg #[.string x.n.t, .int .i64 x.n.l, .int .i64 x.n.c, .bool x.nx, .bool x.ac]] w fun e w' => e = .returned (.bool (okSt x)) ∧ Below w.heap.size w w' := by
  have HB : Hid (Below w.heap.size w (w.alloc (.cells #[.string x.n.t, .int .i64 x.n.l, .int .i64 x.n.c, .bool x.nx, .bool x.ac] 60))) := Lib.hid ((Below.refl w.heap.size w).alloc (Nat.le_refl _) _)
  have HK0 : Hid (Below (w.heap.size + 1) (w.alloc (.cells #[.string x.n.t, .int .i64 x.n.l, .int .i64 x.n.c, .bool x.nx, .bool x.ac] 60)) (w.alloc (.cells #[.string x.n.t, .int .i64 x.n.l, .int .i64 x.n.c, .bool x.nx, .bool x.ac] 60))) := Lib.hid (Below.refl _ _)
  have HN := Lib.hid (rightName_calls x.n _ hok (hw.below HB.out))
  have HV : Hid (okSt x = _) := Lib.hid (okSt.eq_1 x)
  clear hok hw
  go_enter Tryz.func44, Tryz.ntmps44
  go_wp2_with fail
  refine HN.out.mono ?_
  rintro e w1 ⟨rfl, k1⟩
  go_wp2_with fail
  go_ret
  exact ⟨by rw [HV.out]; rfl, HB.out.trans (k1.mono HB.out.size)⟩

def mkA (x : Ag) (n : ByteArray) (v : Vd) : Ag := ⟨x.k, n, v, x.l, x.c⟩
theorem mkA_iff (x : Ag) (n : ByteArray) (v : Vd) : x = mkA x n v ↔ x.n = n ∧ x.v = v := by
  cases x
  unfold mkA
  simp only [Ag.mk.injEq, true_and, and_true]
theorem arg1 {x : Ag} (h : x.k = 1) : argB x = (decide (x = mkA x ⟨#[]⟩ x.v) && rightV x.v) := by
  unfold argB
  rw [if_pos h, Bool.eq_iff_iff, Bool.and_eq_true, Bool.and_eq_true, decide_eq_true_iff, mkA_iff, emptyB_iff]
  simp only [and_true]
theorem arg2 {x : Ag} (h : x.k = 2) : argB x = (decide (x = mkA x x.n v0) && nameB x.n) := by
  unfold argB
  rw [if_neg (by omega), if_pos h, Bool.eq_iff_iff, Bool.and_eq_true, Bool.and_eq_true, decide_eq_true_iff, mkA_iff, zeroV_iff]
  simp only [true_and]
  exact ⟨fun ⟨a, b⟩ => ⟨b, a⟩, fun ⟨a, b⟩ => ⟨b, a⟩⟩
theorem arg3 {x : Ag} (h : x.k = 3) : argB x = decide (x = mkA x ⟨#[]⟩ v0) := by
  unfold argB
  rw [if_neg (by omega), if_neg (by omega), if_pos h, Bool.eq_iff_iff, Bool.and_eq_true, decide_eq_true_iff, mkA_iff, emptyB_iff, zeroV_iff]
theorem arg0 {x : Ag} (h1 : x.k ≠ 1) (h2 : x.k ≠ 2) (h3 : x.k ≠ 3) : argB x = false := by
  unfold argB
  rw [if_neg h1, if_neg h2, if_neg h3]
set_option maxHeartbeats 2000000 in
set_option maxRecDepth 100000 in
theorem cbAg_calls (x : Ag) (w : World) (hok : okA x) (hw : Wds w) :
    Calls Tryz.prog 97 #[.agg #[.int .i64 x.k, .string x.n, .int .i64 x.v.k, .int .i64 x.v.i, .string x.v.s, .bool x.v.b, .int .i64 x.l, .int .i64 x.c]] w fun e w' => e = .returned (.bool (argB x)) ∧ Below w.heap.size w w' := by
  have hn : x.n.size ≤ 9223372036854775807 := hok.1
  have hs : x.v.s.size ≤ 9223372036854775807 := hok.2.1
  have qg := guardAg
  have HW := Lib.hid hw
  clear hok hw
  by_cases h1 : x.k = 1
  case pos =>
    have t1 : (x.k == 1) = true := by simp [h1]
    have HS := Lib.hid (arg1 h1)
    clear h1
    cases eb : decide (x = mkA x ⟨#[]⟩ x.v)
    · have q0 := eqInAg x (mkA x ⟨#[]⟩ x.v)
      rw [eb] at q0 HS
      have q1 : ∀ w, (Op.equalIn 10000 101 (.agg #[.int .i64 x.k, .string x.n, .int .i64 x.v.k, .int .i64 x.v.i, .string x.v.s, .bool x.v.b, .int .i64 x.l, .int .i64 x.c]) (.agg #[.int .i64 x.k, .string ⟨#[]⟩, .int .i64 x.v.k, .int .i64 x.v.i, .string x.v.s, .bool x.v.b, .int .i64 x.l, .int .i64 x.c])).run Tryz.prog w = .ok false w := q0
      clear q0 eb
      go_enter Tryz.func97, Tryz.ntmps97
      go_wp2_with fail
      go_ret
      refine ⟨by rw [HS.out]; rfl, ?_⟩
      repeat' (first | exact Below.refl _ _ | refine Below.alloc ?_ (by simp <;> omega) _ | refine Below.setCell ?_ (by simp <;> omega) _ | refine Below.drew ?_)
    · have q0 := eqInAg x (mkA x ⟨#[]⟩ x.v)
      rw [eb] at q0 HS
      have q1 : ∀ w, (Op.equalIn 10000 101 (.agg #[.int .i64 x.k, .string x.n, .int .i64 x.v.k, .int .i64 x.v.i, .string x.v.s, .bool x.v.b, .int .i64 x.l, .int .i64 x.c]) (.agg #[.int .i64 x.k, .string ⟨#[]⟩, .int .i64 x.v.k, .int .i64 x.v.i, .string x.v.s, .bool x.v.b, .int .i64 x.l, .int .i64 x.c])).run Tryz.prog w = .ok true w := q0
      clear q0 eb
      have HC := Lib.hid (fun w1 (hb : Below w.heap.size w w1) => vRight_calls x.v.k x.v.i x.v.s x.v.b w1 hs)
      go_enter Tryz.func97, Tryz.ntmps97
      go_wp2_with fail
      refine (HC.out _ ?_).mono ?_
      · repeat' (first | exact Below.refl _ _ | refine Below.alloc ?_ (by simp <;> omega) _ | refine Below.setCell ?_ (by simp <;> omega) _ | refine Below.drew ?_)
      rintro e w1 ⟨rfl, k1⟩
      have K1 := Lib.hid k1
      clear k1
      go_wp2_with fail
      go_ret
      refine ⟨by rw [HS.out]; rfl, ?_⟩
      refine Below.trans ?_ (K1.out.mono (by simp <;> omega))
      repeat' (first | exact Below.refl _ _ | refine Below.alloc ?_ (by simp <;> omega) _ | refine Below.setCell ?_ (by simp <;> omega) _ | refine Below.drew ?_)
  have t1 : (x.k == 1) = false := by simpa using h1
  by_cases h2 : x.k = 2
  case pos =>
    have t2 : (x.k == 2) = true := by simp [h2]
    have HS := Lib.hid (arg2 h2)
    clear h1 h2
    cases eb : decide (x = mkA x x.n v0)
    · have q0 := eqInAg x (mkA x x.n v0)
      rw [eb] at q0 HS
      have q1 : ∀ w, (Op.equalIn 10000 101 (.agg #[.int .i64 x.k, .string x.n, .int .i64 x.v.k, .int .i64 x.v.i, .string x.v.s, .bool x.v.b, .int .i64 x.l, .int .i64 x.c]) (.agg #[.int .i64 x.k, .string x.n, .int .i64 0, .int .i64 0, .string ⟨#[]⟩, .bool false, .int .i64 x.l, .int .i64 x.c])).run Tryz.prog w = .ok false w := q0
      clear q0 eb
      go_enter Tryz.func97, Tryz.ntmps97
      go_wp2_with fail
      go_ret
      refine ⟨by rw [HS.out]; rfl, ?_⟩
      repeat' (first | exact Below.refl _ _ | refine Below.alloc ?_ (by simp <;> omega) _ | refine Below.setCell ?_ (by simp <;> omega) _ | refine Below.drew ?_)
    · have q0 := eqInAg x (mkA x x.n v0)
      rw [eb] at q0 HS
      have q1 : ∀ w, (Op.equalIn 10000 101 (.agg #[.int .i64 x.k, .string x.n, .int .i64 x.v.k, .int .i64 x.v.i, .string x.v.s, .bool x.v.b, .int .i64 x.l, .int .i64 x.c]) (.agg #[.int .i64 x.k, .string x.n, .int .i64 0, .int .i64 0, .string ⟨#[]⟩, .bool false, .int .i64 x.l, .int .i64 x.c])).run Tryz.prog w = .ok true w := q0
      clear q0 eb
      have HC := Lib.hid (fun w1 (hb : Below w.heap.size w w1) => (scName_calls x.n w1 hn (HW.out.below hb)).mono fun e w2 h => And.intro h.1 (show Below w1.heap.size w1 w2 from h.2 ▸ Below.refl _ _))
      go_enter Tryz.func97, Tryz.ntmps97
      go_wp2_with fail
      refine (HC.out _ ?_).mono ?_
      · repeat' (first | exact Below.refl _ _ | refine Below.alloc ?_ (by simp <;> omega) _ | refine Below.setCell ?_ (by simp <;> omega) _ | refine Below.drew ?_)
      rintro e w1 ⟨rfl, k1⟩
      have K1 := Lib.hid k1
      clear k1
      go_wp2_with fail
      go_ret
      refine ⟨by rw [HS.out]; rfl, ?_⟩
      refine Below.trans ?_ (K1.out.mono (by simp <;> omega))
      repeat' (first | exact Below.refl _ _ | refine Below.alloc ?_ (by simp <;> omega) _ | refine Below.setCell ?_ (by simp <;> omega) _ | refine Below.drew ?_)
  have t2 : (x.k == 2) = false := by simpa using h2
  by_cases h3 : x.k = 3
  case pos =>
    have t3 : (x.k == 3) = true := by simp [h3]
    have HS := Lib.hid (arg3 h3)
    clear h1 h2 h3
    cases eb : decide (x = mkA x ⟨#[]⟩ v0)
    · have q0 := eqInAg x (mkA x ⟨#[]⟩ v0)
      rw [eb] at q0 HS
      have q1 : ∀ w, (Op.equalIn 10000 101 (.agg #[.int .i64 x.k, .string x.n, .int .i64 x.v.k, .int .i64 x.v.i, .string x.v.s, .bool x.v.b, .int .i64 x.l, .int .i64 x.c]) (.agg #[.int .i64 x.k, .string ⟨#[]⟩, .int .i64 0, .int .i64 0, .string ⟨#[]⟩, .bool false, .int .i64 x.l, .int .i64 x.c])).run Tryz.prog w = .ok false w := q0
      clear q0 eb
      go_enter Tryz.func97, Tryz.ntmps97
      go_wp2_with fail
      go_ret
      refine ⟨by rw [HS.out]; rfl, ?_⟩
      repeat' (first | exact Below.refl _ _ | refine Below.alloc ?_ (by simp <;> omega) _ | refine Below.setCell ?_ (by simp <;> omega) _ | refine Below.drew ?_)
    · have q0 := eqInAg x (mkA x ⟨#[]⟩ v0)
      rw [eb] at q0 HS
      have q1 : ∀ w, (Op.equalIn 10000 101 (.agg #[.int .i64 x.k, .string x.n, .int .i64 x.v.k, .int .i64 x.v.i, .string x.v.s, .bool x.v.b, .int .i64 x.l, .int .i64 x.c]) (.agg #[.int .i64 x.k, .string ⟨#[]⟩, .int .i64 0, .int .i64 0, .string ⟨#[]⟩, .bool false, .int .i64 x.l, .int .i64 x.c])).run Tryz.prog w = .ok true w := q0
      clear q0 eb
      go_enter Tryz.func97, Tryz.ntmps97
      go_wp2_with fail
      go_ret
      refine ⟨by rw [HS.out]; rfl, ?_⟩
      repeat' (first | exact Below.refl _ _ | refine Below.alloc ?_ (by simp <;> omega) _ | refine Below.setCell ?_ (by simp <;> omega) _ | refine Below.drew ?_)
  have t3 : (x.k == 3) = false := by simpa using h3
  have HS := Lib.hid (arg0 h1 h2 h3)
  clear h1 h2 h3
  go_enter Tryz.func97, Tryz.ntmps97
  go_wp2_with fail
  go_ret
  refine ⟨by rw [HS.out]; rfl, ?_⟩
  repeat' (first | exact Below.refl _ _ | refine Below.alloc ?_ (by simp <;> omega) _ | refine Below.setCell ?_ (by simp <;> omega) _ | refine Below.drew ?_)
end Go.Proofs.YtojabkhfkbfeaaaGreatDoor
