/- Nodes: tree's hasOne, hasTwo, rightNode and rootsOf. -/
import Derived.Test.YtojabkhfkbfeaaaGreatDoorTreeEqIn
import Derived.Test.YtojabkhfkbfeaaaGreatDoorGinNew
import Derived.Test.YtojabkhfkbfeaaaGreatDoorScSpelt
import Derived.Test.YtojabkhfkbfeaaaGreatDoorValRightV
namespace Go.Proofs.YtojabkhfkbfeaaaGreatDoor
open Go.RowKit
set_option linter.unusedVariables false

/-- Operators with one expression, and with two. -/
def oneB (o : Int) : Bool := (o == 4) || (o == 5)
def twoB (o : Int) : Bool := decide (6 ≤ o) && decide (o ≤ 16)
def mkE (x : Ex) (a b : Int) (n : ByteArray) (v : Vd) : Ex := ⟨x.op, a, b, n, v, x.l, x.c⟩
/-- Whether a node is as its operator asks for, wherever its expressions stand. -/
def okN (x : Ex) : Bool :=
  if (x.op == 1) = true then decide (x = mkE x 0 0 ⟨#[]⟩ x.v) && rightV x.v
  else if (x.op == 17) = true then decide (x = mkE x 0 0 x.n v0) && nameB x.n
  else if oneB x.op = true then decide (x = mkE x x.a 0 ⟨#[]⟩ v0)
  else if twoB x.op = true then decide (x = mkE x x.a x.b ⟨#[]⟩ v0)
  else false

set_option maxHeartbeats 400000 in
theorem hasOne_calls (n : Int) (w : World) :
    Calls Tryz.prog 127 #[.int .i64 n] w fun e w' => e = .returned (.bool (oneB n)) ∧ w = w' := by
  have hv : oneB n = ((n == 4) || (n == 5)) := rfl
  cases e1 : n == 4
  · cases e2 : n == 5
    all_goals rw [e1, e2] at hv
    all_goals go_enter Tryz.func127, Tryz.ntmps127
    all_goals go_wp2_with fail
    all_goals go_ret
    all_goals exact ⟨by rw [hv]; rfl, rfl⟩
  · rw [e1] at hv
    go_enter Tryz.func127, Tryz.ntmps127
    go_wp2_with fail
    go_ret
    exact ⟨by rw [hv]; rfl, rfl⟩
set_option maxHeartbeats 400000 in
theorem hasTwo_calls (n : Int) (w : World) :
    Calls Tryz.prog 128 #[.int .i64 n] w fun e w' => e = .returned (.bool (twoB n)) ∧ w = w' := by
  have hv : twoB n = (decide (6 ≤ n) && decide (n ≤ 16)) := rfl
  cases e1 : decide (6 ≤ n)
  · rw [e1] at hv
    go_enter Tryz.func128, Tryz.ntmps128
    go_wp2_with fail
    go_ret
    exact ⟨by rw [hv]; rfl, rfl⟩
  · cases e2 : decide (n ≤ 16)
    all_goals rw [e1, e2] at hv
    all_goals go_enter Tryz.func128, Tryz.ntmps128
    all_goals go_wp2_with fail
    all_goals go_ret
    all_goals exact ⟨by rw [hv]; rfl, rfl⟩

set_option maxHeartbeats 1000000 in
set_option maxRecDepth 100000 in
theorem rightNode_calls (x : Ex) (w : World) (hx : okE x) (hw : Wds w) :
    Calls Tryz.prog 107 #[.agg #[.int .i64 x.op, .int .i64 x.a, .int .i64 x.b, .string x.n, .int .i64 x.v.k, .int .i64 x.v.i, .string x.v.s, .bool x.v.b, .int .i64 x.l, .int .i64 x.c]] w fun e w' => e = .returned (.bool (okN x)) ∧ Below w.heap.size w w' := by
  have hn : x.n.size ≤ 9223372036854775807 := hx.1
  have hs : x.v.s.size ≤ 9223372036854775807 := hx.2.1
  have qg := guardEx
  have HW := Lib.hid hw
  clear hx hw
  have HS : Hid (okN x = _) := Lib.hid (okN.eq_1 x)
  cases e1 : (x.op == 1)
  case true =>
    cases eb : decide (x = mkE x 0 0 ⟨#[]⟩ x.v)
    · have q0 := eqInEx x (mkE x 0 0 ⟨#[]⟩ x.v)
      rw [eb] at q0
      have q1 : ∀ w, (Op.equalIn 10000 53 (.agg #[.int .i64 x.op, .int .i64 x.a, .int .i64 x.b, .string x.n, .int .i64 x.v.k, .int .i64 x.v.i, .string x.v.s, .bool x.v.b, .int .i64 x.l, .int .i64 x.c]) (.agg #[.int .i64 x.op, .int .i64 0, .int .i64 0, .string ⟨#[]⟩, .int .i64 x.v.k, .int .i64 x.v.i, .string x.v.s, .bool x.v.b, .int .i64 x.l, .int .i64 x.c])).run Tryz.prog w = .ok false w := q0
      clear q0
      have HV : Hid (okN x = false) := Lib.hid (by rw [HS.out]; simp only [e1, if_true, eb]; rfl)
      clear eb
      go_enter Tryz.func107, Tryz.ntmps107
      go_wp2_with fail
      go_ret
      refine ⟨by rw [HV.out]; rfl, ?_⟩
      repeat' (first | exact Below.refl _ _ | refine Below.alloc ?_ (by simp <;> omega) _ | refine Below.setCell ?_ (by simp <;> omega) _ | refine Below.drew ?_)
    · have q0 := eqInEx x (mkE x 0 0 ⟨#[]⟩ x.v)
      rw [eb] at q0
      have q1 : ∀ w, (Op.equalIn 10000 53 (.agg #[.int .i64 x.op, .int .i64 x.a, .int .i64 x.b, .string x.n, .int .i64 x.v.k, .int .i64 x.v.i, .string x.v.s, .bool x.v.b, .int .i64 x.l, .int .i64 x.c]) (.agg #[.int .i64 x.op, .int .i64 0, .int .i64 0, .string ⟨#[]⟩, .int .i64 x.v.k, .int .i64 x.v.i, .string x.v.s, .bool x.v.b, .int .i64 x.l, .int .i64 x.c])).run Tryz.prog w = .ok true w := q0
      clear q0
      have HV : Hid (okN x = rightV x.v) := Lib.hid (by rw [HS.out]; simp only [e1, if_true, eb]; rfl)
      clear eb
      have HC := Lib.hid (fun w1 (hb : Below w.heap.size w w1) => vRight_calls x.v.k x.v.i x.v.s x.v.b w1 hs)
      go_enter Tryz.func107, Tryz.ntmps107
      go_wp2_with fail
      refine (HC.out _ ?_).mono ?_
      · repeat' (first | exact Below.refl _ _ | refine Below.alloc ?_ (by simp <;> omega) _ | refine Below.setCell ?_ (by simp <;> omega) _ | refine Below.drew ?_)
      rintro e w1 ⟨rfl, k1⟩
      have K1 := Lib.hid k1
      clear k1
      go_wp2_with fail
      go_ret
      refine ⟨by rw [HV.out]; rfl, ?_⟩
      refine Below.trans ?_ (K1.out.mono (by simp <;> omega))
      repeat' (first | exact Below.refl _ _ | refine Below.alloc ?_ (by simp <;> omega) _ | refine Below.setCell ?_ (by simp <;> omega) _ | refine Below.drew ?_)
  cases e2 : (x.op == 17)
  case true =>
    cases eb : decide (x = mkE x 0 0 x.n v0)
    · have q0 := eqInEx x (mkE x 0 0 x.n v0)
      rw [eb] at q0
      have q1 : ∀ w, (Op.equalIn 10000 53 (.agg #[.int .i64 x.op, .int .i64 x.a, .int .i64 x.b, .string x.n, .int .i64 x.v.k, .int .i64 x.v.i, .string x.v.s, .bool x.v.b, .int .i64 x.l, .int .i64 x.c]) (.agg #[.int .i64 x.op, .int .i64 0, .int .i64 0, .string x.n, .int .i64 0, .int .i64 0, .string ⟨#[]⟩, .bool false, .int .i64 x.l, .int .i64 x.c])).run Tryz.prog w = .ok false w := q0
      clear q0
      have HV : Hid (okN x = false) := Lib.hid (by rw [HS.out]; simp only [e1, e2, if_true, Bool.false_eq_true, if_false, eb]; rfl)
      clear eb
      go_enter Tryz.func107, Tryz.ntmps107
      go_wp2_with fail
      go_ret
      refine ⟨by rw [HV.out]; rfl, ?_⟩
      repeat' (first | exact Below.refl _ _ | refine Below.alloc ?_ (by simp <;> omega) _ | refine Below.setCell ?_ (by simp <;> omega) _ | refine Below.drew ?_)
    · have q0 := eqInEx x (mkE x 0 0 x.n v0)
      rw [eb] at q0
      have q1 : ∀ w, (Op.equalIn 10000 53 (.agg #[.int .i64 x.op, .int .i64 x.a, .int .i64 x.b, .string x.n, .int .i64 x.v.k, .int .i64 x.v.i, .string x.v.s, .bool x.v.b, .int .i64 x.l, .int .i64 x.c]) (.agg #[.int .i64 x.op, .int .i64 0, .int .i64 0, .string x.n, .int .i64 0, .int .i64 0, .string ⟨#[]⟩, .bool false, .int .i64 x.l, .int .i64 x.c])).run Tryz.prog w = .ok true w := q0
      clear q0
      have HV : Hid (okN x = nameB x.n) := Lib.hid (by rw [HS.out]; simp only [e1, e2, if_true, Bool.false_eq_true, if_false, eb]; rfl)
      clear eb
      have HC := Lib.hid (fun w1 (hb : Below w.heap.size w w1) => (scName_calls x.n w1 hn (HW.out.below hb)).mono fun e w2 h => And.intro h.1 (show Below w1.heap.size w1 w2 from h.2 ▸ Below.refl _ _))
      go_enter Tryz.func107, Tryz.ntmps107
      go_wp2_with fail
      refine (HC.out _ ?_).mono ?_
      · repeat' (first | exact Below.refl _ _ | refine Below.alloc ?_ (by simp <;> omega) _ | refine Below.setCell ?_ (by simp <;> omega) _ | refine Below.drew ?_)
      rintro e w1 ⟨rfl, k1⟩
      have K1 := Lib.hid k1
      clear k1
      go_wp2_with fail
      go_ret
      refine ⟨by rw [HV.out]; rfl, ?_⟩
      refine Below.trans ?_ (K1.out.mono (by simp <;> omega))
      repeat' (first | exact Below.refl _ _ | refine Below.alloc ?_ (by simp <;> omega) _ | refine Below.setCell ?_ (by simp <;> omega) _ | refine Below.drew ?_)
  have HO := Lib.hid (fun w1 => hasOne_calls x.op w1)
  have HT := Lib.hid (fun w1 => hasTwo_calls x.op w1)
  cases e3 : oneB x.op
  case true =>
    rw [e3] at HO
    cases eb : decide (x = mkE x x.a 0 ⟨#[]⟩ v0)
    · have q0 := eqInEx x (mkE x x.a 0 ⟨#[]⟩ v0)
      rw [eb] at q0
      have q1 : ∀ w, (Op.equalIn 10000 53 (.agg #[.int .i64 x.op, .int .i64 x.a, .int .i64 x.b, .string x.n, .int .i64 x.v.k, .int .i64 x.v.i, .string x.v.s, .bool x.v.b, .int .i64 x.l, .int .i64 x.c]) (.agg #[.int .i64 x.op, .int .i64 x.a, .int .i64 0, .string ⟨#[]⟩, .int .i64 0, .int .i64 0, .string ⟨#[]⟩, .bool false, .int .i64 x.l, .int .i64 x.c])).run Tryz.prog w = .ok false w := q0
      clear q0
      have HV : Hid (okN x = false) := Lib.hid (by rw [HS.out]; simp only [e1, e2, e3, if_true, Bool.false_eq_true, if_false, eb])
      clear eb
      go_enter Tryz.func107, Tryz.ntmps107
      go_wp2_with fail
      refine (HO.out _).mono ?_
      rintro e w1 ⟨rfl, hw1⟩
      subst hw1
      go_wp2_with fail
      go_ret
      refine ⟨by rw [HV.out]; rfl, ?_⟩
      repeat' (first | exact Below.refl _ _ | refine Below.alloc ?_ (by simp <;> omega) _ | refine Below.setCell ?_ (by simp <;> omega) _ | refine Below.drew ?_)
    · have q0 := eqInEx x (mkE x x.a 0 ⟨#[]⟩ v0)
      rw [eb] at q0
      have q1 : ∀ w, (Op.equalIn 10000 53 (.agg #[.int .i64 x.op, .int .i64 x.a, .int .i64 x.b, .string x.n, .int .i64 x.v.k, .int .i64 x.v.i, .string x.v.s, .bool x.v.b, .int .i64 x.l, .int .i64 x.c]) (.agg #[.int .i64 x.op, .int .i64 x.a, .int .i64 0, .string ⟨#[]⟩, .int .i64 0, .int .i64 0, .string ⟨#[]⟩, .bool false, .int .i64 x.l, .int .i64 x.c])).run Tryz.prog w = .ok true w := q0
      clear q0
      have HV : Hid (okN x = true) := Lib.hid (by rw [HS.out]; simp only [e1, e2, e3, if_true, Bool.false_eq_true, if_false, eb])
      clear eb
      go_enter Tryz.func107, Tryz.ntmps107
      go_wp2_with fail
      refine (HO.out _).mono ?_
      rintro e w1 ⟨rfl, hw1⟩
      subst hw1
      go_wp2_with fail
      go_ret
      refine ⟨by rw [HV.out]; rfl, ?_⟩
      repeat' (first | exact Below.refl _ _ | refine Below.alloc ?_ (by simp <;> omega) _ | refine Below.setCell ?_ (by simp <;> omega) _ | refine Below.drew ?_)
  cases e4 : twoB x.op
  case true =>
    rw [e3] at HO
    rw [e4] at HT
    cases eb : decide (x = mkE x x.a x.b ⟨#[]⟩ v0)
    · have q0 := eqInEx x (mkE x x.a x.b ⟨#[]⟩ v0)
      rw [eb] at q0
      have q1 : ∀ w, (Op.equalIn 10000 53 (.agg #[.int .i64 x.op, .int .i64 x.a, .int .i64 x.b, .string x.n, .int .i64 x.v.k, .int .i64 x.v.i, .string x.v.s, .bool x.v.b, .int .i64 x.l, .int .i64 x.c]) (.agg #[.int .i64 x.op, .int .i64 x.a, .int .i64 x.b, .string ⟨#[]⟩, .int .i64 0, .int .i64 0, .string ⟨#[]⟩, .bool false, .int .i64 x.l, .int .i64 x.c])).run Tryz.prog w = .ok false w := q0
      clear q0
      have HV : Hid (okN x = false) := Lib.hid (by rw [HS.out]; simp only [e1, e2, e3, e4, if_true, Bool.false_eq_true, if_false, eb])
      clear eb
      go_enter Tryz.func107, Tryz.ntmps107
      go_wp2_with fail
      refine (HO.out _).mono ?_
      rintro e w1 ⟨rfl, hw1⟩
      subst hw1
      go_wp2_with fail
      refine (HT.out _).mono ?_
      rintro e w2 ⟨rfl, hw2⟩
      subst hw2
      go_wp2_with fail
      go_region
      go_wp2_with fail
      go_ret
      refine ⟨by rw [HV.out]; rfl, ?_⟩
      repeat' (first | exact Below.refl _ _ | refine Below.alloc ?_ (by simp <;> omega) _ | refine Below.setCell ?_ (by simp <;> omega) _ | refine Below.drew ?_)
    · have q0 := eqInEx x (mkE x x.a x.b ⟨#[]⟩ v0)
      rw [eb] at q0
      have q1 : ∀ w, (Op.equalIn 10000 53 (.agg #[.int .i64 x.op, .int .i64 x.a, .int .i64 x.b, .string x.n, .int .i64 x.v.k, .int .i64 x.v.i, .string x.v.s, .bool x.v.b, .int .i64 x.l, .int .i64 x.c]) (.agg #[.int .i64 x.op, .int .i64 x.a, .int .i64 x.b, .string ⟨#[]⟩, .int .i64 0, .int .i64 0, .string ⟨#[]⟩, .bool false, .int .i64 x.l, .int .i64 x.c])).run Tryz.prog w = .ok true w := q0
      clear q0
      have HV : Hid (okN x = true) := Lib.hid (by rw [HS.out]; simp only [e1, e2, e3, e4, if_true, Bool.false_eq_true, if_false, eb])
      clear eb
      go_enter Tryz.func107, Tryz.ntmps107
      go_wp2_with fail
      refine (HO.out _).mono ?_
      rintro e w1 ⟨rfl, hw1⟩
      subst hw1
      go_wp2_with fail
      refine (HT.out _).mono ?_
      rintro e w2 ⟨rfl, hw2⟩
      subst hw2
      go_wp2_with fail
      go_region
      go_wp2_with fail
      go_ret
      refine ⟨by rw [HV.out]; rfl, ?_⟩
      repeat' (first | exact Below.refl _ _ | refine Below.alloc ?_ (by simp <;> omega) _ | refine Below.setCell ?_ (by simp <;> omega) _ | refine Below.drew ?_)
  case false =>
    rw [e3] at HO
    rw [e4] at HT
    have HV : Hid (okN x = false) := Lib.hid (by rw [HS.out]; simp only [e1, e2, e3, e4, Bool.false_eq_true, if_false])
    go_enter Tryz.func107, Tryz.ntmps107
    go_wp2_with fail
    refine (HO.out _).mono ?_
    rintro e w1 ⟨rfl, hw1⟩
    subst hw1
    go_wp2_with fail
    refine (HT.out _).mono ?_
    rintro e w2 ⟨rfl, hw2⟩
    subst hw2
    go_wp2_with fail
    go_ret
    refine ⟨by rw [HV.out]; rfl, ?_⟩
    repeat' (first | exact Below.refl _ _ | refine Below.alloc ?_ (by simp <;> omega) _ | refine Below.setCell ?_ (by simp <;> omega) _ | refine Below.drew ?_)

/-- The roots of the expressions that a node has, in their order. -/
def rootsT (x : Ex) : List Int := if oneB x.op = true then [x.a] else if twoB x.op = true then [x.a, x.b] else []
set_option maxHeartbeats 1000000 in
set_option maxRecDepth 100000 in
theorem rootsOf_calls (x : Ex) (w : World) :
    Calls Tryz.prog 108 #[.agg #[.int .i64 x.op, .int .i64 x.a, .int .i64 x.b, .string x.n, .int .i64 x.v.k, .int .i64 x.v.i, .string x.v.s, .bool x.v.b, .int .i64 x.l, .int .i64 x.c]] w fun e w' => (∃ a c, e = .returned (.slice a (rootsT x).length c) ∧ GIn rInt 3 True 1 w' a (rootsT x).length (rootsT x)) ∧ Below w.heap.size w w' := by
  have HS : Hid (rootsT x = _) := Lib.hid (rootsT.eq_1 x)
  have HO := Lib.hid (fun w1 => hasOne_calls x.op w1)
  have HT := Lib.hid (fun w1 => hasTwo_calls x.op w1)
  cases e3 : oneB x.op
  case true =>
    rw [e3] at HO
    have HV : Hid (rootsT x = [x.a]) := Lib.hid (by rw [HS.out]; simp only [e3, if_true])
    clear e3
    go_enter Tryz.func108, Tryz.ntmps108
    go_wp2_with fail
    refine (HO.out _).mono ?_
    rintro e w1 ⟨rfl, hw1⟩
    subst hw1
    go_wp2_with fail
    go_ret
    rw [HV.out]
    refine ⟨⟨_, _, rfl, gin_new (C := fun k => [.int .i64 k]) (L := [x.a]) (by simp) rfl (fun _ => rfl) (fun _ _ => trivial) (by simp)⟩, ?_⟩
    repeat' (first | exact Below.refl _ _ | refine Below.alloc ?_ (by simp <;> omega) _ | refine Below.setCell ?_ (by simp <;> omega) _ | refine Below.drew ?_)
  case false =>
    rw [e3] at HO
    cases e4 : twoB x.op
    all_goals rw [e4] at HT
    case true =>
      have HV : Hid (rootsT x = [x.a, x.b]) := Lib.hid (by rw [HS.out]; simp only [e3, e4, if_true, Bool.false_eq_true, if_false])
      clear e3 e4
      go_enter Tryz.func108, Tryz.ntmps108
      go_wp2_with fail
      refine (HO.out _).mono ?_
      rintro e w1 ⟨rfl, hw1⟩
      subst hw1
      go_wp2_with fail
      refine (HT.out _).mono ?_
      rintro e w1 ⟨rfl, hw1⟩
      subst hw1
      go_wp2_with fail
      go_ret
      rw [HV.out]
      refine ⟨⟨_, _, rfl, gin_new (C := fun k => [.int .i64 k]) (L := [x.a, x.b]) (by simp) rfl (fun _ => rfl) (fun _ _ => trivial) (by simp)⟩, ?_⟩
      repeat' (first | exact Below.refl _ _ | refine Below.alloc ?_ (by simp <;> omega) _ | refine Below.setCell ?_ (by simp <;> omega) _ | refine Below.drew ?_)
    case false =>
      have HV : Hid (rootsT x = []) := Lib.hid (by rw [HS.out]; simp only [e3, e4, Bool.false_eq_true, if_false])
      clear e3 e4
      go_enter Tryz.func108, Tryz.ntmps108
      go_wp2_with fail
      refine (HO.out _).mono ?_
      rintro e w1 ⟨rfl, hw1⟩
      subst hw1
      go_wp2_with fail
      refine (HT.out _).mono ?_
      rintro e w1 ⟨rfl, hw1⟩
      subst hw1
      go_wp2_with fail
      go_ret
      rw [HV.out]
      refine ⟨⟨_, _, rfl, GIn.nil⟩, ?_⟩
      repeat' (first | exact Below.refl _ _ | refine Below.alloc ?_ (by simp <;> omega) _ | refine Below.setCell ?_ (by simp <;> omega) _ | refine Below.drew ?_)
end Go.Proofs.YtojabkhfkbfeaaaGreatDoor
