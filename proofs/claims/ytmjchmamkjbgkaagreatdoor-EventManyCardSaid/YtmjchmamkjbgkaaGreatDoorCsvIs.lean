/- errors.Is at an error of a field that holds a number of package api, asked for a number of package api: its text is walked (after the guide's 10.9); and what csv.reasonOf tells of such an error. -/
import Derived.Test.YtmjchmamkjbgkaaGreatDoorRows
import Derived.WalkKit
import Derived.LaidEql
import Derived.Lib.IfaceEq
import Derived.Lib.Hide
import Derived.Stop.Asserts
import Derived.RowKitTokens
namespace Go.Proofs.YtmjchmamkjbgkaaGreatDoor
open Go.RowKit Go.Extern.Stop Go.Stop Go.Extern
set_option linter.unusedVariables false

theorem fe_typeOf (v : Value) (w : World) : (Extern.ReflectliteType.typeOf #[.iface 30 v]).run Tryz.prog w = .ok (.iface 143 (.agg #[.pointer (some ⟨10, 30, none⟩)])) w := by kernel_rfl
/-- What the model runs for (rtype).Comparable, under one name. -/
def fe_cmpFn : Array Value → Sem Value := Extern.ReflectliteType.method fun t => do Extern.Rtype.noPackHeld "Comparable" t; pure (.bool (← typeInfo t).comparable)
theorem fe_comparable (w : World) : (fe_cmpFn #[.agg #[.pointer (some ⟨10, 30, none⟩)]]).run Tryz.prog w = .ok (.bool true) w := by kernel_rfl
theorem fe_methodComparable (v : Value) (w : World) : (Go.method 371 143 v "Comparable").run Tryz.prog w = .ok (191, v) w := by kernel_rfl
theorem fe_comp : (Tryz.prog.info? 30).map (·.comparable) = some true := by kernel_rfl
theorem fe_noIs (v : Value) (xT : TypeId) (w : World) : (Instr.typeAssert (.iface 134 v) xT 203 true).run Tryz.prog w = .ok (.tuple #[.nilIface, .bool false]) w := run_typeAssert_lacksB Tryz.underlying203 (by kernel_rfl) (by kernel_rfl) v xT w
theorem fe_noIsE (v : Value) (xT : TypeId) (w : World) : (Instr.typeAssert (.iface 30 v) xT 203 true).run Tryz.prog w = .ok (.tuple #[.nilIface, .bool false]) w := run_typeAssert_lacksB Tryz.underlying203 (by kernel_rfl) (by kernel_rfl) v xT w
theorem fe_hasUnwrap (v : Value) (xT : TypeId) (w : World) : (Instr.typeAssert (.iface 134 v) xT 151 true).run Tryz.prog w = .ok (.tuple #[.iface 134 v, .bool true]) w := run_typeAssert_hasB Tryz.underlying151 (by kernel_rfl) v xT w
theorem fe_noUnwrapE (v : Value) (xT : TypeId) (w : World) : (Instr.typeAssert (.iface 30 v) xT 151 true).run Tryz.prog w = .ok (.tuple #[.nilIface, .bool false]) w := run_typeAssert_lacksB Tryz.underlying151 (by kernel_rfl) (by kernel_rfl) v xT w
theorem fe_noUnwrapsE (v : Value) (xT : TypeId) (w : World) : (Instr.typeAssert (.iface 30 v) xT 153 true).run Tryz.prog w = .ok (.tuple #[.nilIface, .bool false]) w := run_typeAssert_lacksB Tryz.underlying153 (by kernel_rfl) (by kernel_rfl) v xT w
theorem fe_methodUnwrap (v : Value) (w : World) : (Go.method 371 134 v "Unwrap").run Tryz.prog w = .ok (188, v) w := by kernel_rfl

set_option maxHeartbeats 2000000 in
/-- errors.Is(e, x), e the error of a field whose reason is d. -/
theorem fe_is (N : Nat) (d x : Int) (w : World) (h1 : w.cell? ⟨N, 1, none⟩ = some (.iface 30 (.int .i64 d))) (b : Bool) (hb : (d == x) = b) :
    Calls Tryz.prog 93 #[.iface 134 (.pointer (some ⟨N, 0, none⟩)), .iface 30 (.int .i64 x)] w fun e w' => e = .returned (.bool b) ∧ w = w' := by
  have h8 := @run_callFunc_extern Tryz.prog 71 _ Extern.ReflectliteType.typeOf Tryz.func71 (by kernel_rfl) (by kernel_rfl) (by kernel_rfl) (by kernel_rfl)
  have h32 := @run_callFunc_extern Tryz.prog 191 _ fe_cmpFn Tryz.func191 (by kernel_rfl) (by kernel_rfl) (by kernel_rfl) (by kernel_rfl)
  have tT := fe_typeOf
  have cT := fe_comparable
  have mR := fe_methodComparable
  have nW := fe_noIs
  have nE := fe_noIsE
  have uW := fe_hasUnwrap
  have uE := fe_noUnwrapE
  have uS := fe_noUnwrapsE
  have mU := fe_methodUnwrap
  have heq : ∀ w1, (binOp .eql 73 (.iface 30 (.int .i64 d)) (.iface 30 (.int .i64 x))).run Tryz.prog w1 = .ok (.bool b) w1 := fun w1 => by
    have := Lib.run_eql_iface_int (P := Tryz.prog) w1 (k := .i64) d x Tryz.underlying73 fe_comp Tryz.underlying30
    rw [hb] at this
    exact this
  have hty := fun v w1 => run_eql_iface_types (P := Tryz.prog) 134 30 (.pointer (some ⟨N, 0, none⟩)) v Tryz.underlying73 (by decide) w1
  clear hb
  cases b
  · go_enter Tryz.func93, Tryz.ntmps93
    go_wp2
    refine wp_loop_rounds 2 ?_
    rw [rounds_succ]
    go_wp2
    rw [rounds_succ]
    go_wp2
    go_ret
    exact ⟨rfl, rfl⟩
  · go_enter Tryz.func93, Tryz.ntmps93
    go_wp2
    refine wp_loop_rounds 2 ?_
    rw [rounds_succ]
    go_wp2
    rw [rounds_succ]
    go_wp2
    go_ret
    exact ⟨rfl, rfl⟩

set_option maxHeartbeats 1000000 in
theorem reasonOf_calls (N : Nat) (d : Nat) (w : World) (h1 : w.cell? ⟨N, 1, none⟩ = some (.iface 30 (.int .i64 d))) (hd : d = 17 ∨ d = 3 ∨ d = 15) :
    Calls Tryz.prog 67 #[.iface 134 (.pointer (some ⟨N, 0, none⟩))] w fun e w' => e = .returned (.int .i64 d) ∧ w = w' := by
  have H15 := Lib.hid (fun b hb => fe_is N d 15 w h1 b hb)
  have H3 := Lib.hid (fun b hb => fe_is N d 3 w h1 b hb)
  clear h1
  rcases hd with rfl | rfl | rfl
  · go_enter Tryz.func67, Tryz.ntmps67
    go_wp2_with fail
    refine (H15.out false (by decide)).mono ?_
    rintro e w1 ⟨rfl, rfl⟩
    go_wp2_with fail
    refine (H3.out false (by decide)).mono ?_
    rintro e w1 ⟨rfl, rfl⟩
    go_wp2_with fail
    go_ret
    exact ⟨rfl, rfl⟩
  · go_enter Tryz.func67, Tryz.ntmps67
    go_wp2_with fail
    refine (H15.out false (by decide)).mono ?_
    rintro e w1 ⟨rfl, rfl⟩
    go_wp2_with fail
    refine (H3.out true (by decide)).mono ?_
    rintro e w1 ⟨rfl, rfl⟩
    go_wp2_with fail
    go_ret
    exact ⟨rfl, rfl⟩
  · go_enter Tryz.func67, Tryz.ntmps67
    go_wp2_with fail
    refine (H15.out true (by decide)).mono ?_
    rintro e w1 ⟨rfl, rfl⟩
    go_wp2_with fail
    go_ret
    exact ⟨rfl, rfl⟩
end Go.Proofs.YtmjchmamkjbgkaaGreatDoor
