/- errors.Is at an error of a field that holds a number of package api, asked for a number of package api: its text is walked (after the guide's 10.9); and what csv.reasonOf tells of such an error. -/
import Derived.Test.YtkihjfdpfglkbaaDoorRows
import Derived.WalkKit
import Derived.LaidEql
import Derived.Lib.IfaceEq
import Derived.Lib.Hide
import Derived.Stop.Asserts
import Derived.RowKitTokens
namespace Go.Proofs.YtkihjfdpfglkbaaDoor
open Go.RowKit Go.Extern.Stop Go.Stop Go.Extern
set_option linter.unusedVariables false

theorem fe_typeOf (v : Value) (w : World) : (Extern.ReflectliteType.typeOf #[.iface 24 v]).run Tryd.prog w = .ok (.iface 96 (.agg #[.pointer (some ⟨4, 24, none⟩)])) w := by kernel_rfl
/-- What the model runs for (rtype).Comparable, under one name. -/
def fe_cmpFn : Array Value → Sem Value := Extern.ReflectliteType.method fun t => do Extern.Rtype.noPackHeld "Comparable" t; pure (.bool (← typeInfo t).comparable)
theorem fe_comparable (w : World) : (fe_cmpFn #[.agg #[.pointer (some ⟨4, 24, none⟩)]]).run Tryd.prog w = .ok (.bool true) w := by kernel_rfl
theorem fe_methodComparable (v : Value) (w : World) : (Go.method 255 96 v "Comparable").run Tryd.prog w = .ok (96, v) w := by kernel_rfl
theorem fe_comp : (Tryd.prog.info? 24).map (·.comparable) = some true := by kernel_rfl
theorem fe_noIs (v : Value) (xT : TypeId) (w : World) : (Instr.typeAssert (.iface 59 v) xT 115 true).run Tryd.prog w = .ok (.tuple #[.nilIface, .bool false]) w := run_typeAssert_lacksB Tryd.underlying115 (by kernel_rfl) (by kernel_rfl) v xT w
theorem fe_noIsE (v : Value) (xT : TypeId) (w : World) : (Instr.typeAssert (.iface 24 v) xT 115 true).run Tryd.prog w = .ok (.tuple #[.nilIface, .bool false]) w := run_typeAssert_lacksB Tryd.underlying115 (by kernel_rfl) (by kernel_rfl) v xT w
theorem fe_hasUnwrap (v : Value) (xT : TypeId) (w : World) : (Instr.typeAssert (.iface 59 v) xT 104 true).run Tryd.prog w = .ok (.tuple #[.iface 59 v, .bool true]) w := run_typeAssert_hasB Tryd.underlying104 (by kernel_rfl) v xT w
theorem fe_noUnwrapE (v : Value) (xT : TypeId) (w : World) : (Instr.typeAssert (.iface 24 v) xT 104 true).run Tryd.prog w = .ok (.tuple #[.nilIface, .bool false]) w := run_typeAssert_lacksB Tryd.underlying104 (by kernel_rfl) (by kernel_rfl) v xT w
theorem fe_noUnwrapsE (v : Value) (xT : TypeId) (w : World) : (Instr.typeAssert (.iface 24 v) xT 106 true).run Tryd.prog w = .ok (.tuple #[.nilIface, .bool false]) w := run_typeAssert_lacksB Tryd.underlying106 (by kernel_rfl) (by kernel_rfl) v xT w
theorem fe_methodUnwrap (v : Value) (w : World) : (Go.method 255 59 v "Unwrap").run Tryd.prog w = .ok (89, v) w := by kernel_rfl

set_option maxHeartbeats 2000000 in
/-- errors.Is(e, x), e the error of a field whose reason is d. -/
theorem fe_is (N : Nat) (d x : Int) (w : World) (h1 : w.cell? ⟨N, 1, none⟩ = some (.iface 24 (.int .i64 d))) (b : Bool) (hb : (d == x) = b) :
    Calls Tryd.prog 38 #[.iface 59 (.pointer (some ⟨N, 0, none⟩)), .iface 24 (.int .i64 x)] w fun e w' => e = .returned (.bool b) ∧ w = w' := by
  have h8 := @run_callFunc_extern Tryd.prog 48 _ Extern.ReflectliteType.typeOf Tryd.func48 (by kernel_rfl) (by kernel_rfl) (by kernel_rfl) (by kernel_rfl)
  have h32 := @run_callFunc_extern Tryd.prog 96 _ fe_cmpFn Tryd.func96 (by kernel_rfl) (by kernel_rfl) (by kernel_rfl) (by kernel_rfl)
  have tT := fe_typeOf
  have cT := fe_comparable
  have mR := fe_methodComparable
  have nW := fe_noIs
  have nE := fe_noIsE
  have uW := fe_hasUnwrap
  have uE := fe_noUnwrapE
  have uS := fe_noUnwrapsE
  have mU := fe_methodUnwrap
  have heq : ∀ w1, (binOp .eql 56 (.iface 24 (.int .i64 d)) (.iface 24 (.int .i64 x))).run Tryd.prog w1 = .ok (.bool b) w1 := fun w1 => by
    have := Lib.run_eql_iface_int (P := Tryd.prog) w1 (k := .i64) d x Tryd.underlying56 fe_comp Tryd.underlying24
    rw [hb] at this
    exact this
  have hty := fun v w1 => run_eql_iface_types (P := Tryd.prog) 59 24 (.pointer (some ⟨N, 0, none⟩)) v Tryd.underlying56 (by decide) w1
  clear hb
  cases b
  · go_enter Tryd.func38, Tryd.ntmps38
    go_wp2
    refine wp_loop_rounds 2 ?_
    rw [rounds_succ]
    go_wp2
    rw [rounds_succ]
    go_wp2
    go_ret
    exact ⟨rfl, rfl⟩
  · go_enter Tryd.func38, Tryd.ntmps38
    go_wp2
    refine wp_loop_rounds 2 ?_
    rw [rounds_succ]
    go_wp2
    rw [rounds_succ]
    go_wp2
    go_ret
    exact ⟨rfl, rfl⟩

set_option maxHeartbeats 1000000 in
theorem reasonOf_calls (N : Nat) (d : Nat) (w : World) (h1 : w.cell? ⟨N, 1, none⟩ = some (.iface 24 (.int .i64 d))) (hd : d = 17 ∨ d = 3 ∨ d = 15) :
    Calls Tryd.prog 25 #[.iface 59 (.pointer (some ⟨N, 0, none⟩))] w fun e w' => e = .returned (.int .i64 d) ∧ w = w' := by
  have H15 := Lib.hid (fun b hb => fe_is N d 15 w h1 b hb)
  have H3 := Lib.hid (fun b hb => fe_is N d 3 w h1 b hb)
  clear h1
  rcases hd with rfl | rfl | rfl
  · go_enter Tryd.func25, Tryd.ntmps25
    go_wp2_with fail
    refine (H15.out false (by decide)).mono ?_
    rintro e w1 ⟨rfl, rfl⟩
    go_wp2_with fail
    refine (H3.out false (by decide)).mono ?_
    rintro e w1 ⟨rfl, rfl⟩
    go_wp2_with fail
    go_ret
    exact ⟨rfl, rfl⟩
  · go_enter Tryd.func25, Tryd.ntmps25
    go_wp2_with fail
    refine (H15.out false (by decide)).mono ?_
    rintro e w1 ⟨rfl, rfl⟩
    go_wp2_with fail
    refine (H3.out true (by decide)).mono ?_
    rintro e w1 ⟨rfl, rfl⟩
    go_wp2_with fail
    go_ret
    exact ⟨rfl, rfl⟩
  · go_enter Tryd.func25, Tryd.ntmps25
    go_wp2_with fail
    refine (H15.out true (by decide)).mono ?_
    rintro e w1 ⟨rfl, rfl⟩
    go_wp2_with fail
    go_ret
    exact ⟨rfl, rfl⟩
end Go.Proofs.YtkihjfdpfglkbaaDoor
