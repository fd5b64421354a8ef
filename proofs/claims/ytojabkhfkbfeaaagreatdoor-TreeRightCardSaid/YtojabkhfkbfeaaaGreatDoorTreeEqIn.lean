/- The parts of trees compared as structs. -/
import Derived.Test.YtojabkhfkbfeaaaGreatDoorTreeDec
import Derived.Test.YtojabkhfkbfeaaaGreatDoorTreeMem
import Derived.Laws.StructEq
namespace Go.Proofs.YtojabkhfkbfeaaaGreatDoor
open Go.RowKit
set_option linter.unusedVariables false

theorem guardQu : Tryz.prog.eqGuardType Tryz.prog.depth 57 = false := by kernel_rfl
set_option maxRecDepth 100000 in
theorem eqInQu (a b : Qu) (w : World) : (Op.equalIn 10000 57 (.agg #[.bool a.all, .string a.n.t, .int .i64 a.n.l, .int .i64 a.n.c, .int .i64 a.t]) (.agg #[.bool b.all, .string b.n.t, .int .i64 b.n.l, .int .i64 b.n.c, .int .i64 b.t])).run Tryz.prog w = .ok (decide (a = b)) w := by
  rw [run_equalIn_agg w 9999 _ _ _ (by simp only [Program.fieldsOf, Tryz.underlying57]) (by kernel_rfl)]
  simp only [Program.fieldsOf, Tryz.underlying57]
  go_simp
  obtain ⟨p1, ⟨p2, p3, p4⟩, p5⟩ := a
  obtain ⟨q1, ⟨q2, q3, q4⟩, q5⟩ := b
  simp only [tl_eq, Qu.mk.injEq, Id3.mk.injEq]
  repeat' split
  all_goals simp_all
theorem guardFr : Tryz.prog.eqGuardType Tryz.prog.depth 43 = false := by kernel_rfl
set_option maxRecDepth 100000 in
theorem eqInFr (a b : Fr) (w : World) : (Op.equalIn 10000 43 (.agg #[.string a.n.t, .int .i64 a.n.l, .int .i64 a.n.c, .int .i64 a.v.k, .int .i64 a.v.i, .string a.v.s, .bool a.v.b]) (.agg #[.string b.n.t, .int .i64 b.n.l, .int .i64 b.n.c, .int .i64 b.v.k, .int .i64 b.v.i, .string b.v.s, .bool b.v.b])).run Tryz.prog w = .ok (decide (a = b)) w := by
  rw [run_equalIn_agg w 9999 _ _ _ (by simp only [Program.fieldsOf, Tryz.underlying43]) (by kernel_rfl)]
  simp only [Program.fieldsOf, Tryz.underlying43]
  go_simp
  obtain ⟨⟨p1, p2, p3⟩, ⟨p4, p5, p6, p7⟩⟩ := a
  obtain ⟨⟨q1, q2, q3⟩, ⟨q4, q5, q6, q7⟩⟩ := b
  simp only [tl_eq, Fr.mk.injEq, Id3.mk.injEq, Vd.mk.injEq]
  repeat' split
  all_goals simp_all
theorem guardSta : Tryz.prog.eqGuardType Tryz.prog.depth 60 = false := by kernel_rfl
set_option maxRecDepth 100000 in
theorem eqInSta (a b : Sta) (w : World) : (Op.equalIn 10000 60 (.agg #[.string a.n.t, .int .i64 a.n.l, .int .i64 a.n.c, .bool a.nx, .bool a.ac]) (.agg #[.string b.n.t, .int .i64 b.n.l, .int .i64 b.n.c, .bool b.nx, .bool b.ac])).run Tryz.prog w = .ok (decide (a = b)) w := by
  rw [run_equalIn_agg w 9999 _ _ _ (by simp only [Program.fieldsOf, Tryz.underlying60]) (by kernel_rfl)]
  simp only [Program.fieldsOf, Tryz.underlying60]
  go_simp
  obtain ⟨⟨p1, p2, p3⟩, p4, p5⟩ := a
  obtain ⟨⟨q1, q2, q3⟩, q4, q5⟩ := b
  simp only [tl_eq, Sta.mk.injEq, Id3.mk.injEq]
  repeat' split
  all_goals simp_all
theorem guardAg : Tryz.prog.eqGuardType Tryz.prog.depth 101 = false := by kernel_rfl
set_option maxRecDepth 100000 in
theorem eqInAg (a b : Ag) (w : World) : (Op.equalIn 10000 101 (.agg #[.int .i64 a.k, .string a.n, .int .i64 a.v.k, .int .i64 a.v.i, .string a.v.s, .bool a.v.b, .int .i64 a.l, .int .i64 a.c]) (.agg #[.int .i64 b.k, .string b.n, .int .i64 b.v.k, .int .i64 b.v.i, .string b.v.s, .bool b.v.b, .int .i64 b.l, .int .i64 b.c])).run Tryz.prog w = .ok (decide (a = b)) w := by
  rw [run_equalIn_agg w 9999 _ _ _ (by simp only [Program.fieldsOf, Tryz.underlying101]) (by kernel_rfl)]
  simp only [Program.fieldsOf, Tryz.underlying101]
  go_simp
  obtain ⟨p1, p2, ⟨p3, p4, p5, p6⟩, p7, p8⟩ := a
  obtain ⟨q1, q2, ⟨q3, q4, q5, q6⟩, q7, q8⟩ := b
  simp only [tl_eq, Ag.mk.injEq, Vd.mk.injEq]
  repeat' split
  all_goals simp_all
theorem guardEx : Tryz.prog.eqGuardType Tryz.prog.depth 53 = false := by kernel_rfl
set_option maxRecDepth 100000 in
theorem eqInEx (a b : Ex) (w : World) : (Op.equalIn 10000 53 (.agg #[.int .i64 a.op, .int .i64 a.a, .int .i64 a.b, .string a.n, .int .i64 a.v.k, .int .i64 a.v.i, .string a.v.s, .bool a.v.b, .int .i64 a.l, .int .i64 a.c]) (.agg #[.int .i64 b.op, .int .i64 b.a, .int .i64 b.b, .string b.n, .int .i64 b.v.k, .int .i64 b.v.i, .string b.v.s, .bool b.v.b, .int .i64 b.l, .int .i64 b.c])).run Tryz.prog w = .ok (decide (a = b)) w := by
  rw [run_equalIn_agg w 9999 _ _ _ (by simp only [Program.fieldsOf, Tryz.underlying53]) (by kernel_rfl)]
  simp only [Program.fieldsOf, Tryz.underlying53]
  go_simp
  obtain ⟨p1, p2, p3, p4, ⟨p5, p6, p7, p8⟩, p9, p10⟩ := a
  obtain ⟨q1, q2, q3, q4, ⟨q5, q6, q7, q8⟩, q9, q10⟩ := b
  simp only [tl_eq, Ex.mk.injEq, Vd.mk.injEq]
  repeat' split
  all_goals simp_all
theorem guardSe : Tryz.prog.eqGuardType Tryz.prog.depth 92 = false := by kernel_rfl
set_option maxRecDepth 100000 in
theorem eqInSe (a b : Se) (w : World) : (Op.equalIn 10000 92 (.agg #[.string a.n.t, .int .i64 a.n.l, .int .i64 a.n.c, .int .i64 a.e]) (.agg #[.string b.n.t, .int .i64 b.n.l, .int .i64 b.n.c, .int .i64 b.e])).run Tryz.prog w = .ok (decide (a = b)) w := by
  rw [run_equalIn_agg w 9999 _ _ _ (by simp only [Program.fieldsOf, Tryz.underlying92]) (by kernel_rfl)]
  simp only [Program.fieldsOf, Tryz.underlying92]
  go_simp
  obtain ⟨⟨p1, p2, p3⟩, p4⟩ := a
  obtain ⟨⟨q1, q2, q3⟩, q4⟩ := b
  simp only [tl_eq, Se.mk.injEq, Id3.mk.injEq]
  repeat' split
  all_goals simp_all
theorem guardId : Tryz.prog.eqGuardType Tryz.prog.depth 23 = false := by kernel_rfl
set_option maxRecDepth 100000 in
theorem eqInId (a b : Id3) (w : World) : (Op.equalIn 10000 23 (.agg #[.string a.t, .int .i64 a.l, .int .i64 a.c]) (.agg #[.string b.t, .int .i64 b.l, .int .i64 b.c])).run Tryz.prog w = .ok (decide (a = b)) w := by
  rw [run_equalIn_agg w 9999 _ _ _ (by simp only [Program.fieldsOf, Tryz.underlying23]) (by kernel_rfl)]
  simp only [Program.fieldsOf, Tryz.underlying23]
  go_simp
  obtain ⟨p1, p2, p3⟩ := a
  obtain ⟨q1, q2, q3⟩ := b
  simp only [tl_eq, Id3.mk.injEq]
  repeat' split
  all_goals simp_all
end Go.Proofs.YtojabkhfkbfeaaaGreatDoor
