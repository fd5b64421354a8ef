/- Names and flat things without their places: plainName, and the closures of Plain, plainSymbol and plainTrans. -/
import Derived.Test.YtojabkhfkbfeaaaGreatDoorTreeMem
import Derived.Test.YtojabkhfkbfeaaaGreatDoorValMake
import Derived.Test.YtojabkhfkbfeaaaGreatDoorTreeSameA
namespace Go.Proofs.YtojabkhfkbfeaaaGreatDoor
open Go.RowKit
set_option linter.unusedVariables false

theorem frozen2 {w w1 : World} {A B : List Value} {T U : TypeId} (k : Below (w.heap.size + 2) ((w.alloc (.cells A.toArray T)).alloc (.cells B.toArray U)) w1) :
    (∀ j, w1.frozen? ⟨w.heap.size, j, none⟩ = false) ∧ (∀ j, w1.frozen? ⟨w.heap.size + 1, j, none⟩ = false) := by
  refine ⟨fun j => ?_, fun j => ?_⟩
  · rw [k.frozen (p := ⟨w.heap.size, j, none⟩) (by simp)]
    have h1 := heap_alloc2_old w (.cells A.toArray T) (.cells B.toArray U)
    exact frozen_of_row _ _ j A.toArray T h1
  · rw [k.frozen (p := ⟨w.heap.size + 1, j, none⟩) (by simp)]
    have h1 := heap_alloc2_new w (.cells A.toArray T) (.cells B.toArray U)
    exact frozen_of_row _ _ j B.toArray U h1

set_option maxHeartbeats 1000000 in
set_option maxRecDepth 100000 in
theorem plainName_calls (x : Id3) (w : World) :
    Calls Tryz.prog 19 #[.agg #[.string x.t, .int .i64 x.l, .int .i64 x.c]] w fun e w' => e = .returned (.agg #[.string x.t, .int .i64 0, .int .i64 0]) ∧ Below w.heap.size w w' := by
  go_enter Tryz.func19, Tryz.ntmps19
  go_wp2
  refine bodyPost_ret (v := .agg #[.string x.t, .int .i64 0, .int .i64 0]) ?_ rfl ⟨rfl, ?_⟩
  · rw [results_cell rfl]
    go_simp
  · repeat' (first | (with_reducible refine Below.setCell ?_ (by simp <;> omega) _) | (with_reducible refine Below.alloc ?_ (by simp <;> omega) _) | (with_reducible refine Below.drew ?_) | exact Below.refl _ _)

set_option maxHeartbeats 1000000 in
set_option maxRecDepth 100000 in
theorem plainAg_calls (x : Ag) (w : World) :
    Calls Tryz.prog 73 #[.agg #[.int .i64 x.k, .string x.n, .int .i64 x.v.k, .int .i64 x.v.i, .string x.v.s, .bool x.v.b, .int .i64 x.l, .int .i64 x.c]] w fun e w' => e = .returned (.agg #[.int .i64 x.k, .string x.n, .int .i64 x.v.k, .int .i64 x.v.i, .string x.v.s, .bool x.v.b, .int .i64 0, .int .i64 0]) ∧ Below w.heap.size w w' := by
  go_enter Tryz.func73, Tryz.ntmps73
  go_wp2
  refine bodyPost_ret (v := .agg #[.int .i64 x.k, .string x.n, .int .i64 x.v.k, .int .i64 x.v.i, .string x.v.s, .bool x.v.b, .int .i64 0, .int .i64 0]) ?_ rfl ⟨rfl, ?_⟩
  · rw [results_cell rfl]
    go_simp
  · repeat' (first | (with_reducible refine Below.setCell ?_ (by simp <;> omega) _) | (with_reducible refine Below.alloc ?_ (by simp <;> omega) _) | (with_reducible refine Below.drew ?_) | exact Below.refl _ _)

set_option maxHeartbeats 1000000 in
set_option maxRecDepth 100000 in
theorem plainEx_calls (x : Ex) (w : World) :
    Calls Tryz.prog 76 #[.agg #[.int .i64 x.op, .int .i64 x.a, .int .i64 x.b, .string x.n, .int .i64 x.v.k, .int .i64 x.v.i, .string x.v.s, .bool x.v.b, .int .i64 x.l, .int .i64 x.c]] w fun e w' => e = .returned (.agg #[.int .i64 x.op, .int .i64 x.a, .int .i64 x.b, .string x.n, .int .i64 x.v.k, .int .i64 x.v.i, .string x.v.s, .bool x.v.b, .int .i64 0, .int .i64 0]) ∧ Below w.heap.size w w' := by
  go_enter Tryz.func76, Tryz.ntmps76
  go_wp2
  refine bodyPost_ret (v := .agg #[.int .i64 x.op, .int .i64 x.a, .int .i64 x.b, .string x.n, .int .i64 x.v.k, .int .i64 x.v.i, .string x.v.s, .bool x.v.b, .int .i64 0, .int .i64 0]) ?_ rfl ⟨rfl, ?_⟩
  · rw [results_cell rfl]
    go_simp
  · repeat' (first | (with_reducible refine Below.setCell ?_ (by simp <;> omega) _) | (with_reducible refine Below.alloc ?_ (by simp <;> omega) _) | (with_reducible refine Below.drew ?_) | exact Below.refl _ _)

set_option maxHeartbeats 2000000 in
set_option maxRecDepth 100000 in
theorem plainQu_calls (x : Qu) (w : World) :
    Calls Tryz.prog 24 #[.agg #[.bool x.all, .string x.n.t, .int .i64 x.n.l, .int .i64 x.n.c, .int .i64 x.t]] w fun e w' => e = .returned (.agg #[.bool x.all, .string x.n.t, .int .i64 0, .int .i64 0, .int .i64 x.t]) ∧ Below w.heap.size w w' := by
  have HB : Hid (Below w.heap.size w ((w.alloc (.cells #[.bool x.all, .string x.n.t, .int .i64 x.n.l, .int .i64 x.n.c, .int .i64 x.t] 57)).alloc (.cells #[.bool false, .string ⟨#[]⟩, .int .i64 0, .int .i64 0, .int .i64 0] 57))) := Lib.hid (((Below.refl w.heap.size w).alloc (Nat.le_refl _) _).alloc (by simp) _)
  have HK0 : Hid (Below (w.heap.size + 2) ((w.alloc (.cells #[.bool x.all, .string x.n.t, .int .i64 x.n.l, .int .i64 x.n.c, .int .i64 x.t] 57)).alloc (.cells #[.bool false, .string ⟨#[]⟩, .int .i64 0, .int .i64 0, .int .i64 0] 57)) ((w.alloc (.cells #[.bool x.all, .string x.n.t, .int .i64 x.n.l, .int .i64 x.n.c, .int .i64 x.t] 57)).alloc (.cells #[.bool false, .string ⟨#[]⟩, .int .i64 0, .int .i64 0, .int .i64 0] 57))) := Lib.hid (Below.refl _ _)
  have HN := Lib.hid (fun w1 => plainName_calls x.n w1)
  go_enter Tryz.func24, Tryz.ntmps24
  go_wp2_with fail
  refine (HN.out _).mono ?_
  rintro e w1 ⟨rfl, k1⟩
  have HK1 := Lib.hid (below2_step HK0.out (by simp) k1)
  clear k1
  obtain ⟨u, v⟩ := box2 HK1.out
  obtain ⟨p, q⟩ := frozen2 HK1.out
  have c0 := u 0 _ rfl
  have d0 := v 0 _ rfl
  have f0 := p 0
  have g0 := q 0
  have c1 := u 1 _ rfl
  have d1 := v 1 _ rfl
  have f1 := p 1
  have g1 := q 1
  have c2 := u 2 _ rfl
  have d2 := v 2 _ rfl
  have f2 := p 2
  have g2 := q 2
  have c3 := u 3 _ rfl
  have d3 := v 3 _ rfl
  have f3 := p 3
  have g3 := q 3
  have c4 := u 4 _ rfl
  have d4 := v 4 _ rfl
  have f4 := p 4
  have g4 := q 4
  clear u v p q
  have HBF := Lib.hid (HB.out.trans (HK1.out.mono (Nat.le_add_right _ 2)))
  have hsz : w.heap.size + 1 < w1.heap.size := by have := HK1.out.size; simp at this; omega
  go_wp2_with fail
  refine bodyPost_ret (v := .agg #[.bool x.all, .string x.n.t, .int .i64 0, .int .i64 0, .int .i64 x.t]) ?_ rfl ⟨rfl, ?_⟩
  · rw [results_cell rfl]
    go_simp
  · refine Below.trans HBF.out ?_
    repeat' (first | (with_reducible refine Below.setCell ?_ (by simp <;> omega) _) | (with_reducible refine Below.alloc ?_ (by simp <;> omega) _) | (with_reducible refine Below.drew ?_) | exact (Below.refl w1.heap.size w1).mono (by omega))

set_option maxHeartbeats 2000000 in
set_option maxRecDepth 100000 in
theorem plainFr_calls (x : Fr) (w : World) :
    Calls Tryz.prog 26 #[.agg #[.string x.n.t, .int .i64 x.n.l, .int .i64 x.n.c, .int .i64 x.v.k, .int .i64 x.v.i, .string x.v.s, .bool x.v.b]] w fun e w' => e = .returned (.agg #[.string x.n.t, .int .i64 0, .int .i64 0, .int .i64 x.v.k, .int .i64 x.v.i, .string x.v.s, .bool x.v.b]) ∧ Below w.heap.size w w' := by
  have HB : Hid (Below w.heap.size w ((w.alloc (.cells #[.string x.n.t, .int .i64 x.n.l, .int .i64 x.n.c, .int .i64 x.v.k, .int .i64 x.v.i, .string x.v.s, .bool x.v.b] 43)).alloc (.cells #[.string ⟨#[]⟩, .int .i64 0, .int .i64 0, .int .i64 0, .int .i64 0, .string ⟨#[]⟩, .bool false] 43))) := Lib.hid (((Below.refl w.heap.size w).alloc (Nat.le_refl _) _).alloc (by simp) _)
  have HK0 : Hid (Below (w.heap.size + 2) ((w.alloc (.cells #[.string x.n.t, .int .i64 x.n.l, .int .i64 x.n.c, .int .i64 x.v.k, .int .i64 x.v.i, .string x.v.s, .bool x.v.b] 43)).alloc (.cells #[.string ⟨#[]⟩, .int .i64 0, .int .i64 0, .int .i64 0, .int .i64 0, .string ⟨#[]⟩, .bool false] 43)) ((w.alloc (.cells #[.string x.n.t, .int .i64 x.n.l, .int .i64 x.n.c, .int .i64 x.v.k, .int .i64 x.v.i, .string x.v.s, .bool x.v.b] 43)).alloc (.cells #[.string ⟨#[]⟩, .int .i64 0, .int .i64 0, .int .i64 0, .int .i64 0, .string ⟨#[]⟩, .bool false] 43))) := Lib.hid (Below.refl _ _)
  have HN := Lib.hid (fun w1 => plainName_calls x.n w1)
  go_enter Tryz.func26, Tryz.ntmps26
  go_wp2_with fail
  refine (HN.out _).mono ?_
  rintro e w1 ⟨rfl, k1⟩
  have HK1 := Lib.hid (below2_step HK0.out (by simp) k1)
  clear k1
  obtain ⟨u, v⟩ := box2 HK1.out
  obtain ⟨p, q⟩ := frozen2 HK1.out
  have c0 := u 0 _ rfl
  have d0 := v 0 _ rfl
  have f0 := p 0
  have g0 := q 0
  have c1 := u 1 _ rfl
  have d1 := v 1 _ rfl
  have f1 := p 1
  have g1 := q 1
  have c2 := u 2 _ rfl
  have d2 := v 2 _ rfl
  have f2 := p 2
  have g2 := q 2
  have c3 := u 3 _ rfl
  have d3 := v 3 _ rfl
  have f3 := p 3
  have g3 := q 3
  have c4 := u 4 _ rfl
  have d4 := v 4 _ rfl
  have f4 := p 4
  have g4 := q 4
  have c5 := u 5 _ rfl
  have d5 := v 5 _ rfl
  have f5 := p 5
  have g5 := q 5
  have c6 := u 6 _ rfl
  have d6 := v 6 _ rfl
  have f6 := p 6
  have g6 := q 6
  clear u v p q
  have HBF := Lib.hid (HB.out.trans (HK1.out.mono (Nat.le_add_right _ 2)))
  have hsz : w.heap.size + 1 < w1.heap.size := by have := HK1.out.size; simp at this; omega
  go_wp2_with fail
  refine bodyPost_ret (v := .agg #[.string x.n.t, .int .i64 0, .int .i64 0, .int .i64 x.v.k, .int .i64 x.v.i, .string x.v.s, .bool x.v.b]) ?_ rfl ⟨rfl, ?_⟩
  · rw [results_cell rfl]
    go_simp
  · refine Below.trans HBF.out ?_
    repeat' (first | (with_reducible refine Below.setCell ?_ (by simp <;> omega) _) | (with_reducible refine Below.alloc ?_ (by simp <;> omega) _) | (with_reducible refine Below.drew ?_) | exact (Below.refl w1.heap.size w1).mono (by omega))

set_option maxHeartbeats 2000000 in
set_option maxRecDepth 100000 in
theorem plainSta_calls (x : Sta) (w : World) :
    Calls Tryz.prog 28 #[.agg #[.string x.n.t, .int .i64 x.n.l, .int .i64 x.n.c, .bool x.nx, .bool x.ac]] w fun e w' => e = .returned (.agg #[.string x.n.t, .int .i64 0, .int .i64 0, .bool x.nx, .bool x.ac]) ∧ Below w.heap.size w w' := by
  have HB : Hid (Below w.heap.size w ((w.alloc (.cells #[.string x.n.t, .int .i64 x.n.l, .int .i64 x.n.c, .bool x.nx, .bool x.ac] 60)).alloc (.cells #[.string ⟨#[]⟩, .int .i64 0, .int .i64 0, .bool false, .bool false] 60))) := Lib.hid (((Below.refl w.heap.size w).alloc (Nat.le_refl _) _).alloc (by simp) _)
  have HK0 : Hid (Below (w.heap.size + 2) ((w.alloc (.cells #[.string x.n.t, .int .i64 x.n.l, .int .i64 x.n.c, .bool x.nx, .bool x.ac] 60)).alloc (.cells #[.string ⟨#[]⟩, .int .i64 0, .int .i64 0, .bool false, .bool false] 60)) ((w.alloc (.cells #[.string x.n.t, .int .i64 x.n.l, .int .i64 x.n.c, .bool x.nx, .bool x.ac] 60)).alloc (.cells #[.string ⟨#[]⟩, .int .i64 0, .int .i64 0, .bool false, .bool false] 60))) := Lib.hid (Below.refl _ _)
  have HN := Lib.hid (fun w1 => plainName_calls x.n w1)
  go_enter Tryz.func28, Tryz.ntmps28
  go_wp2_with fail
  refine (HN.out _).mono ?_
  rintro e w1 ⟨rfl, k1⟩
  have HK1 := Lib.hid (below2_step HK0.out (by simp) k1)
  clear k1
  obtain ⟨u, v⟩ := box2 HK1.out
  obtain ⟨p, q⟩ := frozen2 HK1.out
  have c0 := u 0 _ rfl
  have d0 := v 0 _ rfl
  have f0 := p 0
  have g0 := q 0
  have c1 := u 1 _ rfl
  have d1 := v 1 _ rfl
  have f1 := p 1
  have g1 := q 1
  have c2 := u 2 _ rfl
  have d2 := v 2 _ rfl
  have f2 := p 2
  have g2 := q 2
  have c3 := u 3 _ rfl
  have d3 := v 3 _ rfl
  have f3 := p 3
  have g3 := q 3
  have c4 := u 4 _ rfl
  have d4 := v 4 _ rfl
  have f4 := p 4
  have g4 := q 4
  clear u v p q
  have HBF := Lib.hid (HB.out.trans (HK1.out.mono (Nat.le_add_right _ 2)))
  have hsz : w.heap.size + 1 < w1.heap.size := by have := HK1.out.size; simp at this; omega
  go_wp2_with fail
  refine bodyPost_ret (v := .agg #[.string x.n.t, .int .i64 0, .int .i64 0, .bool x.nx, .bool x.ac]) ?_ rfl ⟨rfl, ?_⟩
  · rw [results_cell rfl]
    go_simp
  · refine Below.trans HBF.out ?_
    repeat' (first | (with_reducible refine Below.setCell ?_ (by simp <;> omega) _) | (with_reducible refine Below.alloc ?_ (by simp <;> omega) _) | (with_reducible refine Below.drew ?_) | exact (Below.refl w1.heap.size w1).mono (by omega))

set_option maxHeartbeats 2000000 in
set_option maxRecDepth 100000 in
theorem plainSe_calls (x : Se) (w : World) :
    Calls Tryz.prog 78 #[.agg #[.string x.n.t, .int .i64 x.n.l, .int .i64 x.n.c, .int .i64 x.e]] w fun e w' => e = .returned (.agg #[.string x.n.t, .int .i64 0, .int .i64 0, .int .i64 x.e]) ∧ Below w.heap.size w w' := by
  have HB : Hid (Below w.heap.size w ((w.alloc (.cells #[.string x.n.t, .int .i64 x.n.l, .int .i64 x.n.c, .int .i64 x.e] 92)).alloc (.cells #[.string ⟨#[]⟩, .int .i64 0, .int .i64 0, .int .i64 0] 92))) := Lib.hid (((Below.refl w.heap.size w).alloc (Nat.le_refl _) _).alloc (by simp) _)
  have HK0 : Hid (Below (w.heap.size + 2) ((w.alloc (.cells #[.string x.n.t, .int .i64 x.n.l, .int .i64 x.n.c, .int .i64 x.e] 92)).alloc (.cells #[.string ⟨#[]⟩, .int .i64 0, .int .i64 0, .int .i64 0] 92)) ((w.alloc (.cells #[.string x.n.t, .int .i64 x.n.l, .int .i64 x.n.c, .int .i64 x.e] 92)).alloc (.cells #[.string ⟨#[]⟩, .int .i64 0, .int .i64 0, .int .i64 0] 92))) := Lib.hid (Below.refl _ _)
  have HN := Lib.hid (fun w1 => plainName_calls x.n w1)
  go_enter Tryz.func78, Tryz.ntmps78
  go_wp2_with fail
  refine (HN.out _).mono ?_
  rintro e w1 ⟨rfl, k1⟩
  have HK1 := Lib.hid (below2_step HK0.out (by simp) k1)
  clear k1
  obtain ⟨u, v⟩ := box2 HK1.out
  obtain ⟨p, q⟩ := frozen2 HK1.out
  have c0 := u 0 _ rfl
  have d0 := v 0 _ rfl
  have f0 := p 0
  have g0 := q 0
  have c1 := u 1 _ rfl
  have d1 := v 1 _ rfl
  have f1 := p 1
  have g1 := q 1
  have c2 := u 2 _ rfl
  have d2 := v 2 _ rfl
  have f2 := p 2
  have g2 := q 2
  have c3 := u 3 _ rfl
  have d3 := v 3 _ rfl
  have f3 := p 3
  have g3 := q 3
  clear u v p q
  have HBF := Lib.hid (HB.out.trans (HK1.out.mono (Nat.le_add_right _ 2)))
  have hsz : w.heap.size + 1 < w1.heap.size := by have := HK1.out.size; simp at this; omega
  go_wp2_with fail
  refine bodyPost_ret (v := .agg #[.string x.n.t, .int .i64 0, .int .i64 0, .int .i64 x.e]) ?_ rfl ⟨rfl, ?_⟩
  · rw [results_cell rfl]
    go_simp
  · refine Below.trans HBF.out ?_
    repeat' (first | (with_reducible refine Below.setCell ?_ (by simp <;> omega) _) | (with_reducible refine Below.alloc ?_ (by simp <;> omega) _) | (with_reducible refine Below.drew ?_) | exact (Below.refl w1.heap.size w1).mono (by omega))
end Go.Proofs.YtojabkhfkbfeaaaGreatDoor
