/- Whether two trees are the same: the law TreeSame's walk. -/
import Derived.Test.YtojabkhfkbfeaaaDoorTreeRefSame
import Derived.Test.YtojabkhfkbfeaaaDoorTreeFewF
import Derived.Test.YtojabkhfkbfeaaaDoorTreeAwake
namespace Go.Proofs.YtojabkhfkbfeaaaDoor.treeSame
open Go.RowKit
set_option linter.unusedVariables false

set_option maxHeartbeats 20000000 in
set_option maxRecDepth 100000 in
theorem walk {Y Y' : TyT} {O O' : Prop} (cs : List Value) (x : Tr) (cs' : List Value) (y : Tr) (w : World) (hx : TrIn Y O w cs x) (hy : TrIn Y' O' w cs' y) (hw : Wds w) :
    Calls Tryd.prog 3 #[.agg cs.toArray, .agg cs'.toArray] w fun e w' => e = .returned (.bool true) ∧ Below w.heap.size w w' := by
  have hx0 := hx
  have hy0 := hy
  obtain ⟨⟨da, dc, qa, qc, fa, fc, ta, tc, la, lc, xa, xc, rfl, _⟩, _⟩ := hx
  obtain ⟨⟨da', dc', qa', qc', fa', fc', ta', tc', la', lc', xa', xc', rfl, _⟩, _⟩ := hy
  have HB : Hid (Below w.heap.size w ((w.alloc (.cells #[.string x.n.t, .int .i64 x.n.l, .int .i64 x.n.c, .slice da x.ds.length dc, .slice qa x.qs.length qc, .slice fa x.fs.length fc, .slice ta x.st.length tc, .string x.s.t, .int .i64 x.s.l, .int .i64 x.s.c, .slice la x.al.length lc, .slice xa x.ts.length xc] 31)).alloc (.cells #[.string y.n.t, .int .i64 y.n.l, .int .i64 y.n.c, .slice da' y.ds.length dc', .slice qa' y.qs.length qc', .slice fa' y.fs.length fc', .slice ta' y.st.length tc', .string y.s.t, .int .i64 y.s.l, .int .i64 y.s.c, .slice la' y.al.length lc', .slice xa' y.ts.length xc'] 31))) := Lib.hid (((Below.refl w.heap.size w).alloc (Nat.le_refl _) _).alloc (by simp) _)
  have HK0 : Hid (Below (w.heap.size + 2) ((w.alloc (.cells #[.string x.n.t, .int .i64 x.n.l, .int .i64 x.n.c, .slice da x.ds.length dc, .slice qa x.qs.length qc, .slice fa x.fs.length fc, .slice ta x.st.length tc, .string x.s.t, .int .i64 x.s.l, .int .i64 x.s.c, .slice la x.al.length lc, .slice xa x.ts.length xc] 31)).alloc (.cells #[.string y.n.t, .int .i64 y.n.l, .int .i64 y.n.c, .slice da' y.ds.length dc', .slice qa' y.qs.length qc', .slice fa' y.fs.length fc', .slice ta' y.st.length tc', .string y.s.t, .int .i64 y.s.l, .int .i64 y.s.c, .slice la' y.al.length lc', .slice xa' y.ts.length xc'] 31)) ((w.alloc (.cells #[.string x.n.t, .int .i64 x.n.l, .int .i64 x.n.c, .slice da x.ds.length dc, .slice qa x.qs.length qc, .slice fa x.fs.length fc, .slice ta x.st.length tc, .string x.s.t, .int .i64 x.s.l, .int .i64 x.s.c, .slice la x.al.length lc, .slice xa x.ts.length xc] 31)).alloc (.cells #[.string y.n.t, .int .i64 y.n.l, .int .i64 y.n.c, .slice da' y.ds.length dc', .slice qa' y.qs.length qc', .slice fa' y.fs.length fc', .slice ta' y.st.length tc', .string y.s.t, .int .i64 y.s.l, .int .i64 y.s.c, .slice la' y.al.length lc', .slice xa' y.ts.length xc'] 31))) := Lib.hid (Below.refl _ _)
  have HBK : Hid (∀ w1, Hid (Below (w.heap.size + 2) ((w.alloc (.cells #[.string x.n.t, .int .i64 x.n.l, .int .i64 x.n.c, .slice da x.ds.length dc, .slice qa x.qs.length qc, .slice fa x.fs.length fc, .slice ta x.st.length tc, .string x.s.t, .int .i64 x.s.l, .int .i64 x.s.c, .slice la x.al.length lc, .slice xa x.ts.length xc] 31)).alloc (.cells #[.string y.n.t, .int .i64 y.n.l, .int .i64 y.n.c, .slice da' y.ds.length dc', .slice qa' y.qs.length qc', .slice fa' y.fs.length fc', .slice ta' y.st.length tc', .string y.s.t, .int .i64 y.s.l, .int .i64 y.s.c, .slice la' y.al.length lc', .slice xa' y.ts.length xc'] 31)) w1) → Below w.heap.size w w1) := Lib.hid (fun _ h => HB.out.trans (h.out.mono (Nat.le_add_right _ 2)))
  have HFx := Lib.hid (fun w1 (h : Hid (Below (w.heap.size + 2) ((w.alloc (.cells #[.string x.n.t, .int .i64 x.n.l, .int .i64 x.n.c, .slice da x.ds.length dc, .slice qa x.qs.length qc, .slice fa x.fs.length fc, .slice ta x.st.length tc, .string x.s.t, .int .i64 x.s.l, .int .i64 x.s.c, .slice la x.al.length lc, .slice xa x.ts.length xc] 31)).alloc (.cells #[.string y.n.t, .int .i64 y.n.l, .int .i64 y.n.c, .slice da' y.ds.length dc', .slice qa' y.qs.length qc', .slice fa' y.fs.length fc', .slice ta' y.st.length tc', .string y.s.t, .int .i64 y.s.l, .int .i64 y.s.c, .slice la' y.al.length lc', .slice xa' y.ts.length xc'] 31)) w1)) => few_calls x [.string x.n.t, .int .i64 x.n.l, .int .i64 x.n.c, .slice da x.ds.length dc, .slice qa x.qs.length qc, .slice fa x.fs.length fc, .slice ta x.st.length tc, .string x.s.t, .int .i64 x.s.l, .int .i64 x.s.c, .slice la x.al.length lc, .slice xa x.ts.length xc] w1 (hx0.below (HBK.out _ h)))
  have HFy := Lib.hid (fun w1 (h : Hid (Below (w.heap.size + 2) ((w.alloc (.cells #[.string x.n.t, .int .i64 x.n.l, .int .i64 x.n.c, .slice da x.ds.length dc, .slice qa x.qs.length qc, .slice fa x.fs.length fc, .slice ta x.st.length tc, .string x.s.t, .int .i64 x.s.l, .int .i64 x.s.c, .slice la x.al.length lc, .slice xa x.ts.length xc] 31)).alloc (.cells #[.string y.n.t, .int .i64 y.n.l, .int .i64 y.n.c, .slice da' y.ds.length dc', .slice qa' y.qs.length qc', .slice fa' y.fs.length fc', .slice ta' y.st.length tc', .string y.s.t, .int .i64 y.s.l, .int .i64 y.s.c, .slice la' y.al.length lc', .slice xa' y.ts.length xc'] 31)) w1)) => few_calls y [.string y.n.t, .int .i64 y.n.l, .int .i64 y.n.c, .slice da' y.ds.length dc', .slice qa' y.qs.length qc', .slice fa' y.fs.length fc', .slice ta' y.st.length tc', .string y.s.t, .int .i64 y.s.l, .int .i64 y.s.c, .slice la' y.al.length lc', .slice xa' y.ts.length xc'] w1 (hy0.below (HBK.out _ h)))
  have HSs := Lib.hid (fun w1 (h : Hid (Below (w.heap.size + 2) ((w.alloc (.cells #[.string x.n.t, .int .i64 x.n.l, .int .i64 x.n.c, .slice da x.ds.length dc, .slice qa x.qs.length qc, .slice fa x.fs.length fc, .slice ta x.st.length tc, .string x.s.t, .int .i64 x.s.l, .int .i64 x.s.c, .slice la x.al.length lc, .slice xa x.ts.length xc] 31)).alloc (.cells #[.string y.n.t, .int .i64 y.n.l, .int .i64 y.n.c, .slice da' y.ds.length dc', .slice qa' y.qs.length qc', .slice fa' y.fs.length fc', .slice ta' y.st.length tc', .string y.s.t, .int .i64 y.s.l, .int .i64 y.s.c, .slice la' y.al.length lc', .slice xa' y.ts.length xc'] 31)) w1)) => sameTr_calls x y [.string x.n.t, .int .i64 x.n.l, .int .i64 x.n.c, .slice da x.ds.length dc, .slice qa x.qs.length qc, .slice fa x.fs.length fc, .slice ta x.st.length tc, .string x.s.t, .int .i64 x.s.l, .int .i64 x.s.c, .slice la x.al.length lc, .slice xa x.ts.length xc] [.string y.n.t, .int .i64 y.n.l, .int .i64 y.n.c, .slice da' y.ds.length dc', .slice qa' y.qs.length qc', .slice fa' y.fs.length fc', .slice ta' y.st.length tc', .string y.s.t, .int .i64 y.s.l, .int .i64 y.s.c, .slice la' y.al.length lc', .slice xa' y.ts.length xc'] w1 (hx0.below (HBK.out _ h)) (hy0.below (HBK.out _ h)))
  have HSx := Lib.hid (fun w1 (h : Hid (Below (w.heap.size + 2) ((w.alloc (.cells #[.string x.n.t, .int .i64 x.n.l, .int .i64 x.n.c, .slice da x.ds.length dc, .slice qa x.qs.length qc, .slice fa x.fs.length fc, .slice ta x.st.length tc, .string x.s.t, .int .i64 x.s.l, .int .i64 x.s.c, .slice la x.al.length lc, .slice xa x.ts.length xc] 31)).alloc (.cells #[.string y.n.t, .int .i64 y.n.l, .int .i64 y.n.c, .slice da' y.ds.length dc', .slice qa' y.qs.length qc', .slice fa' y.fs.length fc', .slice ta' y.st.length tc', .string y.s.t, .int .i64 y.s.l, .int .i64 y.s.c, .slice la' y.al.length lc', .slice xa' y.ts.length xc'] 31)) w1)) => sameTr_calls x x [.string x.n.t, .int .i64 x.n.l, .int .i64 x.n.c, .slice da x.ds.length dc, .slice qa x.qs.length qc, .slice fa x.fs.length fc, .slice ta x.st.length tc, .string x.s.t, .int .i64 x.s.l, .int .i64 x.s.c, .slice la x.al.length lc, .slice xa x.ts.length xc] [.string x.n.t, .int .i64 x.n.l, .int .i64 x.n.c, .slice da x.ds.length dc, .slice qa x.qs.length qc, .slice fa x.fs.length fc, .slice ta x.st.length tc, .string x.s.t, .int .i64 x.s.l, .int .i64 x.s.c, .slice la x.al.length lc, .slice xa x.ts.length xc] w1 (hx0.below (HBK.out _ h)) (hx0.below (HBK.out _ h)))
  have HSr := Lib.hid (fun w1 (h : Hid (Below (w.heap.size + 2) ((w.alloc (.cells #[.string x.n.t, .int .i64 x.n.l, .int .i64 x.n.c, .slice da x.ds.length dc, .slice qa x.qs.length qc, .slice fa x.fs.length fc, .slice ta x.st.length tc, .string x.s.t, .int .i64 x.s.l, .int .i64 x.s.c, .slice la x.al.length lc, .slice xa x.ts.length xc] 31)).alloc (.cells #[.string y.n.t, .int .i64 y.n.l, .int .i64 y.n.c, .slice da' y.ds.length dc', .slice qa' y.qs.length qc', .slice fa' y.fs.length fc', .slice ta' y.st.length tc', .string y.s.t, .int .i64 y.s.l, .int .i64 y.s.c, .slice la' y.al.length lc', .slice xa' y.ts.length xc'] 31)) w1)) => refSame_calls x y [.string x.n.t, .int .i64 x.n.l, .int .i64 x.n.c, .slice da x.ds.length dc, .slice qa x.qs.length qc, .slice fa x.fs.length fc, .slice ta x.st.length tc, .string x.s.t, .int .i64 x.s.l, .int .i64 x.s.c, .slice la x.al.length lc, .slice xa x.ts.length xc] [.string y.n.t, .int .i64 y.n.l, .int .i64 y.n.c, .slice da' y.ds.length dc', .slice qa' y.qs.length qc', .slice fa' y.fs.length fc', .slice ta' y.st.length tc', .string y.s.t, .int .i64 y.s.l, .int .i64 y.s.c, .slice la' y.al.length lc', .slice xa' y.ts.length xc'] w1 (hx0.below (HBK.out _ h)) (hy0.below (HBK.out _ h)))
  have HAw := Lib.hid (fun w1 (h : Hid (Below (w.heap.size + 2) ((w.alloc (.cells #[.string x.n.t, .int .i64 x.n.l, .int .i64 x.n.c, .slice da x.ds.length dc, .slice qa x.qs.length qc, .slice fa x.fs.length fc, .slice ta x.st.length tc, .string x.s.t, .int .i64 x.s.l, .int .i64 x.s.c, .slice la x.al.length lc, .slice xa x.ts.length xc] 31)).alloc (.cells #[.string y.n.t, .int .i64 y.n.l, .int .i64 y.n.c, .slice da' y.ds.length dc', .slice qa' y.qs.length qc', .slice fa' y.fs.length fc', .slice ta' y.st.length tc', .string y.s.t, .int .i64 y.s.l, .int .i64 y.s.c, .slice la' y.al.length lc', .slice xa' y.ts.length xc'] 31)) w1)) => awake_calls w1 (hw.below (HBK.out _ h)))
  have HT : Hid (∀ w1, Hid (Below (w.heap.size + 2) ((w.alloc (.cells #[.string x.n.t, .int .i64 x.n.l, .int .i64 x.n.c, .slice da x.ds.length dc, .slice qa x.qs.length qc, .slice fa x.fs.length fc, .slice ta x.st.length tc, .string x.s.t, .int .i64 x.s.l, .int .i64 x.s.c, .slice la x.al.length lc, .slice xa x.ts.length xc] 31)).alloc (.cells #[.string y.n.t, .int .i64 y.n.l, .int .i64 y.n.c, .slice da' y.ds.length dc', .slice qa' y.qs.length qc', .slice fa' y.fs.length fc', .slice ta' y.st.length tc', .string y.s.t, .int .i64 y.s.l, .int .i64 y.s.c, .slice la' y.al.length lc', .slice xa' y.ts.length xc'] 31)) w1) → (fun W9 => W9.cell? ⟨w.heap.size, 0, none⟩ = some (.string x.n.t) ∧ W9.cell? ⟨w.heap.size, 1, none⟩ = some (.int .i64 x.n.l) ∧ W9.cell? ⟨w.heap.size, 2, none⟩ = some (.int .i64 x.n.c) ∧ W9.cell? ⟨w.heap.size, 3, none⟩ = some (.slice da x.ds.length dc) ∧ W9.cell? ⟨w.heap.size, 4, none⟩ = some (.slice qa x.qs.length qc) ∧ W9.cell? ⟨w.heap.size, 5, none⟩ = some (.slice fa x.fs.length fc) ∧ W9.cell? ⟨w.heap.size, 6, none⟩ = some (.slice ta x.st.length tc) ∧ W9.cell? ⟨w.heap.size, 7, none⟩ = some (.string x.s.t) ∧ W9.cell? ⟨w.heap.size, 8, none⟩ = some (.int .i64 x.s.l) ∧ W9.cell? ⟨w.heap.size, 9, none⟩ = some (.int .i64 x.s.c) ∧ W9.cell? ⟨w.heap.size, 10, none⟩ = some (.slice la x.al.length lc) ∧ W9.cell? ⟨w.heap.size, 11, none⟩ = some (.slice xa x.ts.length xc) ∧ W9.cell? ⟨w.heap.size + 1, 0, none⟩ = some (.string y.n.t) ∧ W9.cell? ⟨w.heap.size + 1, 1, none⟩ = some (.int .i64 y.n.l) ∧ W9.cell? ⟨w.heap.size + 1, 2, none⟩ = some (.int .i64 y.n.c) ∧ W9.cell? ⟨w.heap.size + 1, 3, none⟩ = some (.slice da' y.ds.length dc') ∧ W9.cell? ⟨w.heap.size + 1, 4, none⟩ = some (.slice qa' y.qs.length qc') ∧ W9.cell? ⟨w.heap.size + 1, 5, none⟩ = some (.slice fa' y.fs.length fc') ∧ W9.cell? ⟨w.heap.size + 1, 6, none⟩ = some (.slice ta' y.st.length tc') ∧ W9.cell? ⟨w.heap.size + 1, 7, none⟩ = some (.string y.s.t) ∧ W9.cell? ⟨w.heap.size + 1, 8, none⟩ = some (.int .i64 y.s.l) ∧ W9.cell? ⟨w.heap.size + 1, 9, none⟩ = some (.int .i64 y.s.c) ∧ W9.cell? ⟨w.heap.size + 1, 10, none⟩ = some (.slice la' y.al.length lc') ∧ W9.cell? ⟨w.heap.size + 1, 11, none⟩ = some (.slice xa' y.ts.length xc')) w1) := Lib.hid (fun w1 h => by
    obtain ⟨u, v⟩ := box2 h.out
    exact ⟨u 0 _ rfl, u 1 _ rfl, u 2 _ rfl, u 3 _ rfl, u 4 _ rfl, u 5 _ rfl, u 6 _ rfl, u 7 _ rfl, u 8 _ rfl, u 9 _ rfl, u 10 _ rfl, u 11 _ rfl, v 0 _ rfl, v 1 _ rfl, v 2 _ rfl, v 3 _ rfl, v 4 _ rfl, v 5 _ rfl, v 6 _ rfl, v 7 _ rfl, v 8 _ rfl, v 9 _ rfl, v 10 _ rfl, v 11 _ rfl⟩)
  rw [decide_eq_true (rfl : x = x)] at HSx
  generalize decide (x = y) = r at HSs HSr
  have t1 : (r == r) = true := by simp
  clear hx0 hy0 hw
  cases e1 : fewB x
  · rw [e1] at HFx
    clear e1
    go_enter Tryd.func3, Tryd.ntmps3
    go_wp2_with fail
    refine (HFx.out _ HK0).mono ?_
    rintro e w1 ⟨rfl, k1⟩
    have HK1 := Lib.hid (below2_step HK0.out (by simp) k1)
    clear k1
    rw [fewI, if_neg (by decide)]
    go_wp2_with fail
    refine (HAw.out _ HK1).mono ?_
    rintro e w2 ⟨rfl, k2⟩
    go_wp2_with fail
    go_ret
    exact ⟨rfl, HBK.out _ (Lib.hid (below2_step HK1.out (by simp) k2))⟩
  rw [e1] at HFx
  clear e1
  cases e2 : fewB y
  · rw [e2] at HFy
    clear e2
    go_enter Tryd.func3, Tryd.ntmps3
    go_wp2_with fail
    refine (HFx.out _ HK0).mono ?_
    rintro e w1 ⟨rfl, k1⟩
    have HK1 := Lib.hid (below2_step HK0.out (by simp) k1)
    clear k1
    rw [fewI, if_pos rfl]
    obtain ⟨u, v⟩ := box2 HK1.out
    have d0 := v 0 _ rfl
    have d1 := v 1 _ rfl
    have d2 := v 2 _ rfl
    have d3 := v 3 _ rfl
    have d4 := v 4 _ rfl
    have d5 := v 5 _ rfl
    have d6 := v 6 _ rfl
    have d7 := v 7 _ rfl
    have d8 := v 8 _ rfl
    have d9 := v 9 _ rfl
    have d10 := v 10 _ rfl
    have d11 := v 11 _ rfl
    clear u v
    go_wp2_with fail
    refine (HFy.out _ HK1).mono ?_
    rintro e w2 ⟨rfl, k2⟩
    have HK2 := Lib.hid (below2_step HK1.out (by simp) k2)
    clear k2
    rw [fewI, if_neg (by decide)]
    go_wp2_with fail
    refine (HAw.out _ HK2).mono ?_
    rintro e w3 ⟨rfl, k3⟩
    go_wp2_with fail
    go_ret
    exact ⟨rfl, HBK.out _ (Lib.hid (below2_step HK2.out (by simp) k3))⟩
  · rw [e2] at HFy
    clear e2
    go_enter Tryd.func3, Tryd.ntmps3
    go_wp2_with fail
    refine (HFx.out _ HK0).mono ?_
    rintro e w1 ⟨rfl, k1⟩
    have HK1 := Lib.hid (below2_step HK0.out (by simp) k1)
    clear k1
    rw [fewI, if_pos rfl]
    obtain ⟨u, v⟩ := box2 HK1.out
    have d0 := v 0 _ rfl
    have d1 := v 1 _ rfl
    have d2 := v 2 _ rfl
    have d3 := v 3 _ rfl
    have d4 := v 4 _ rfl
    have d5 := v 5 _ rfl
    have d6 := v 6 _ rfl
    have d7 := v 7 _ rfl
    have d8 := v 8 _ rfl
    have d9 := v 9 _ rfl
    have d10 := v 10 _ rfl
    have d11 := v 11 _ rfl
    clear u v
    go_wp2_with fail
    refine (HFy.out _ HK1).mono ?_
    rintro e w2 ⟨rfl, k2⟩
    have HK2 := Lib.hid (below2_step HK1.out (by simp) k2)
    clear k2 d0 d1 d2 d3 d4 d5 d6 d7 d8 d9 d10 d11
    rw [fewI, if_pos rfl]
    obtain ⟨u, v⟩ := box2 HK2.out
    have c0 := u 0 _ rfl
    have c1 := u 1 _ rfl
    have c2 := u 2 _ rfl
    have c3 := u 3 _ rfl
    have c4 := u 4 _ rfl
    have c5 := u 5 _ rfl
    have c6 := u 6 _ rfl
    have c7 := u 7 _ rfl
    have c8 := u 8 _ rfl
    have c9 := u 9 _ rfl
    have c10 := u 10 _ rfl
    have c11 := u 11 _ rfl
    have d0 := v 0 _ rfl
    have d1 := v 1 _ rfl
    have d2 := v 2 _ rfl
    have d3 := v 3 _ rfl
    have d4 := v 4 _ rfl
    have d5 := v 5 _ rfl
    have d6 := v 6 _ rfl
    have d7 := v 7 _ rfl
    have d8 := v 8 _ rfl
    have d9 := v 9 _ rfl
    have d10 := v 10 _ rfl
    have d11 := v 11 _ rfl
    clear u v
    go_wp2_with fail
    go_region_held3 (fun W9 => W9.cell? ⟨w.heap.size, 0, none⟩ = some (.string x.n.t) ∧ W9.cell? ⟨w.heap.size, 1, none⟩ = some (.int .i64 x.n.l) ∧ W9.cell? ⟨w.heap.size, 2, none⟩ = some (.int .i64 x.n.c) ∧ W9.cell? ⟨w.heap.size, 3, none⟩ = some (.slice da x.ds.length dc) ∧ W9.cell? ⟨w.heap.size, 4, none⟩ = some (.slice qa x.qs.length qc) ∧ W9.cell? ⟨w.heap.size, 5, none⟩ = some (.slice fa x.fs.length fc) ∧ W9.cell? ⟨w.heap.size, 6, none⟩ = some (.slice ta x.st.length tc) ∧ W9.cell? ⟨w.heap.size, 7, none⟩ = some (.string x.s.t) ∧ W9.cell? ⟨w.heap.size, 8, none⟩ = some (.int .i64 x.s.l) ∧ W9.cell? ⟨w.heap.size, 9, none⟩ = some (.int .i64 x.s.c) ∧ W9.cell? ⟨w.heap.size, 10, none⟩ = some (.slice la x.al.length lc) ∧ W9.cell? ⟨w.heap.size, 11, none⟩ = some (.slice xa x.ts.length xc) ∧ W9.cell? ⟨w.heap.size + 1, 0, none⟩ = some (.string y.n.t) ∧ W9.cell? ⟨w.heap.size + 1, 1, none⟩ = some (.int .i64 y.n.l) ∧ W9.cell? ⟨w.heap.size + 1, 2, none⟩ = some (.int .i64 y.n.c) ∧ W9.cell? ⟨w.heap.size + 1, 3, none⟩ = some (.slice da' y.ds.length dc') ∧ W9.cell? ⟨w.heap.size + 1, 4, none⟩ = some (.slice qa' y.qs.length qc') ∧ W9.cell? ⟨w.heap.size + 1, 5, none⟩ = some (.slice fa' y.fs.length fc') ∧ W9.cell? ⟨w.heap.size + 1, 6, none⟩ = some (.slice ta' y.st.length tc') ∧ W9.cell? ⟨w.heap.size + 1, 7, none⟩ = some (.string y.s.t) ∧ W9.cell? ⟨w.heap.size + 1, 8, none⟩ = some (.int .i64 y.s.l) ∧ W9.cell? ⟨w.heap.size + 1, 9, none⟩ = some (.int .i64 y.s.c) ∧ W9.cell? ⟨w.heap.size + 1, 10, none⟩ = some (.slice la' y.al.length lc') ∧ W9.cell? ⟨w.heap.size + 1, 11, none⟩ = some (.slice xa' y.ts.length xc')) (first | exact HT.out w2 HK2 | exact HT.out w3 HK3 | exact HT.out w4 HK4 | exact HT.out w5 HK5 | exact HT.out w6 HK6) (first
      | (go_at_call 5; refine (HAw.out _ (Lib.hid HK5.out.drew)).mono ?_; rintro e w6 ⟨rfl, k6⟩; have HK6 := Lib.hid (below2_step HK5.out.drew (by simp) k6); clear k6)
      | (go_at_call 5; refine (HAw.out _ HK5).mono ?_; rintro e w6 ⟨rfl, k6⟩; have HK6 := Lib.hid (below2_step HK5.out (by simp) k6); clear k6)
      | (go_at_call 6; refine (HSx.out _ HK4).mono ?_; rintro e w5 ⟨rfl, k5⟩; have HK5 := Lib.hid (below2_step HK4.out (by simp) k5); clear k5)
      | (go_at_call 7; refine (HSr.out _ HK3).mono ?_; rintro e w4 ⟨rfl, k4⟩; have HK4 := Lib.hid (below2_step HK3.out (by simp) k4); clear k4)
      | (go_at_call 6; refine (HSs.out _ (Lib.hid HK2.out.drew)).mono ?_; rintro e w3 ⟨rfl, k3⟩; have HK3 := Lib.hid (below2_step HK2.out.drew (by simp) k3); clear k3)
      | (go_at_call 6; refine (HSs.out _ HK2).mono ?_; rintro e w3 ⟨rfl, k3⟩; have HK3 := Lib.hid (below2_step HK2.out (by simp) k3); clear k3))
    go_wp2_with fail
    go_ret
    exact ⟨rfl, HBK.out _ HK6⟩
end Go.Proofs.YtojabkhfkbfeaaaDoor.treeSame
