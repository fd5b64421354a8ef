/- Which trees may be, and that without their places they may be, too: the law TreeRight's walk. -/
import Derived.Test.YtojabkhfkbfeaaaGreatDoorLowTrSame
import Derived.Test.YtojabkhfkbfeaaaGreatDoorTreeFewF
import Derived.Test.YtojabkhfkbfeaaaGreatDoorLowTrRight
import Derived.Test.YtojabkhfkbfeaaaGreatDoorTreeRefRight
import Derived.Test.YtojabkhfkbfeaaaGreatDoorLowTrPl
import Derived.Test.YtojabkhfkbfeaaaGreatDoorLowTrLaid
namespace Go.Proofs.YtojabkhfkbfeaaaGreatDoor.treeRight
open Go.RowKit
set_option linter.unusedVariables false

theorem few_sm {x : Tr} (h : fewB x = true) : SmT x := by
  rw [few_eq] at h
  simp only [Bool.and_eq_true, decide_eq_true_eq, List.all_eq_true] at h
  obtain ⟨h0, h1, h2, h3, h4, h5, hd, hf, hs, ht⟩ := h
  refine ⟨by omega, by omega, by omega, by omega, by omega, by omega, fun d k => ?_, fun s k => ?_, fun t k => ?_⟩
  · have := hd d k
    unfold fewD at this
    rw [decide_eq_true_eq] at this
    omega
  · have := hs s k
    rw [short_eq, Bool.and_eq_true, decide_eq_true_eq] at this
    omega
  · have := ht t k
    unfold fewT at this
    rw [Bool.and_eq_true, Bool.and_eq_true, Bool.and_eq_true, short_eq, Bool.and_eq_true] at this
    simp only [decide_eq_true_eq] at this
    exact ⟨by omega, by omega, by omega⟩
theorem sm_pl {x : Tr} (h : SmT x) : SmT (plT x) := by
  obtain ⟨h0, h1, h2, h3, h4, h5, hd, hs, ht⟩ := h
  refine ⟨?_, ?_, ?_, ?_, ?_, ?_, fun d k => ?_, fun s k => ?_, fun t k => ?_⟩
  · show (x.ds.map _).length ≤ _
    rwa [List.length_map]
  · show (x.qs.map _).length ≤ _
    rwa [List.length_map]
  · show (x.fs.map _).length ≤ _
    rwa [List.length_map]
  · show (x.st.map _).length ≤ _
    rwa [List.length_map]
  · show (x.al.map _).length ≤ _
    rwa [List.length_map]
  · show (x.ts.map _).length ≤ _
    rwa [List.length_map]
  · obtain ⟨e, he, rfl⟩ := List.mem_map.1 (show d ∈ x.ds.map _ from k)
    exact hd e he
  · obtain ⟨e, he, rfl⟩ := List.mem_map.1 (show s ∈ x.al.map _ from k)
    show (e.ar.map _).length ≤ _
    rw [List.length_map]
    exact hs e he
  · obtain ⟨e, he, rfl⟩ := List.mem_map.1 (show t ∈ x.ts.map _ from k)
    obtain ⟨a, b, c⟩ := ht e he
    refine ⟨?_, ?_, ?_⟩
    · show (e.on.ar.map _).length ≤ _
      rwa [List.length_map]
    · show (e.ns.map _).length ≤ _
      rwa [List.length_map]
    · show (e.ss.map _).length ≤ _
      rwa [List.length_map]

set_option maxHeartbeats 20000000 in
set_option maxRecDepth 100000 in
theorem walk {Y : TyT} {O : Prop} (cs : List Value) (x : Tr) (w : World) (hx : TrIn Y O w cs x) (hw : Wds w) :
    Calls Tryz.prog 3 #[.agg cs.toArray] w fun e w' => e = .returned (.bool true) ∧ Below w.heap.size w w' := by
  have hx0 := hx
  obtain ⟨⟨da, dc, qa, qc, fa, fc, ta, tc, la, lc, xa, xc, rfl, _⟩, _⟩ := hx
  have HB : Hid (Below w.heap.size w (w.alloc (.cells #[.string x.n.t, .int .i64 x.n.l, .int .i64 x.n.c, .slice da x.ds.length dc, .slice qa x.qs.length qc, .slice fa x.fs.length fc, .slice ta x.st.length tc, .string x.s.t, .int .i64 x.s.l, .int .i64 x.s.c, .slice la x.al.length lc, .slice xa x.ts.length xc] 31))) := Lib.hid ((Below.refl w.heap.size w).alloc (Nat.le_refl _) _)
  have HK0 : Hid (Below (w.heap.size + 1) (w.alloc (.cells #[.string x.n.t, .int .i64 x.n.l, .int .i64 x.n.c, .slice da x.ds.length dc, .slice qa x.qs.length qc, .slice fa x.fs.length fc, .slice ta x.st.length tc, .string x.s.t, .int .i64 x.s.l, .int .i64 x.s.c, .slice la x.al.length lc, .slice xa x.ts.length xc] 31)) (w.alloc (.cells #[.string x.n.t, .int .i64 x.n.l, .int .i64 x.n.c, .slice da x.ds.length dc, .slice qa x.qs.length qc, .slice fa x.fs.length fc, .slice ta x.st.length tc, .string x.s.t, .int .i64 x.s.l, .int .i64 x.s.c, .slice la x.al.length lc, .slice xa x.ts.length xc] 31))) := Lib.hid (Below.refl _ _)
  have HBK : Hid (∀ w1, Hid (Below (w.heap.size + 1) (w.alloc (.cells #[.string x.n.t, .int .i64 x.n.l, .int .i64 x.n.c, .slice da x.ds.length dc, .slice qa x.qs.length qc, .slice fa x.fs.length fc, .slice ta x.st.length tc, .string x.s.t, .int .i64 x.s.l, .int .i64 x.s.c, .slice la x.al.length lc, .slice xa x.ts.length xc] 31)) w1) → Below w.heap.size w w1) := Lib.hid (fun _ h => HB.out.trans (h.out.mono (Nat.le_succ _)))
  have HX := Lib.hid (fun w1 (h : Below w.heap.size w w1) => hx0.below h)
  have HW := Lib.hid (fun w1 (h : Below w.heap.size w w1) => hw.below h)
  have HF := Lib.hid (fun w1 (h : Below w.heap.size w w1) => few_calls x _ w1 (hx0.below h))
  have HAw := Lib.hid (fun w1 (h : Below w.heap.size w w1) => awake_calls w1 (hw.below h))
  clear hx0 hw
  cases e1 : fewB x
  · rw [e1] at HF
    clear e1
    go_enter Tryz.func3, Tryz.ntmps3
    go_wp2_with fail
    refine (HF.out _ HB.out).mono ?_
    rintro e w1 ⟨rfl, k1⟩
    have HK1 := Lib.hid (below1_step HK0.out (by simp) k1)
    clear k1
    rw [fewI, if_neg (by decide)]
    go_wp2_with fail
    refine (HAw.out _ (HBK.out _ HK1)).mono ?_
    rintro e w2 ⟨rfl, k2⟩
    go_wp2_with fail
    go_ret
    exact ⟨rfl, HBK.out _ (Lib.hid (below1_step HK1.out (by simp) k2))⟩
  have hs := few_sm e1
  have hs2 := sm_pl hs
  have hz1 := rightT_pl x
  have hz2 := plT_pl x
  obtain ⟨z, hz⟩ : ∃ z, z = plT x := ⟨_, rfl⟩
  rw [← hz] at hs2 hz1 hz2
  have HRR := Lib.hid (fun w1 (h : Below w.heap.size w w1) => refRight_calls x _ w1 (HX.out w1 h) hs)
  have HPl := Lib.hid (fun w1 (h : Below w.heap.size w w1) => plain_calls x _ w1 (HX.out w1 h) hs)
  have HRi := Lib.hid (fun w1 (h : Below w.heap.size w w1) => right_calls x _ w1 (HX.out w1 h) (HW.out w1 h) (fun t k => (hs.t t k).2.1))
  have HRP := Lib.hid (fun w1 (h : Below w.heap.size w w1) => refPlain_calls x _ w1 (HX.out w1 h) hs)
  rw [← hz] at HPl HRP
  have HRz := Lib.hid (fun (c : List Value) w1 (h : Below w.heap.size w w1) (ht : TrIn tyT True w1 c z) => right_calls z c w1 ht (HW.out w1 h) (fun t k => (hs2.t t k).2.1))
  have HPz := Lib.hid (fun (c : List Value) w1 (ht : TrIn tyT True w1 c z) => plain_calls z c w1 ht hs2)
  have HSr := Lib.hid (fun (c d : List Value) w1 (ht : TrIn tyT True w1 c z) (hd : TrIn tyT True w1 d z) => refSame_calls z z c d w1 ht hd)
  have HSm := Lib.hid (fun (c d : List Value) w1 (ht : TrIn tyT True w1 c z) (hd : TrIn tyT True w1 d z) => sameTr_calls z z c d w1 ht hd)
  rw [hz1] at HRz
  rw [hz2] at HPz
  rw [decide_eq_true (rfl : z = z)] at HSr HSm
  generalize rightT x = r at HRR HRi HRz
  have t1 : (r == r) = true := by simp
  rw [e1] at HF
  clear e1 hs hs2 hz hz1 hz2 HX HW
  go_enter Tryz.func3, Tryz.ntmps3
  go_wp2_with fail
  refine (HF.out _ HB.out).mono ?_
  rintro e w1 ⟨rfl, k1⟩
  have HK1 := Lib.hid (below1_step HK0.out (by simp) k1)
  clear k1
  rw [fewI, if_pos rfl]
  have c0 := box1 HK1.out 0 _ rfl
  have c1 := box1 HK1.out 1 _ rfl
  have c2 := box1 HK1.out 2 _ rfl
  have c3 := box1 HK1.out 3 _ rfl
  have c4 := box1 HK1.out 4 _ rfl
  have c5 := box1 HK1.out 5 _ rfl
  have c6 := box1 HK1.out 6 _ rfl
  have c7 := box1 HK1.out 7 _ rfl
  have c8 := box1 HK1.out 8 _ rfl
  have c9 := box1 HK1.out 9 _ rfl
  have c10 := box1 HK1.out 10 _ rfl
  have c11 := box1 HK1.out 11 _ rfl
  go_wp2_with fail
  refine (HRR.out _ (HBK.out _ HK1)).mono ?_
  rintro e w2 ⟨rfl, k2⟩
  have HK2 := Lib.hid (below1_step HK1.out (by simp) k2)
  clear k2 c0 c1 c2 c3 c4 c5 c6 c7 c8 c9 c10 c11
  have c0 := box1 HK2.out 0 _ rfl
  have c1 := box1 HK2.out 1 _ rfl
  have c2 := box1 HK2.out 2 _ rfl
  have c3 := box1 HK2.out 3 _ rfl
  have c4 := box1 HK2.out 4 _ rfl
  have c5 := box1 HK2.out 5 _ rfl
  have c6 := box1 HK2.out 6 _ rfl
  have c7 := box1 HK2.out 7 _ rfl
  have c8 := box1 HK2.out 8 _ rfl
  have c9 := box1 HK2.out 9 _ rfl
  have c10 := box1 HK2.out 10 _ rfl
  have c11 := box1 HK2.out 11 _ rfl
  go_wp2_with fail
  refine (HPl.out _ (HBK.out _ HK2)).mono ?_
  rintro e w3 ⟨_, rfl, htr, k3⟩
  have HTR := Lib.hid htr
  obtain ⟨⟨da', dc', qa', qc', fa', fc', ta', tc', la', lc', xa', xc', rfl, _⟩, _⟩ := htr
  have HK3 := Lib.hid (below1_step HK2.out (by simp) k3)
  clear k3 c0 c1 c2 c3 c4 c5 c6 c7 c8 c9 c10 c11
  have hs3 : w.heap.size < w3.heap.size := by have := HK3.out.size; simp at this; omega
  have HB4 : Hid (Below w3.heap.size w3 (w3.alloc (.cells #[.string z.n.t, .int .i64 z.n.l, .int .i64 z.n.c, .slice da' z.ds.length dc', .slice qa' z.qs.length qc', .slice fa' z.fs.length fc', .slice ta' z.st.length tc', .string z.s.t, .int .i64 z.s.l, .int .i64 z.s.c, .slice la' z.al.length lc', .slice xa' z.ts.length xc'] 31))) := Lib.hid ((Below.refl w3.heap.size w3).alloc (Nat.le_refl _) _)
  have HK4 : Hid (Below (w3.heap.size + 1) (w3.alloc (.cells #[.string z.n.t, .int .i64 z.n.l, .int .i64 z.n.c, .slice da' z.ds.length dc', .slice qa' z.qs.length qc', .slice fa' z.fs.length fc', .slice ta' z.st.length tc', .string z.s.t, .int .i64 z.s.l, .int .i64 z.s.c, .slice la' z.al.length lc', .slice xa' z.ts.length xc'] 31)) (w3.alloc (.cells #[.string z.n.t, .int .i64 z.n.l, .int .i64 z.n.c, .slice da' z.ds.length dc', .slice qa' z.qs.length qc', .slice fa' z.fs.length fc', .slice ta' z.st.length tc', .string z.s.t, .int .i64 z.s.l, .int .i64 z.s.c, .slice la' z.al.length lc', .slice xa' z.ts.length xc'] 31)).drew) := Lib.hid ((Below.refl _ _).drew)
  have HT3 : Hid (∀ W, Below (w3.heap.size + 1) (w3.alloc (.cells #[.string z.n.t, .int .i64 z.n.l, .int .i64 z.n.c, .slice da' z.ds.length dc', .slice qa' z.qs.length qc', .slice fa' z.fs.length fc', .slice ta' z.st.length tc', .string z.s.t, .int .i64 z.s.l, .int .i64 z.s.c, .slice la' z.al.length lc', .slice xa' z.ts.length xc'] 31)) W → Below w3.heap.size w3 W) := Lib.hid (fun W h => HB4.out.trans (h.mono (Nat.le_succ _)))
  have HTW : Hid (∀ W, Below (w3.heap.size + 1) (w3.alloc (.cells #[.string z.n.t, .int .i64 z.n.l, .int .i64 z.n.c, .slice da' z.ds.length dc', .slice qa' z.qs.length qc', .slice fa' z.fs.length fc', .slice ta' z.st.length tc', .string z.s.t, .int .i64 z.s.l, .int .i64 z.s.c, .slice la' z.al.length lc', .slice xa' z.ts.length xc'] 31)) W → Below w.heap.size w W) := Lib.hid (fun W h => (HBK.out _ HK3).trans ((HT3.out W h).mono (Nat.le_of_lt hs3)))
  have HTZ : Hid (∀ W, Below (w3.heap.size + 1) (w3.alloc (.cells #[.string z.n.t, .int .i64 z.n.l, .int .i64 z.n.c, .slice da' z.ds.length dc', .slice qa' z.qs.length qc', .slice fa' z.fs.length fc', .slice ta' z.st.length tc', .string z.s.t, .int .i64 z.s.l, .int .i64 z.s.c, .slice la' z.al.length lc', .slice xa' z.ts.length xc'] 31)) W → TrIn tyT True W [.string z.n.t, .int .i64 z.n.l, .int .i64 z.n.c, .slice da' z.ds.length dc', .slice qa' z.qs.length qc', .slice fa' z.fs.length fc', .slice ta' z.st.length tc', .string z.s.t, .int .i64 z.s.l, .int .i64 z.s.c, .slice la' z.al.length lc', .slice xa' z.ts.length xc'] z) := Lib.hid (fun W h => HTR.out.below (HT3.out W h))
  have HSW : Hid (∀ W : World, Below (w3.heap.size + 1) (w3.alloc (.cells #[.string z.n.t, .int .i64 z.n.l, .int .i64 z.n.c, .slice da' z.ds.length dc', .slice qa' z.qs.length qc', .slice fa' z.fs.length fc', .slice ta' z.st.length tc', .string z.s.t, .int .i64 z.s.l, .int .i64 z.s.c, .slice la' z.al.length lc', .slice xa' z.ts.length xc'] 31)) W → (W.cell? ⟨w.heap.size, 0, none⟩ = some (.string x.n.t) ∧ W.cell? ⟨w.heap.size, 1, none⟩ = some (.int .i64 x.n.l) ∧ W.cell? ⟨w.heap.size, 2, none⟩ = some (.int .i64 x.n.c) ∧ W.cell? ⟨w.heap.size, 3, none⟩ = some (.slice da x.ds.length dc) ∧ W.cell? ⟨w.heap.size, 4, none⟩ = some (.slice qa x.qs.length qc) ∧ W.cell? ⟨w.heap.size, 5, none⟩ = some (.slice fa x.fs.length fc) ∧ W.cell? ⟨w.heap.size, 6, none⟩ = some (.slice ta x.st.length tc) ∧ W.cell? ⟨w.heap.size, 7, none⟩ = some (.string x.s.t) ∧ W.cell? ⟨w.heap.size, 8, none⟩ = some (.int .i64 x.s.l) ∧ W.cell? ⟨w.heap.size, 9, none⟩ = some (.int .i64 x.s.c) ∧ W.cell? ⟨w.heap.size, 10, none⟩ = some (.slice la x.al.length lc) ∧ W.cell? ⟨w.heap.size, 11, none⟩ = some (.slice xa x.ts.length xc) ∧ W.cell? ⟨w3.heap.size, 0, none⟩ = some (.string z.n.t) ∧ W.cell? ⟨w3.heap.size, 1, none⟩ = some (.int .i64 z.n.l) ∧ W.cell? ⟨w3.heap.size, 2, none⟩ = some (.int .i64 z.n.c) ∧ W.cell? ⟨w3.heap.size, 3, none⟩ = some (.slice da' z.ds.length dc') ∧ W.cell? ⟨w3.heap.size, 4, none⟩ = some (.slice qa' z.qs.length qc') ∧ W.cell? ⟨w3.heap.size, 5, none⟩ = some (.slice fa' z.fs.length fc') ∧ W.cell? ⟨w3.heap.size, 6, none⟩ = some (.slice ta' z.st.length tc') ∧ W.cell? ⟨w3.heap.size, 7, none⟩ = some (.string z.s.t) ∧ W.cell? ⟨w3.heap.size, 8, none⟩ = some (.int .i64 z.s.l) ∧ W.cell? ⟨w3.heap.size, 9, none⟩ = some (.int .i64 z.s.c) ∧ W.cell? ⟨w3.heap.size, 10, none⟩ = some (.slice la' z.al.length lc') ∧ W.cell? ⟨w3.heap.size, 11, none⟩ = some (.slice xa' z.ts.length xc'))) := Lib.hid (fun W h => ⟨((HT3.out W h).cell (p := ⟨w.heap.size, 0, none⟩) hs3).trans (box1 HK3.out 0 _ rfl), ((HT3.out W h).cell (p := ⟨w.heap.size, 1, none⟩) hs3).trans (box1 HK3.out 1 _ rfl), ((HT3.out W h).cell (p := ⟨w.heap.size, 2, none⟩) hs3).trans (box1 HK3.out 2 _ rfl), ((HT3.out W h).cell (p := ⟨w.heap.size, 3, none⟩) hs3).trans (box1 HK3.out 3 _ rfl), ((HT3.out W h).cell (p := ⟨w.heap.size, 4, none⟩) hs3).trans (box1 HK3.out 4 _ rfl), ((HT3.out W h).cell (p := ⟨w.heap.size, 5, none⟩) hs3).trans (box1 HK3.out 5 _ rfl), ((HT3.out W h).cell (p := ⟨w.heap.size, 6, none⟩) hs3).trans (box1 HK3.out 6 _ rfl), ((HT3.out W h).cell (p := ⟨w.heap.size, 7, none⟩) hs3).trans (box1 HK3.out 7 _ rfl), ((HT3.out W h).cell (p := ⟨w.heap.size, 8, none⟩) hs3).trans (box1 HK3.out 8 _ rfl), ((HT3.out W h).cell (p := ⟨w.heap.size, 9, none⟩) hs3).trans (box1 HK3.out 9 _ rfl), ((HT3.out W h).cell (p := ⟨w.heap.size, 10, none⟩) hs3).trans (box1 HK3.out 10 _ rfl), ((HT3.out W h).cell (p := ⟨w.heap.size, 11, none⟩) hs3).trans (box1 HK3.out 11 _ rfl), box1 h 0 _ rfl, box1 h 1 _ rfl, box1 h 2 _ rfl, box1 h 3 _ rfl, box1 h 4 _ rfl, box1 h 5 _ rfl, box1 h 6 _ rfl, box1 h 7 _ rfl, box1 h 8 _ rfl, box1 h 9 _ rfl, box1 h 10 _ rfl, box1 h 11 _ rfl⟩)
  go_wp2_with fail
  refine wp_region_held_drew (S := (fun W => W.cell? ⟨w.heap.size, 0, none⟩ = some (.string x.n.t) ∧ W.cell? ⟨w.heap.size, 1, none⟩ = some (.int .i64 x.n.l) ∧ W.cell? ⟨w.heap.size, 2, none⟩ = some (.int .i64 x.n.c) ∧ W.cell? ⟨w.heap.size, 3, none⟩ = some (.slice da x.ds.length dc) ∧ W.cell? ⟨w.heap.size, 4, none⟩ = some (.slice qa x.qs.length qc) ∧ W.cell? ⟨w.heap.size, 5, none⟩ = some (.slice fa x.fs.length fc) ∧ W.cell? ⟨w.heap.size, 6, none⟩ = some (.slice ta x.st.length tc) ∧ W.cell? ⟨w.heap.size, 7, none⟩ = some (.string x.s.t) ∧ W.cell? ⟨w.heap.size, 8, none⟩ = some (.int .i64 x.s.l) ∧ W.cell? ⟨w.heap.size, 9, none⟩ = some (.int .i64 x.s.c) ∧ W.cell? ⟨w.heap.size, 10, none⟩ = some (.slice la x.al.length lc) ∧ W.cell? ⟨w.heap.size, 11, none⟩ = some (.slice xa x.ts.length xc) ∧ W.cell? ⟨w3.heap.size, 0, none⟩ = some (.string z.n.t) ∧ W.cell? ⟨w3.heap.size, 1, none⟩ = some (.int .i64 z.n.l) ∧ W.cell? ⟨w3.heap.size, 2, none⟩ = some (.int .i64 z.n.c) ∧ W.cell? ⟨w3.heap.size, 3, none⟩ = some (.slice da' z.ds.length dc') ∧ W.cell? ⟨w3.heap.size, 4, none⟩ = some (.slice qa' z.qs.length qc') ∧ W.cell? ⟨w3.heap.size, 5, none⟩ = some (.slice fa' z.fs.length fc') ∧ W.cell? ⟨w3.heap.size, 6, none⟩ = some (.slice ta' z.st.length tc') ∧ W.cell? ⟨w3.heap.size, 7, none⟩ = some (.string z.s.t) ∧ W.cell? ⟨w3.heap.size, 8, none⟩ = some (.int .i64 z.s.l) ∧ W.cell? ⟨w3.heap.size, 9, none⟩ = some (.int .i64 z.s.c) ∧ W.cell? ⟨w3.heap.size, 10, none⟩ = some (.slice la' z.al.length lc') ∧ W.cell? ⟨w3.heap.size, 11, none⟩ = some (.slice xa' z.ts.length xc'))) (by kernel_rfl) (HSW.out _ HK4.out) (fun hH0 => ?_)
  refine wpAnyH_take (i := 0) (v := .agg #[.string x.n.t, .int .i64 x.n.l, .int .i64 x.n.c, .slice da x.ds.length dc, .slice qa x.qs.length qc, .slice fa x.fs.length fc, .slice ta x.st.length tc, .string x.s.t, .int .i64 x.s.l, .int .i64 x.s.c, .slice la x.al.length lc, .slice xa x.ts.length xc]) rfl (by kernel_rfl) (by kernel_rfl) (by kernel_rfl) (fun _ _ _ h => h) (Or.inl ⟨by kernel_rfl, fun wS hSw => by (try dsimp only at hSw); go_simp⟩) hH0 ?_
  refine wpAnyH_take (i := 2) (v := .bool r) rfl (by kernel_rfl) (by kernel_rfl) (by kernel_rfl) (fun _ _ _ h => h) (Or.inl ⟨by kernel_rfl, fun wS hSw => by (try dsimp only at hSw); go_simp⟩) hH0 ?_
  refine wpAnyH_ready (rs := [1]) (by kernel_rfl) (by simp) ?_
  refine AllReadyH.cons rfl (fun K hK => ?_) AllReadyH.nil
  rw [if_pos (by kernel_rfl)]
  go_simp
  refine (HRi.out _ (HTW.out _ HK4.out)).mono ?_
  rintro e v5 ⟨rfl, k⟩
  have HK5 := Lib.hid (below1_step HK4.out (by simp) k)
  clear k
  refine hK.out _ _ (HSW.out _ HK5.out) (fun hH1 => ?_)
  clear hK K
  refine wpAnyH_take (i := 3) (v := .bool true) rfl (by kernel_rfl) (by kernel_rfl) (by kernel_rfl) (fun _ _ _ h => h) (Or.inl ⟨by kernel_rfl, fun wS hSw => by (try dsimp only at hSw); go_simp⟩) hH1 ?_
  refine wpAnyH_take (i := 4) (v := .bool true) rfl (by kernel_rfl) (by kernel_rfl) (by kernel_rfl) (fun _ _ _ h => h) (Or.inl ⟨by kernel_rfl, fun wS hSw => by (try dsimp only at hSw); go_simp⟩) hH1 ?_
  refine wpAnyH_take (i := 5) (v := .agg #[.string z.n.t, .int .i64 z.n.l, .int .i64 z.n.c, .slice da' z.ds.length dc', .slice qa' z.qs.length qc', .slice fa' z.fs.length fc', .slice ta' z.st.length tc', .string z.s.t, .int .i64 z.s.l, .int .i64 z.s.c, .slice la' z.al.length lc', .slice xa' z.ts.length xc']) rfl (by kernel_rfl) (by kernel_rfl) (by kernel_rfl) (fun _ _ _ h => h) (Or.inl ⟨by kernel_rfl, fun wS hSw => by (try dsimp only at hSw); go_simp⟩) hH1 ?_
  refine wpAnyH_take (i := 7) (v := .bool r) rfl (by kernel_rfl) (by kernel_rfl) (by kernel_rfl) (fun _ _ _ h => h) (Or.inl ⟨by kernel_rfl, fun wS hSw => by (try dsimp only at hSw); go_simp⟩) hH1 ?_
  refine wpAnyH_ready (rs := [6]) (by kernel_rfl) (by simp) ?_
  refine AllReadyH.cons rfl (fun K hK => ?_) AllReadyH.nil
  rw [if_pos (by kernel_rfl)]
  go_simp
  refine (HRz.out [.string z.n.t, .int .i64 z.n.l, .int .i64 z.n.c, .slice da' z.ds.length dc', .slice qa' z.qs.length qc', .slice fa' z.fs.length fc', .slice ta' z.st.length tc', .string z.s.t, .int .i64 z.s.l, .int .i64 z.s.c, .slice la' z.al.length lc', .slice xa' z.ts.length xc'] _ (HTW.out _ HK5.out) (HTZ.out _ HK5.out)).mono ?_
  rintro e v6 ⟨rfl, k⟩
  have HK6 := Lib.hid (below1_step HK5.out (by simp) k)
  clear k
  refine hK.out _ _ (HSW.out _ HK6.out) (fun hH2 => ?_)
  clear hK K
  refine wpAnyH_take (i := 8) (v := .bool true) rfl (by kernel_rfl) (by kernel_rfl) (by kernel_rfl) (fun _ _ _ h => h) (Or.inl ⟨by kernel_rfl, fun wS hSw => by (try dsimp only at hSw); go_simp⟩) hH2 ?_
  refine wpAnyH_take (i := 9) (v := .bool true) rfl (by kernel_rfl) (by kernel_rfl) (by kernel_rfl) (fun _ _ _ h => h) (Or.inl ⟨by kernel_rfl, fun wS hSw => by (try dsimp only at hSw); go_simp⟩) hH2 ?_
  refine wpAnyH_take (i := 10) (v := .bool true) rfl (by kernel_rfl) (by kernel_rfl) (by kernel_rfl) (fun _ _ _ h => h) (Or.inl ⟨by kernel_rfl, fun wS hSw => by (try dsimp only at hSw); go_simp⟩) hH2 ?_
  refine wpAnyH_take (i := 11) (v := .agg #[.string z.n.t, .int .i64 z.n.l, .int .i64 z.n.c, .slice da' z.ds.length dc', .slice qa' z.qs.length qc', .slice fa' z.fs.length fc', .slice ta' z.st.length tc', .string z.s.t, .int .i64 z.s.l, .int .i64 z.s.c, .slice la' z.al.length lc', .slice xa' z.ts.length xc']) rfl (by kernel_rfl) (by kernel_rfl) (by kernel_rfl) (fun _ _ _ h => h) (Or.inl ⟨by kernel_rfl, fun wS hSw => by (try dsimp only at hSw); go_simp⟩) hH2 ?_
  refine wpAnyH_take (i := 12) (v := .agg #[.string x.n.t, .int .i64 x.n.l, .int .i64 x.n.c, .slice da x.ds.length dc, .slice qa x.qs.length qc, .slice fa x.fs.length fc, .slice ta x.st.length tc, .string x.s.t, .int .i64 x.s.l, .int .i64 x.s.c, .slice la x.al.length lc, .slice xa x.ts.length xc]) rfl (by kernel_rfl) (by kernel_rfl) (by kernel_rfl) (fun _ _ _ h => h) (Or.inl ⟨by kernel_rfl, fun wS hSw => by (try dsimp only at hSw); go_simp⟩) hH2 ?_
  refine wpAnyH_ready (rs := [13]) (by kernel_rfl) (by simp) ?_
  refine AllReadyH.cons rfl (fun K hK => ?_) AllReadyH.nil
  rw [if_pos (by kernel_rfl)]
  go_simp
  refine (HRP.out _ (HTW.out _ HK6.out)).mono ?_
  rintro e v7 ⟨d7, rfl, hd7, k⟩
  have HK7 := Lib.hid (below1_step HK6.out (by simp) k)
  have HD7 := Lib.hid hd7
  clear hd7
  clear k
  refine hK.out _ _ (HSW.out _ HK7.out) (fun hH3 => ?_)
  clear hK K
  refine wpAnyH_ready (rs := [14]) (by kernel_rfl) (by simp) ?_
  refine AllReadyH.cons rfl (fun K hK => ?_) AllReadyH.nil
  rw [if_pos (by kernel_rfl)]
  go_simp
  refine (HSr.out [.string z.n.t, .int .i64 z.n.l, .int .i64 z.n.c, .slice da' z.ds.length dc', .slice qa' z.qs.length qc', .slice fa' z.fs.length fc', .slice ta' z.st.length tc', .string z.s.t, .int .i64 z.s.l, .int .i64 z.s.c, .slice la' z.al.length lc', .slice xa' z.ts.length xc'] d7 _ (HTZ.out _ HK7.out) HD7.out).mono ?_
  rintro e v8 ⟨rfl, k⟩
  have HK8 := Lib.hid (below1_step HK7.out (by simp) k)
  clear k
  refine hK.out _ _ (HSW.out _ HK8.out) (fun hH4 => ?_)
  clear hK K
  refine wpAnyH_take (i := 15) (v := .bool true) rfl (by kernel_rfl) (by kernel_rfl) (by kernel_rfl) (fun _ _ _ h => h) (Or.inl ⟨by kernel_rfl, fun wS hSw => by (try dsimp only at hSw); go_simp⟩) hH4 ?_
  refine wpAnyH_take (i := 16) (v := .bool true) rfl (by kernel_rfl) (by kernel_rfl) (by kernel_rfl) (fun _ _ _ h => h) (Or.inl ⟨by kernel_rfl, fun wS hSw => by (try dsimp only at hSw); go_simp⟩) hH4 ?_
  refine wpAnyH_take (i := 17) (v := .agg #[.string z.n.t, .int .i64 z.n.l, .int .i64 z.n.c, .slice da' z.ds.length dc', .slice qa' z.qs.length qc', .slice fa' z.fs.length fc', .slice ta' z.st.length tc', .string z.s.t, .int .i64 z.s.l, .int .i64 z.s.c, .slice la' z.al.length lc', .slice xa' z.ts.length xc']) rfl (by kernel_rfl) (by kernel_rfl) (by kernel_rfl) (fun _ _ _ h => h) (Or.inl ⟨by kernel_rfl, fun wS hSw => by (try dsimp only at hSw); go_simp⟩) hH4 ?_
  refine wpAnyH_take (i := 18) (v := .agg #[.string z.n.t, .int .i64 z.n.l, .int .i64 z.n.c, .slice da' z.ds.length dc', .slice qa' z.qs.length qc', .slice fa' z.fs.length fc', .slice ta' z.st.length tc', .string z.s.t, .int .i64 z.s.l, .int .i64 z.s.c, .slice la' z.al.length lc', .slice xa' z.ts.length xc']) rfl (by kernel_rfl) (by kernel_rfl) (by kernel_rfl) (fun _ _ _ h => h) (Or.inl ⟨by kernel_rfl, fun wS hSw => by (try dsimp only at hSw); go_simp⟩) hH4 ?_
  refine wpAnyH_ready (rs := [19]) (by kernel_rfl) (by simp) ?_
  refine AllReadyH.cons rfl (fun K hK => ?_) AllReadyH.nil
  rw [if_pos (by kernel_rfl)]
  go_simp
  refine (HPz.out [.string z.n.t, .int .i64 z.n.l, .int .i64 z.n.c, .slice da' z.ds.length dc', .slice qa' z.qs.length qc', .slice fa' z.fs.length fc', .slice ta' z.st.length tc', .string z.s.t, .int .i64 z.s.l, .int .i64 z.s.c, .slice la' z.al.length lc', .slice xa' z.ts.length xc'] _ (HTZ.out _ HK8.out)).mono ?_
  rintro e v9 ⟨d9, rfl, hd9, k⟩
  have HK9 := Lib.hid (below1_step HK8.out (by simp) k)
  have HD9 := Lib.hid hd9
  clear hd9
  clear k
  refine hK.out _ _ (HSW.out _ HK9.out) (fun hH5 => ?_)
  clear hK K
  refine wpAnyH_ready (rs := [20]) (by kernel_rfl) (by simp) ?_
  refine AllReadyH.cons rfl (fun K hK => ?_) AllReadyH.nil
  rw [if_pos (by kernel_rfl)]
  go_simp
  refine (HSm.out [.string z.n.t, .int .i64 z.n.l, .int .i64 z.n.c, .slice da' z.ds.length dc', .slice qa' z.qs.length qc', .slice fa' z.fs.length fc', .slice ta' z.st.length tc', .string z.s.t, .int .i64 z.s.l, .int .i64 z.s.c, .slice la' z.al.length lc', .slice xa' z.ts.length xc'] d9 _ (HTZ.out _ HK9.out) HD9.out).mono ?_
  rintro e v10 ⟨rfl, k⟩
  have HK10 := Lib.hid (below1_step HK9.out (by simp) k)
  clear k
  refine hK.out _ _ (HSW.out _ HK10.out) (fun hH6 => ?_)
  clear hK K
  refine wpAnyH_take (i := 21) (v := .bool true) rfl (by kernel_rfl) (by kernel_rfl) (by kernel_rfl) (fun _ _ _ h => h) (Or.inl ⟨by kernel_rfl, fun wS hSw => by (try dsimp only at hSw); go_simp⟩) hH6 ?_
  refine wpAnyH_take (i := 22) (v := .bool true) rfl (by kernel_rfl) (by kernel_rfl) (by kernel_rfl) (fun _ _ _ h => h) (Or.inl ⟨by kernel_rfl, fun wS hSw => by (try dsimp only at hSw); go_simp⟩) hH6 ?_
  refine wpAnyH_ready (rs := [23]) (by kernel_rfl) (by simp) ?_
  refine AllReadyH.cons rfl (fun K hK => ?_) AllReadyH.nil
  rw [if_pos (by kernel_rfl)]
  go_simp
  refine (HAw.out _ (HTW.out _ HK10.out)).mono ?_
  rintro e v11 ⟨rfl, k⟩
  have HK11 := Lib.hid (below1_step HK10.out (by simp) k)
  clear k
  refine hK.out _ _ (HSW.out _ HK11.out) (fun hH7 => ?_)
  clear hK K
  refine wpAnyH_take (i := 24) (v := .bool true) rfl (by kernel_rfl) (by kernel_rfl) (by kernel_rfl) (fun _ _ _ h => h) (Or.inl ⟨by kernel_rfl, fun wS hSw => by (try dsimp only at hSw); go_simp⟩) hH7 ?_
  refine wpAnyH_take (i := 25) (v := .bool true) rfl (by kernel_rfl) (by kernel_rfl) (by kernel_rfl) (fun _ _ _ h => h) (Or.inl ⟨by kernel_rfl, fun wS hSw => by (try dsimp only at hSw); go_simp⟩) hH7 ?_
  refine wpAnyH_done (by kernel_rfl) ?_ _
  go_simp
  go_wp2_with fail
  go_ret
  exact ⟨rfl, HTW.out _ HK11.out⟩
end Go.Proofs.YtojabkhfkbfeaaaGreatDoor.treeRight
