/- What a reader of rows does: Fail, and Next. -/
import Derived.Test.YtkihjfdpfglkbaaDoorCsvNext
namespace Go.Proofs.YtkihjfdpfglkbaaDoor
open Go.RowKit
set_option linter.unusedVariables false

theorem cs_result1 {fn : Func} {p : Tmp} {ty : TypeId} (h : fn.results = #[.cell p ty]) (tmps : Array Value) (P : Program) (w : World) {a : Addr} {v : Value}
    (h1 : (asAddr (tmps.getD p undef)).run P w = .ok a w) (h2 : (loadVar ty a).run P w = .ok v w) : (results fn tmps).run P w = .ok v w := by
  rw [Array.getD_eq_getD_getElem?] at h1
  simp [results, h, Sem.run_bind, Result.andThen, h1, h2]
theorem cs_set3 {B g : Nat} {a w : World} (h : Below B a w) (hg : B ≤ g) (x y z : Value) : Below B a (((w.setCell ⟨g, 0, none⟩ x).setCell ⟨g, 1, none⟩ y).setCell ⟨g, 2, none⟩ z) :=
  ((h.setCell hg _).setCell hg _).setCell hg _
theorem cs_gdrew {a b : World} {r : Option Nat} (h : a.grownBy b r) : a.grownBy b.drew r := ⟨h.os, h.tape, h.output, h.size, h.block⟩
def failV (e line col : Nat) : Value := .agg #[.int .i64 (e : Nat), .int .i64 (line : Nat), .int .i64 (col : Nat)]

set_option maxHeartbeats 400000 in
theorem fail_calls (R P k e line col : Nat) (rest : ByteArray) (w : World) (h : RdAt w R P k rest e line col) :
    Calls Tryd.prog 15 #[.pointer (some ⟨R, 0, none⟩)] w fun ev w' => ev = .returned (failV e line col) ∧ Below w.heap.size w w' := by
  have h2 := h.alloc (.cells #[.int .i64 0, .int .i64 0, .int .i64 0] 26)
  obtain ⟨c0, c1, c2, c3, p0, p1⟩ := h2.cells
  have hR := h.blkR.lt
  have HB := Lib.hid (((Below.refl w.heap.size w).alloc (Nat.le_refl _) (.cells #[.int .i64 0, .int .i64 0, .int .i64 0] 26)))
  clear h h2
  go_enter Tryd.func15, Tryd.ntmps15
  go_wp2
  refine bodyPost_ret (v := failV e line col) ?_ rfl ⟨rfl, ?_⟩
  · refine cs_result1 rfl _ _ _ (a := ⟨w.heap.size, 0, none⟩) (by rfl) ?_
    unfold failV
    go_simp
  · exact (Below.refl w.heap.size w).alloc (Nat.le_refl _) _
set_option maxHeartbeats 400000 in
theorem failNil_calls (w : World) :
    Calls Tryd.prog 15 #[.pointer none] w fun ev w' => ev = .returned (failV 0 0 0) ∧ Below w.heap.size w w' := by
  have HB := Lib.hid (((Below.refl w.heap.size w).alloc (Nat.le_refl _) (.cells #[.int .i64 0, .int .i64 0, .int .i64 0] 26)))
  go_enter Tryd.func15, Tryd.ntmps15
  go_wp2
  refine bodyPost_ret (v := failV 0 0 0) ?_ rfl ⟨rfl, ?_⟩
  · refine cs_result1 rfl _ _ _ (a := ⟨w.heap.size, 0, none⟩) (by rfl) ?_
    unfold failV
    go_simp
  · exact (Below.refl w.heap.size w).alloc (Nat.le_refl _) _
set_option maxHeartbeats 400000 in
theorem nextNil_calls (w : World) :
    Calls Tryd.prog 16 #[.pointer none] w fun ev w' => ev = .returned (.tuple #[.slice none 0 0, .bool false]) ∧ w = w' := by
  go_enter Tryd.func16, Tryd.ntmps16
  go_wp2
  go_ret2
  exact ⟨rfl, rfl⟩
set_option maxHeartbeats 1000000 in
/-- Something was wrong, or nothing is left. -/
theorem nextStop_calls (R P k e line col : Nat) (rest : ByteArray) (w : World) (h : RdAt w R P k rest e line col) (hs : e ≠ 0 ∨ rest.size = 0) :
    Calls Tryd.prog 16 #[.pointer (some ⟨R, 0, none⟩)] w fun ev w' => ev = .returned (.tuple #[.slice none 0 0, .bool false]) ∧ w = w' := by
  obtain ⟨c0, c1, c2, c3, p0, p1⟩ := h.cells
  clear h
  by_cases he : e = 0
  · subst he
    have h0 : rest.size = 0 := hs.resolve_left (fun h => h rfl)
    have t1 : rest.toList.isEmpty = true := by
      rw [cs_tl, show rest.data.toList = [] from List.length_eq_zero_iff.1 (by rw [← cs_size]; exact h0)]; rfl
    clear hs h0
    go_enter Tryd.func16, Tryd.ntmps16
    go_wp2
    go_ret2
    exact ⟨rfl, rfl⟩
  · have t1 : ((e : Int) != 0) = true := by simpa using he
    clear hs he
    go_enter Tryd.func16, Tryd.ntmps16
    go_wp2
    go_ret2
    exact ⟨rfl, rfl⟩

set_option maxHeartbeats 2000000 in
set_option maxRecDepth 100000 in
theorem nextOk_calls (R P k line col : Nat) (rest : ByteArray) (fs : List (List UInt8)) (r : List UInt8) (w : World) (h : RdAt w R P k rest 0 line col) (hk : k ≤ 4000001) (hs0 : 0 < rest.size) (hs : rest.size ≤ 4000000) (hm : MaxC w) (hr : rowR rest.data.toList = .ok (fs, r)) :
    Calls Tryd.prog 16 #[.pointer (some ⟨R, 0, none⟩)] w fun ev w' => ∃ a cap, ev = .returned (.tuple #[.slice a fs.length cap, .bool true]) ∧ TIn w' a fs.length fs ∧ TObj w' a ∧ RdAt w' R P (k + 1) ⟨r.toArray⟩ 0 line col ∧ ∃ w1, Below w.heap.size w w1 ∧ w1.grownBy w' (some P) := by
  have H := Lib.hid h
  have HC := Lib.hid (cutRow_calls rest w hs hm)
  have HR := Lib.hid hr
  have t1 : rest.toList.isEmpty = false := by
    rw [cs_tl]
    cases e : rest.data.toList with
    | nil => rw [cs_size, e] at hs0; simp at hs0
    | cons c r => rfl
  obtain ⟨c0, c1, c2, c3, p0, p1⟩ := h.cells
  have HA := Lib.hid (fun t w1 => as_nil t w1)
  clear h hs hs0 hm hr
  go_enter Tryd.func16, Tryd.ntmps16
  go_wp2_with fail
  refine HC.out.mono ?_
  rintro e w1 (⟨er, c, E, h1, _⟩ | ⟨fs', r', a, cap, h1, rfl, hT, hO, k1⟩)
  · rw [HR.out] at h1; cases h1
  · rw [HR.out] at h1
    simp only [Except.ok.injEq, Prod.mk.injEq] at h1
    obtain ⟨rfl, rfl⟩ := h1
    have HB1 := Lib.hid (k1.alloc k1.size (.cells #[.pointer none] 59))
    have HT := Lib.hid (hT.below ((Below.refl w1.heap.size w1).alloc (Nat.le_refl _) (.cells #[.pointer none] 59)))
    have HO := Lib.hid (hO.below ((Below.refl w1.heap.size w1).alloc (Nat.le_refl _) (.cells #[.pointer none] 59)))
    have h2 := (H.out.below k1).alloc (.cells #[.pointer none] 59)
    have H2 := Lib.hid h2
    obtain ⟨d0, d1, d2, d3, q0, q1⟩ := h2.cells
    have f0 := h2.frozP 0
    have f1 := h2.frozP 1
    have hne : ¬ R = P := h2.ne
    have hne2 : ¬ P = R := fun e => hne e.symm
    have HK := Lib.hid (fun W (h : RdAt W R P k rest 0 line col) => h.took (k + 1) ⟨r.toArray⟩)
    clear hT hO k1 h2 HC c0 c1 c2 c3 p0 p1
    go_wp2_with fail
    refine (HA.out _ _).mono ?_
    rintro e w2 ⟨rfl, hw2⟩
    subst hw2
    obtain ⟨W, hW⟩ : ∃ W, w1.alloc (.cells #[.pointer none] 59) = W := ⟨_, rfl⟩
    rw [hW] at HB1 HT HO H2 d0 d1 d2 d3 q0 q1 f0 f1 ⊢
    clear hW
    go_wp2_with fail
    go_ret2
    have hg : W.grownBy ((W.setCell ⟨P, 0, none⟩ (.int .i64 ((k : Int) + 1))).setCell ⟨P, 1, none⟩ (.string ⟨r.toArray⟩)) (some P) := cs_gtrans cs_set cs_set
    have hP := H2.out.blkP
    exact ⟨a, cap, rfl, HT.out.grown hg (HO.out.ne hP (by decide)), HO.out.grown hP (by decide) hg, HK.out W H2.out, W, HB1.out, hg⟩

set_option maxHeartbeats 2000000 in
set_option maxRecDepth 100000 in
theorem nextErr_calls (R P k line col : Nat) (rest : ByteArray) (er c : Nat) (w : World) (h : RdAt w R P k rest 0 line col) (hk : k ≤ 4000001) (hs0 : 0 < rest.size) (hs : rest.size ≤ 4000000) (hm : MaxC w) (het : ErrT w) (hr : rowR rest.data.toList = .error (er, c)) :
    Calls Tryd.prog 16 #[.pointer (some ⟨R, 0, none⟩)] w fun ev w' => ev = .returned (.tuple #[.slice none 0 0, .bool false]) ∧ RdAt w' R P k rest er (k + 1) c ∧ ∃ w1, Below w.heap.size w w1 ∧ w1.grownBy w' (some R) := by
  have H := Lib.hid h
  have HE := Lib.hid het
  have HC := Lib.hid (cutRow_calls rest w hs hm)
  have HR := Lib.hid hr
  have HX := Lib.hid (rowR_errs hr).1
  have t1 : rest.toList.isEmpty = false := by
    rw [cs_tl]
    cases e : rest.data.toList with
    | nil => rw [cs_size, e] at hs0; simp at hs0
    | cons c r => rfl
  obtain ⟨c0, c1, c2, c3, p0, p1⟩ := h.cells
  clear h hs hs0 hm hr het
  go_enter Tryd.func16, Tryd.ntmps16
  go_wp2_with fail
  refine HC.out.mono ?_
  rintro e w1 (⟨er', c', E, h1, rfl, hE0, hE, k1⟩ | ⟨fs', r', a, cap, h1, _⟩)
  case inr => rw [HR.out] at h1; cases h1
  rw [HR.out] at h1
  simp only [Except.error.injEq, Prod.mk.injEq] at h1
  obtain ⟨rfl, rfl⟩ := h1
  have HB1 := Lib.hid (k1.alloc k1.size (.cells #[.pointer none] 59))
  have h2 := (H.out.below k1).alloc (.cells #[.pointer none] 59)
  have HEl : E < w1.heap.size := (Array.getElem?_eq_some_iff.1 hE).1
  have hE2 : (w1.alloc (.cells #[.pointer none] 59)).heap[E]? = _ := (heap_alloc_old w1 _ HEl).trans hE
  have HA := Lib.hid (as_hits E w1.heap.size (w1.alloc (.cells #[.pointer none] 59)) (HE.out.below HB1.out) (heap_alloc_new _ _))
  have hRl := (H.out.below k1).blkR.lt
  have hPl := (H.out.below k1).blkP.lt
  have hRw := H.out.blkR.lt
  have hPw := H.out.blkP.lt
  have H2 := Lib.hid h2
  have HE2 := Lib.hid hE2
  have HS1 := Lib.hid k1.size
  have hne : ¬ R = P := h2.ne
  have hne2 : ¬ P = R := fun e => hne e.symm
  clear k1 h2 HC hE hE2 c0 c1 c2 c3 p0 p1
  go_wp2_with fail
  obtain ⟨T, hT⟩ : ∃ T, T = w1.heap.size := ⟨_, rfl⟩
  rw [← hT] at HA HEl hRl hPl HS1 ⊢
  obtain ⟨W0, hW0⟩ : ∃ W0, w1.alloc (.cells #[.pointer none] 59) = W0 := ⟨_, rfl⟩
  rw [hW0] at HA H2 HE2 HB1 ⊢
  clear hW0 hT
  refine HA.out.mono ?_
  rintro e w2 ⟨rfl, hT2, hg2⟩
  have h3 := H2.out.grown hg2 (by simp; omega) (by simp; omega)
  have hB2 := HB1.out.grown hg2 HB1.out.size (fun j hj => by cases hj; exact HS1.out)
  have hE3 := (hg2.block E (Array.getElem?_eq_some_iff.1 HE2.out).1 (by simp; omega)).trans HE2.out
  have H3 := Lib.hid h3
  have HB2 := Lib.hid hB2
  obtain ⟨d0, d1, d2, d3, q0, q1⟩ := h3.cells
  have x0 : w2.cell? ⟨T, 0, none⟩ = some (.pointer (some ⟨E, 0, none⟩)) := by rw [cell_of_row w2 T 0 _ _ _ hT2]; rfl
  have e0 : w2.cell? ⟨E, 0, none⟩ = some (.int .i64 (c : Nat)) := by rw [cell_of_row w2 E 0 _ _ _ hE3]; rfl
  have e1 : w2.cell? ⟨E, 1, none⟩ = some (.iface 24 (.int .i64 (er : Nat))) := by rw [cell_of_row w2 E 1 _ _ _ hE3]; rfl
  have f1 := h3.frozR 1
  have f2 := h3.frozR 2
  have f3 := h3.frozR 3
  have HRO := Lib.hid (reasonOf_calls E er w2.drew e1 HX.out)
  have HD := Lib.hid (show w2.cell? ⟨T, 0, none⟩ = some (.pointer (some ⟨E, 0, none⟩)) ∧ w2.cell? ⟨E, 0, none⟩ = some (.int .i64 (c : Nat)) ∧ w2.cell? ⟨R, 0, none⟩ = some (.pointer (some ⟨P, 0, none⟩)) ∧ w2.cell? ⟨P, 0, none⟩ = some (.int .i64 (k : Nat)) from ⟨x0, e0, d0, q0⟩)
  have HD3 : Hid ((((w2.setCell ⟨R, 1, none⟩ (.int .i64 (er : Nat))).setCell ⟨R, 2, none⟩ (.int .i64 ((k : Int) + 1))).setCell ⟨R, 3, none⟩ (.int .i64 (c : Nat))).cell? ⟨T, 0, none⟩ = some (.pointer (some ⟨E, 0, none⟩)) ∧ (((w2.setCell ⟨R, 1, none⟩ (.int .i64 (er : Nat))).setCell ⟨R, 2, none⟩ (.int .i64 ((k : Int) + 1))).setCell ⟨R, 3, none⟩ (.int .i64 (c : Nat))).cell? ⟨E, 0, none⟩ = some (.int .i64 (c : Nat)) ∧ (((w2.setCell ⟨R, 1, none⟩ (.int .i64 (er : Nat))).setCell ⟨R, 2, none⟩ (.int .i64 ((k : Int) + 1))).setCell ⟨R, 3, none⟩ (.int .i64 (c : Nat))).cell? ⟨R, 0, none⟩ = some (.pointer (some ⟨P, 0, none⟩)) ∧ (((w2.setCell ⟨R, 1, none⟩ (.int .i64 (er : Nat))).setCell ⟨R, 2, none⟩ (.int .i64 ((k : Int) + 1))).setCell ⟨R, 3, none⟩ (.int .i64 (c : Nat))).cell? ⟨P, 0, none⟩ = some (.int .i64 (k : Nat))) := Lib.hid (by
    refine ⟨?_, ?_, ?_, ?_⟩
    · rw [World.cell?_setCell_other _ _ _ _ (by simp), World.cell?_setCell_other _ _ _ _ (by simp), World.cell?_setCell_other _ _ _ _ (by simp)]; exact x0
    · rw [World.cell?_setCell_other _ _ _ _ (by simp), World.cell?_setCell_other _ _ _ _ (by simp), World.cell?_setCell_other _ _ _ _ (by simp)]; exact e0
    · rw [World.cell?_setCell_other _ _ _ _ (by simp), World.cell?_setCell_other _ _ _ _ (by simp), World.cell?_setCell_other _ _ _ _ (by simp)]; exact d0
    · rw [World.cell?_setCell_other _ _ _ _ (by simp), World.cell?_setCell_other _ _ _ _ (by simp), World.cell?_setCell_other _ _ _ _ (by simp)]; exact q0)
  have hwr : IntKind.i64.wrap ((k : Int) + 1) = (k : Int) + 1 := by rw [IntKind.wrap_i64]; omega
  clear h3 hB2 hE3 hT2 hg2 HA HE2 H2 HB1
  go_wp2_with fail
  go_region_held3 (fun wx => wx.cell? ⟨T, 0, none⟩ = some (.pointer (some ⟨E, 0, none⟩)) ∧ wx.cell? ⟨E, 0, none⟩ = some (.int .i64 (c : Nat)) ∧ wx.cell? ⟨R, 0, none⟩ = some (.pointer (some ⟨P, 0, none⟩)) ∧ wx.cell? ⟨P, 0, none⟩ = some (.int .i64 (k : Nat))) (first | exact HD.out | exact HD3.out) (first
    | (go_at_call 25; refine HRO.out.mono ?_; rintro e w4 ⟨rfl, rfl⟩))
  go_wp2_with fail
  go_ret2
  exact ⟨rfl, (H3.out.failed er (k + 1) c).drew, w2, HB2.out, cs_gdrew (cs_gtrans (cs_gtrans cs_set cs_set) cs_set)⟩
end Go.Proofs.YtkihjfdpfglkbaaDoor
