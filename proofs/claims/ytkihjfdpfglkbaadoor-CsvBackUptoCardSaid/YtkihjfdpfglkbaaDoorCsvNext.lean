/- What a reader of rows does: New, Row, Rest, Fail, Next. -/
import Derived.Test.YtkihjfdpfglkbaaDoorCsvRow
import Derived.Test.YtkihjfdpfglkbaaDoorCsvAs
import Derived.Test.YtkihjfdpfglkbaaDoorCsvIs
import Derived.Deep.RegionHeld3
import Derived.Laws.ResultCell
namespace Go.Proofs.YtkihjfdpfglkbaaDoor
open Go.RowKit
set_option linter.unusedVariables false

/-- A reader and its place, in memory. -/
structure RdAt (w : World) (R P k : Nat) (rest : ByteArray) (e line col : Nat) : Prop where
  rd : w.heap[R]? = some (.cells #[.pointer (some ⟨P, 0, none⟩), .int .i64 (e : Nat), .int .i64 (line : Nat), .int .i64 (col : Nat)] 42 (0, 0))
  pl : w.heap[P]? = some (.cells #[.int .i64 (k : Nat), .string rest] 51 (0, 0))
theorem RdAt.blkR {w : World} {R P k e line col : Nat} {rest : ByteArray} (h : RdAt w R P k rest e line col) : CBlk w R 42 := ⟨_, _, h.rd⟩
theorem RdAt.blkP {w : World} {R P k e line col : Nat} {rest : ByteArray} (h : RdAt w R P k rest e line col) : CBlk w P 51 := ⟨_, _, h.pl⟩
theorem RdAt.ne {w : World} {R P k e line col : Nat} {rest : ByteArray} (h : RdAt w R P k rest e line col) : R ≠ P := h.blkR.ne h.blkP (by decide)
theorem RdAt.below {w w' : World} {R P k e line col : Nat} {rest : ByteArray} (h : RdAt w R P k rest e line col) (hb : Below w.heap.size w w') : RdAt w' R P k rest e line col :=
  ⟨(hb.block R h.blkR.lt).trans h.rd, (hb.block P h.blkP.lt).trans h.pl⟩
theorem RdAt.grown {w w' : World} {row : Option Nat} {R P k e line col : Nat} {rest : ByteArray} (h : RdAt w R P k rest e line col) (hg : w.grownBy w' row) (h1 : some R ≠ row) (h2 : some P ≠ row) : RdAt w' R P k rest e line col :=
  ⟨(hg.block R h.blkR.lt h1).trans h.rd, (hg.block P h.blkP.lt h2).trans h.pl⟩
theorem RdAt.alloc {w : World} {R P k e line col : Nat} {rest : ByteArray} (h : RdAt w R P k rest e line col) (o : Obj) : RdAt (w.alloc o) R P k rest e line col :=
  h.below ((Below.refl w.heap.size w).alloc (Nat.le_refl _) o)
theorem RdAt.drew {w : World} {R P k e line col : Nat} {rest : ByteArray} (h : RdAt w R P k rest e line col) : RdAt w.drew R P k rest e line col := ⟨h.rd, h.pl⟩
theorem RdAt.cells {w : World} {R P k e line col : Nat} {rest : ByteArray} (h : RdAt w R P k rest e line col) :
    w.cell? ⟨R, 0, none⟩ = some (.pointer (some ⟨P, 0, none⟩)) ∧ w.cell? ⟨R, 1, none⟩ = some (.int .i64 (e : Nat)) ∧ w.cell? ⟨R, 2, none⟩ = some (.int .i64 (line : Nat)) ∧ w.cell? ⟨R, 3, none⟩ = some (.int .i64 (col : Nat)) ∧
      w.cell? ⟨P, 0, none⟩ = some (.int .i64 (k : Nat)) ∧ w.cell? ⟨P, 1, none⟩ = some (.string rest) := by
  refine ⟨?_, ?_, ?_, ?_, ?_, ?_⟩
  · rw [cell_of_row w R 0 _ _ _ h.rd]; rfl
  · rw [cell_of_row w R 1 _ _ _ h.rd]; rfl
  · rw [cell_of_row w R 2 _ _ _ h.rd]; rfl
  · rw [cell_of_row w R 3 _ _ _ h.rd]; rfl
  · rw [cell_of_row w P 0 _ _ _ h.pl]; rfl
  · rw [cell_of_row w P 1 _ _ _ h.pl]; rfl
theorem RdAt.frozR {w : World} {R P k e line col : Nat} {rest : ByteArray} (h : RdAt w R P k rest e line col) (j : Nat) : w.frozen? ⟨R, j, none⟩ = false := frozen_of_row w R j _ _ h.rd
theorem RdAt.frozP {w : World} {R P k e line col : Nat} {rest : ByteArray} (h : RdAt w R P k rest e line col) (j : Nat) : w.frozen? ⟨P, j, none⟩ = false := frozen_of_row w P j _ _ h.pl
theorem cs_gtrans {a b c : World} {r : Option Nat} (h : a.grownBy b r) (k : b.grownBy c r) : a.grownBy c r :=
  ⟨k.os.trans h.os, k.tape.trans h.tape, k.output.trans h.output, Nat.le_trans h.size k.size, fun i hi hne => (k.block i (Nat.lt_of_lt_of_le hi h.size) hne).trans (h.block i hi hne)⟩
theorem RdAt.took {w : World} {R P k e line col : Nat} {rest : ByteArray} (h : RdAt w R P k rest e line col) (k' : Nat) (r : ByteArray) :
    RdAt ((w.setCell ⟨P, 0, none⟩ (.int .i64 (k' : Nat))).setCell ⟨P, 1, none⟩ (.string r)) R P k' r e line col := by
  have hne := h.ne
  refine ⟨?_, ?_⟩
  · rw [heap_setCell_other _ _ _ _ (by simpa using hne), heap_setCell_other _ _ _ _ (by simpa using hne)]; exact h.rd
  · have h1 := heap_setCell_same w P 0 _ _ (.int .i64 (k' : Nat)) h.pl
    have h2 := heap_setCell_same _ P 1 _ _ (.string r) h1
    rw [h2]; rfl
theorem RdAt.failed {w : World} {R P k e line col : Nat} {rest : ByteArray} (h : RdAt w R P k rest e line col) (e' l' c' : Nat) :
    RdAt (((w.setCell ⟨R, 1, none⟩ (.int .i64 (e' : Nat))).setCell ⟨R, 2, none⟩ (.int .i64 (l' : Nat))).setCell ⟨R, 3, none⟩ (.int .i64 (c' : Nat))) R P k rest e' l' c' := by
  have hne := h.ne.symm
  refine ⟨?_, ?_⟩
  · have h1 := heap_setCell_same w R 1 _ _ (.int .i64 (e' : Nat)) h.rd
    have h2 := heap_setCell_same _ R 2 _ _ (.int .i64 (l' : Nat)) h1
    have h3 := heap_setCell_same _ R 3 _ _ (.int .i64 (c' : Nat)) h2
    rw [h3]; rfl
  · rw [heap_setCell_other _ _ _ _ (by simpa using hne), heap_setCell_other _ _ _ _ (by simpa using hne), heap_setCell_other _ _ _ _ (by simpa using hne)]; exact h.pl

/-- The library's variable that holds the type of errors. -/
def ErrT (w : World) : Prop := w.cell? ⟨0, 0, none⟩ = some (.iface 96 (.agg #[.pointer (some ⟨4, 56, none⟩)]))
theorem ErrT.below {w w' : World} (h : ErrT w) (hb : Below w.heap.size w w') : ErrT w' := (hb.cell (p := ⟨0, 0, none⟩) (block_lt_of_cell h)).trans h
theorem as_hits (e : Nat) (t : Nat) (w : World) (hg : ErrT w) (ht : w.heap[t]? = some (.cells #[.pointer none] 59 (0, 0))) :
    Calls Tryd.prog 24 #[.iface 59 (.pointer (some ⟨e, 0, none⟩)), .iface 61 (.pointer (some ⟨t, 0, none⟩))] w fun ev w' => ev = .returned (.bool true) ∧ w'.heap[t]? = some (.cells #[.pointer (some ⟨e, 0, none⟩)] 59 (0, 0)) ∧ w.grownBy w' (some t) := by
  have hc : w.cell? ⟨t, 0, none⟩ = some (.pointer none) := by rw [cell_of_row w t 0 _ _ _ ht]; rfl
  have hl : t < w.heap.size := (Array.getElem?_eq_some_iff.1 ht).1
  refine (as_hit ⟨e, 0, none⟩ ⟨t, 0, none⟩ (.pointer none) w hg hc (frozen_of_row w t 0 _ _ ht)).mono ?_
  rintro ev w' ⟨rfl, rfl⟩
  refine ⟨rfl, ?_, ?_⟩
  · refine (heap_setCell_same _ t 0 #[.pointer none] _ _ ?_).trans rfl
    rw [heap_alloc_old _ _ (by simp; omega), heap_alloc_old _ _ (by simp; omega), heap_alloc_old _ _ (by simp; omega), heap_alloc_old _ _ hl]
    exact ht
  · exact cs_gtrans (cs_gtrans (cs_gtrans (cs_gtrans (World.grownBy_alloc _ _ _) (World.grownBy_alloc _ _ _)) (World.grownBy_alloc _ _ _)) (World.grownBy_alloc _ _ _)) cs_set

set_option maxHeartbeats 400000 in
theorem new_calls (s : ByteArray) (w : World) :
    Calls Tryd.prog 11 #[.string s] w fun e w' => e = .returned (.pointer (some ⟨w.heap.size + 1, 0, none⟩)) ∧ RdAt w' (w.heap.size + 1) w.heap.size 0 s 0 0 0 ∧ Below w.heap.size w w' := by
  go_enter Tryd.func11, Tryd.ntmps11
  go_wp2
  go_ret
  refine ⟨rfl, ⟨?_, ?_⟩, ((Below.refl _ _).alloc (Nat.le_refl _) _).alloc (by simp) _⟩
  · have := heap_alloc_new (w.alloc (.cells #[.int .i64 0, .string s] 51)) (.cells #[.pointer (some ⟨w.heap.size, 0, none⟩), .int .i64 0, .int .i64 0, .int .i64 0] 42)
    simpa using this
  · rw [heap_alloc_old _ _ (by simp)]
    exact heap_alloc_new _ _
set_option maxHeartbeats 400000 in
theorem row_calls (R P k e line col : Nat) (rest : ByteArray) (w : World) (h : RdAt w R P k rest e line col) :
    Calls Tryd.prog 13 #[.pointer (some ⟨P, 0, none⟩)] w fun ev w' => ev = .returned (.int .i64 (k : Nat)) ∧ w = w' := by
  obtain ⟨c0, c1, c2, c3, p0, p1⟩ := h.cells
  clear h
  go_enter Tryd.func13, Tryd.ntmps13
  go_wp2
  go_ret
  exact ⟨rfl, rfl⟩
set_option maxHeartbeats 400000 in
theorem rest_calls (R P k e line col : Nat) (rest : ByteArray) (w : World) (h : RdAt w R P k rest e line col) :
    Calls Tryd.prog 14 #[.pointer (some ⟨P, 0, none⟩)] w fun ev w' => ev = .returned (.int .i64 (rest.size : Nat)) ∧ w = w' := by
  obtain ⟨c0, c1, c2, c3, p0, p1⟩ := h.cells
  clear h
  go_enter Tryd.func14, Tryd.ntmps14
  go_wp2
  go_ret
  exact ⟨rfl, rfl⟩
end Go.Proofs.YtkihjfdpfglkbaaDoor
