/- A block of texts that make has made. -/
import Derived.Test.YtbojhcfofgdoeaaDoorScKin
import Derived.Test.YtbojhcfofgdoeaaDoorShelfJoin
import Derived.OwnWalk
namespace Go.Proofs.YtbojhcfofgdoeaaDoor
open Go.RowKit
set_option linter.unusedVariables false

theorem scInfoS : (Tryd.prog.info? 9).map (fun i => (i.zero, i.size, i.bytes)) = some (some (.string ⟨#[]⟩), 1, 16) := by kernel_rfl
theorem sc_parts {i : Option TypeInfo} {z : Value} {s b : Nat} (h : i.map (fun i => (i.zero, i.size, i.bytes)) = some (some z, s, b)) : ∃ i0, i = some i0 ∧ i0.zero = some z ∧ i0.size = s ∧ i0.bytes = b := by
  cases i with
  | none => cases h
  | some i0 =>
    simp only [Option.map_some, Option.some.injEq, Prod.mk.injEq] at h
    exact ⟨i0, rfl, h.1, h.2.1, h.2.2⟩
theorem make_strs (K : Nat) (hK : K ≤ 1000000) (w : World) : (Instr.makeSlice 55 (.int .i64 (K : Int)) (.int .i64 (K : Int))).run Tryd.prog w = .ok (.slice (some ⟨w.heap.size, 0, none⟩) K K) (w.alloc (.cells (madeCells #[.string ⟨#[]⟩] K) 9)) := by
  obtain ⟨i0, hi, hz0, hz1, hz2⟩ := sc_parts scInfoS
  have h := run_make w 55 9 i0 (.string ⟨#[]⟩) Tryd.underlying55 hi hz0 .i64 .i64 (K : Int) (K : Int) (by omega) (by omega) (by rw [hz2]; omega) (by omega)
  rw [h, hz1]
  simp [Value.cells]
/-- A block of texts. -/
def HoldT (g : Nat) (l : List ByteArray) (w : World) : Prop := w.heap[g]? = some (.cells (l.map Value.string).toArray 9 (0, 0))
theorem HoldT.cell {g : Nat} {l : List ByteArray} {w : World} (h : HoldT g l w) {j : Nat} {x : ByteArray} (hj : l[j]? = some x) : w.cell? ⟨g, j, none⟩ = some (.string x) := by
  rw [cell_of_row w g j _ _ _ h]
  simp [hj]
theorem HoldT.frozen {g : Nat} {l : List ByteArray} {w : World} (h : HoldT g l w) (j : Nat) : w.frozen? ⟨g, j, none⟩ = false := frozen_of_row w g j _ _ h
theorem HoldT.lt {g : Nat} {l : List ByteArray} {w : World} (h : HoldT g l w) : g < w.heap.size := (Array.getElem?_eq_some_iff.1 h).1
theorem HoldT.set {g : Nat} {l : List ByteArray} {w : World} (h : HoldT g l w) (i : Nat) (x : ByteArray) : HoldT g (l.set i x) (w.setCell ⟨g, i, none⟩ (.string x)) := by
  have := heap_setCell_same w g i _ _ (.string x) h
  unfold HoldT
  rw [this]
  congr 2
  apply Array.ext'
  simp [List.map_set]
theorem HoldT.made (w : World) (n : Nat) : HoldT w.heap.size (List.replicate n ⟨#[]⟩) (w.alloc (.cells (madeCells #[.string ⟨#[]⟩] n) 9)) := by
  have h := heap_alloc_new w (.cells (madeCells #[.string ⟨#[]⟩] n) 9)
  unfold HoldT
  rw [h]
  congr 2
  apply Array.ext'
  apply List.ext_getElem (by simp [madeCells])
  intro j h1 h2
  simp [madeCells, Nat.mod_one]
/-- But for one block, the world is as it was. -/
def ScBut (g : Nat) (w w' : World) : Prop := w.grownBy w' (some g)
theorem ScBut.refl (g : Nat) (w : World) : ScBut g w w := ⟨rfl, rfl, rfl, Nat.le_refl _, fun _ _ _ => rfl⟩
theorem ScBut.set {g o : Nat} {w w' : World} (h : ScBut g w w') (v : Value) : ScBut g w (w'.setCell ⟨g, o, none⟩ v) :=
  ⟨h.os, h.tape, h.output, by rw [World.size_setCell]; exact h.size, fun k hk hne => (heap_setCell_other w' _ k v (fun e => hne (by rw [e]))).trans (h.block k hk hne)⟩
theorem ScBut.cell {g : Nat} {w w' : World} (h : ScBut g w w') {c o : Nat} {v : Value} (hc : w.cell? ⟨c, o, none⟩ = some v) (hne : c ≠ g) : w'.cell? ⟨c, o, none⟩ = some v :=
  World.grownBy.cell h hc (fun e => hne (Option.some.inj e))
/-- The names of kinds, so far. -/
def namesN (V : List Int) (n : Nat) : List ByteArray := (V.take n).map kindT ++ List.replicate (V.length - n) ⟨#[]⟩
theorem namesN_zero (V : List Int) : namesN V 0 = List.replicate V.length ⟨#[]⟩ := by simp [namesN]
theorem namesN_all (V : List Int) : namesN V V.length = V.map kindT := by simp [namesN]
theorem namesN_len (V : List Int) (n : Nat) (h : n ≤ V.length) : (namesN V n).length = V.length := by
  simp [namesN]; omega
theorem namesN_set (V : List Int) (n : Nat) (h : n < V.length) : (namesN V n).set n (kindT (V.getD n 0)) = namesN V (n + 1) := by
  have ht : V.take (n + 1) = V.take n ++ [V.getD n 0] := by
    rw [List.take_succ_eq_append_getElem h]
    simp [List.getD, h]
  have hr : V.length - n = (V.length - (n + 1)) + 1 := by omega
  have hl : ((V.take n).map kindT).length = n := by rw [List.length_map, List.length_take]; omega
  unfold namesN
  rw [List.set_append_right _ _ (by omega), hl, Nat.sub_self, hr, List.replicate_succ, List.set_cons_zero, ht]
  simp
theorem kindT_list (k : Int) : (kindT k).data.toList = kindL k := rfl
theorem names_join (V : List Int) : Lib.join ((V.map kindT).map (·.data.toList)) [44, 32] = kindsN V V.length := by
  rw [kinds_join V V.length (Nat.le_refl _), List.take_length, List.map_map]
  rfl
theorem sc_cat (a b : ByteArray) : (a ++ b).data.toList = a.data.toList ++ b.data.toList := by simp
theorem sc_hcat (a b : ByteArray) (h : a.size + b.size ≤ 9223372036854775807) : ∀ w, (Op.stringOp .add a b).run Tryd.prog w = .ok (.string (a ++ b)) w := fun w => run_string_add_sum w a b h
theorem sc_catSize (a b : ByteArray) : (a ++ b).size = a.size + b.size := by rw [sc_size, sc_cat, List.length_append, ← sc_size, ← sc_size]

theorem cell_alloc {w : World} {g n : Nat} {v : Value} (hc : w.cell? ⟨g, n, none⟩ = some v) (o : Obj) : (w.alloc o).cell? ⟨g, n, none⟩ = some v :=
  (((Below.refl w.heap.size w).alloc (Nat.le_refl _) o).cell (p := ⟨g, n, none⟩) (block_lt_of_cell hc)).trans hc
theorem cell_new (w : World) (cs : Array Value) (t : TypeId) {n : Nat} {v : Value} (h : cs[n]? = some v) : (w.alloc (.cells cs t)).cell? ⟨w.heap.size, n, none⟩ = some v := by
  rw [World.cell?_alloc_at (hn := rfl)]
  exact h
end Go.Proofs.YtbojhcfofgdoeaaDoor
