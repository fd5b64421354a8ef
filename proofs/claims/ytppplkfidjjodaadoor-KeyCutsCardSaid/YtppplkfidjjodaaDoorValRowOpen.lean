/- A list of values that comes in, opened: it is empty, or its values lie in a row. -/
import Derived.Test.YtppplkfidjjodaaDoorValCells
import Derived.Test.YtppplkfidjjodaaDoorValShut
import Derived.Deep.Slices
import Derived.Deep.Fields
import Derived.ChangeSame
namespace Go.Proofs.YtppplkfidjjodaaDoor
open Go.ChangeShapes Go.WideShapes Go.ChangeAt Go.RowKit Go.Joins Go.Deep
set_option linter.unusedVariables false

section
variable {H : Type} {enc : TypeId × Value → H} {w : World} {base : Nat} {spare : Nat → Bool} {held : Bool}
theorem four_of {α : Type} : ∀ {l : List α}, l.length = 4 → ∃ a b c d, l = [a, b, c, d]
  | [a, b, c, d], _ => ⟨a, b, c, d, rfl⟩
set_option maxRecDepth 100000 in
theorem val_cells {fuel : Nat} {cs : List Value} {x : DataW H × List MemPlace} (h : DataW.trod enc Tryd.prog w base spare held fuel 33 cs = some x) :
    ∃ v : Vd, cs = [.int .i64 v.k, .int .i64 v.i, .string v.s, .bool v.b] ∧ v.s.size ≤ maxLen ∧ (Lit.int .i64 v.i).wf = true := by
  obtain ⟨y0, y1, y2, y3, n, hx, hlen, h0, h1, h2, h3⟩ := trod_struct4 Tryd.underlying33 h
  rw [cellsVal] at hlen
  obtain ⟨a, b, c, d, rfl⟩ := four_of hlen
  have cI : Tryd.prog.cellsOf 3 = 1 := by kernel_rfl
  have cL : Tryd.prog.cellsOf 2 = 1 := by kernel_rfl
  have cS : Tryd.prog.cellsOf 9 = 1 := by kernel_rfl
  have cB : Tryd.prog.cellsOf 4 = 1 := by kernel_rfl
  simp [cI, cL, cS, cB] at h0 h1 h2 h3
  obtain ⟨k, e0, _, _⟩ := DataW.trod_int Tryd.underlying3 h0
  obtain ⟨i, e1, _, wi⟩ := DataW.trod_int Tryd.underlying2 h1
  obtain ⟨s, e2, _, ws⟩ := DataW.trod_string Tryd.underlying9 h2
  obtain ⟨q, e3, _⟩ := DataW.trod_bool Tryd.underlying4 h3
  simp at e0 e1 e2 e3
  exact ⟨⟨k, i, s, q⟩, by rw [e0, e1, e2, e3], ws, wi⟩
end

/-- What a walk is told of a list of values that came in. -/
def IsVRow (w : World) (a : Option Addr) (len : Nat) (L : List Vd) : Prop :=
  (len = 0 ∧ L = []) ∨ (len ≤ maxLen ∧ L.length = len ∧ (∃ g off, a = some ⟨g, off, none⟩ ∧ VRow w g off L) ∧ ∀ n, n < L.length → (L.getD n default).s.size ≤ maxLen)

theorem cell_lt {w : World} {g o : Nat} {v : Value} (h : w.cell? ⟨g, o, none⟩ = some v) : g < w.heap.size := by
  rcases Nat.lt_or_ge g w.heap.size with h' | h'
  · exact h'
  · simp [World.cell?, Array.getElem?_eq_none h'] at h

theorem add_off (g off n : Nat) : (⟨g, off, none⟩ : Addr).add n = ⟨g, off + n, none⟩ := by
  unfold Addr.add; split <;> simp_all

theorem getD_ofFn {n : Nat} (f : Nat → Vd) (j : Nat) (h : j < n) : ((List.range n).map f).getD j default = f j := by
  simp [List.getD, h]

set_option maxRecDepth 100000 in
theorem open_vrowB {H : Type} {enc : TypeId × Value → H} {W : World} {a : Option Addr} {len cap : Nat} {d : DataW H} {p : List MemPlace}
    (h : DataW.Trod enc Tryd.prog W 0 (fun _ => true) true 22 (.slice a len cap) d p) : ∃ L, IsVRow W a len L ∧ ∀ n, n < L.length → (Lit.int .i64 (L.getD n default).i).wf = true := by
  obtain ⟨fuel, hf⟩ := h
  rcases open_slice Tryd.underlying22 hf with ⟨hcs, _⟩ | ⟨x, l, c, m, n, D, Pl, hcs, _, hl, hm, hmm, _, hi⟩
  · simp [Value.cells] at hcs
    exact ⟨[], .inl ⟨hcs.2.1, rfl⟩, fun n hn => by simp at hn⟩
  · simp [Value.cells] at hcs
    obtain ⟨rfl, rfl, rfl⟩ := hcs
    by_cases h0 : len = 0
    · exact ⟨[], .inl ⟨h0, rfl⟩, fun n hn => by simp at hn⟩
    simp only [if_true] at hmm
    subst hmm
    rw [cellsVal] at hi
    have key : ∀ j, ∃ v : Vd, j < len → (W.cell? (x.add (j * 4)) = some (.int .i64 v.k) ∧ W.cell? ((x.add (j * 4)).add 1) = some (.int .i64 v.i) ∧ W.cell? ((x.add (j * 4)).add 2) = some (.string v.s) ∧ W.cell? ((x.add (j * 4)).add 3) = some (.bool v.b) ∧ v.s.size ≤ maxLen ∧ (Lit.int .i64 v.i).wf = true) := by
      intro j
      by_cases hj : j < len
      · obtain ⟨cs', hc, ht⟩ := hi j (by omega)
        obtain ⟨v, rfl, hs, hwi⟩ := val_cells ht
        obtain ⟨_, _, hat⟩ := World.cells?_some hc
        refine ⟨v, fun _ => ⟨?_, hat 1 (by omega), hat 2 (by omega), hat 3 (by omega), hs, hwi⟩⟩
        have := hat 0 (by omega)
        simpa [Addr.add] using this
      · exact ⟨default, fun h => absurd h hj⟩
    obtain ⟨f, hf⟩ : ∃ f : Nat → Vd, ∀ j, j < len → (W.cell? (x.add (j * 4)) = some (.int .i64 (f j).k) ∧ W.cell? ((x.add (j * 4)).add 1) = some (.int .i64 (f j).i) ∧ W.cell? ((x.add (j * 4)).add 2) = some (.string (f j).s) ∧ W.cell? ((x.add (j * 4)).add 3) = some (.bool (f j).b) ∧ (f j).s.size ≤ maxLen ∧ (Lit.int .i64 (f j).i).wf = true) :=
      ⟨fun j => (key j).choose, fun j hj => (key j).choose_spec hj⟩
    obtain ⟨g, off, spot⟩ := x
    have hc0 := (hf 0 (by omega)).1
    have hspot : spot = none := by simpa [Addr.add] using World.cell?_spot hc0
    subst hspot
    refine ⟨(List.range len).map f, .inr ⟨by omega, by simp, ⟨g, off, rfl, ⟨fun j hj => ?_, ?_⟩⟩, fun j hj => ?_⟩, fun j hj => ?_⟩
    · rw [List.length_map, List.length_range] at hj
      obtain ⟨k0, k1, k2, k3, _, _⟩ := hf j hj
      simp only [add_off] at k0 k1 k2 k3
      rw [getD_ofFn f j hj]
      exact ⟨k0, k1, k2, k3⟩
    · rw [add_off] at hc0
      exact cell_lt hc0
    · rw [List.length_map, List.length_range] at hj
      rw [getD_ofFn f j hj]
      exact (hf j hj).2.2.2.2.1
    · rw [List.length_map, List.length_range] at hj
      rw [getD_ofFn f j hj]
      exact (hf j hj).2.2.2.2.2
theorem open_vrow {H : Type} {enc : TypeId × Value → H} {W : World} {a : Option Addr} {len cap : Nat} {d : DataW H} {p : List MemPlace}
    (h : DataW.Trod enc Tryd.prog W 0 (fun _ => true) true 22 (.slice a len cap) d p) : ∃ L, IsVRow W a len L :=
  have ⟨L, h1, _⟩ := open_vrowB h
  ⟨L, h1⟩
end Go.Proofs.YtppplkfidjjodaaDoor
