/- A list of lists of texts that comes in, opened; and how much it holds. -/
import Derived.Test.YtkihjfdpfglkbaaDoorCsvBackMath
import Derived.Deep.Strs
import Derived.Deep.Slices
import Derived.ChangeSlices
import Derived.ChangeAt
import Derived.OpenShut
namespace Go.Proofs.YtkihjfdpfglkbaaDoor
open Go.ChangeShapes Go.WideShapes Go.ChangeAt Go.RowKit Go.Deep
set_option linter.unusedVariables false

theorem cs_cells1 : Tryd.prog.cellsOf 9 = 1 := by kernel_rfl
theorem cs_cells2 : Tryd.prog.cellsOf 32 = 1 := by kernel_rfl
theorem bulk_lits {H : Type} : ∀ M : List (List UInt8), Rows.uptoBulkAll (M.map fun t => (.lit (.string t) : DataW H)) = bulkF M
  | [] => by simp [Rows.uptoBulkAll, bulkF]
  | t :: M => by
    rw [List.map_cons, Rows.uptoBulkAll, bulk_lits M, bulkF]
    simp [Rows.uptoBulk]
theorem bulk_rows {H : Type} (g : Nat → List (List UInt8)) (D : Nat → DataW H) : ∀ M : List Nat, (∀ j ∈ M, bulkF (g j) ≤ Rows.uptoBulk (D j)) → bulkT (M.map g) ≤ Rows.uptoBulkAll (M.map D)
  | [], _ => by simp [bulkT]
  | j :: M, h => by
    have h1 := h j (by simp)
    have h2 := bulk_rows g D M (fun i hi => h i (by simp [hi]))
    rw [List.map_cons, List.map_cons, bulkT, Rows.uptoBulkAll]
    omega
theorem cs_addr {g off : Nat} {spot : Option Nat} {j : Nat} (h : spot = none) : (⟨g, off, none⟩ : Addr).add j = ⟨g, off + j, none⟩ := by unfold Addr.add; split <;> simp_all
set_option maxRecDepth 100000 in
theorem open_texts {H : Type} {enc : TypeId × Value → H} {W : World} {fuel : Nat} {v : Value} {d : DataW H} {p : List MemPlace}
    (h : DataW.trod enc Tryd.prog W 0 (fun _ => true) true fuel 32 [v] = some (d, p)) : ∃ a L c, v = .slice a L.length c ∧ TIn W a L.length L ∧ bulkF L ≤ Rows.uptoBulk d := by
  rcases open_strs Tryd.underlying32 Tryd.underlying9 cs_cells1 h with ⟨hcs, hx⟩ | ⟨x, l, c, m, S, hcs, _, hl, hm, hmm, hx, hi⟩
  · simp at hcs
    exact ⟨none, [], 0, hcs, TIn.nil, by simp [bulkF]⟩
  · simp only [List.cons.injEq, and_true] at hcs
    simp only [if_true] at hmm
    subst hmm
    simp only [Prod.mk.injEq] at hx
    obtain ⟨hd, _⟩ := hx
    have hlen : ((List.range l).map fun i => (S i).data.toList).length = l := by simp
    refine ⟨some x, (List.range l).map (fun i => (S i).data.toList), m, by rw [hlen]; exact hcs, ⟨rfl, by rw [hlen]; unfold maxLen at hm; omega, fun h0 => ?_⟩, ?_⟩
    · rw [hlen] at h0
      obtain ⟨g, off, spot⟩ := x
      have hc0 := (hi 0 (by omega)).1
      have hspot : spot = none := by simpa [Addr.add] using World.cell?_spot hc0
      subst hspot
      refine ⟨g, off, rfl, ?_, fun j t hj => ?_⟩
      · rw [cs_addr (spot := none) rfl] at hc0
        exact block_lt_of_cell hc0
      · have hjl : j < l := by
          have := (List.getElem?_eq_some_iff.1 hj).1
          simpa using this
        have e : t = (S j).data.toList := by
          simp [hjl] at hj
          exact hj.symm
        have hcj := (hi j (by omega)).1
        rw [cs_addr (spot := none) rfl] at hcj
        rw [e]
        exact hcj
    · subst hd
      rw [← bulk_lits (H := H)]
      simp only [Rows.uptoBulk, List.map_map]
      have : (List.map ((fun t => (DataW.lit (Lit.string t) : DataW H)) ∘ fun i => (S i).data.toList) (List.range l)) = (List.range l).map (fun i => (.lit (.string (S i).data.toList) : DataW H)) := rfl
      rw [this]
      omega
set_option maxRecDepth 100000 in
theorem open_ain {H : Type} {enc : TypeId × Value → H} {W : World} {a : Option Addr} {len cap : Nat} {d : DataW H} {p : List MemPlace}
    (h : DataW.Trod enc Tryd.prog W 0 (fun _ => true) true 23 (.slice a len cap) d p) : ∃ LL, AIn W a len LL ∧ bulkT LL ≤ Rows.uptoBulk d := by
  obtain ⟨fuel, hf0⟩ := h
  rcases open_slice1 Tryd.underlying23 cs_cells2 hf0 with ⟨hcs, hx⟩ | ⟨x, l, c, m, n, V, D, Pl, hcs, _, hl, hm, hmm, hx, hi⟩
  · simp [Value.cells] at hcs
    obtain ⟨rfl, rfl, rfl⟩ := hcs
    exact ⟨[], ⟨rfl, by omega, fun n hn => by omega⟩, by simp [bulkT]⟩
  · simp [Value.cells] at hcs
    obtain ⟨rfl, rfl, rfl⟩ := hcs
    simp only [if_true] at hmm
    subst hmm
    simp only [Prod.mk.injEq] at hx
    obtain ⟨hd, _⟩ := hx
    have key : ∀ j, ∃ z : Option Addr × Nat × List (List UInt8), j < len → (V j = .slice z.1 z.2.2.length z.2.1 ∧ TIn W z.1 z.2.2.length z.2.2 ∧ bulkF z.2.2 ≤ Rows.uptoBulk (D j)) := by
      intro j
      by_cases hj : j < len
      · obtain ⟨b, L, c', h1, h2, h3⟩ := open_texts (hi j (by omega)).2
        exact ⟨(b, c', L), fun _ => ⟨h1, h2, h3⟩⟩
      · exact ⟨(none, 0, []), fun h => absurd h hj⟩
    obtain ⟨f, hf⟩ : ∃ f : Nat → Option Addr × Nat × List (List UInt8), ∀ j, j < len → (V j = .slice (f j).1 (f j).2.2.length (f j).2.1 ∧ TIn W (f j).1 (f j).2.2.length (f j).2.2 ∧ bulkF (f j).2.2 ≤ Rows.uptoBulk (D j)) :=
      ⟨fun j => (key j).choose, fun j hj => (key j).choose_spec hj⟩
    refine ⟨(List.range len).map (fun j => (f j).2.2), ⟨by simp, by unfold maxLen at hm; omega, fun n hn => ?_⟩, ?_⟩
    · have e : ((List.range len).map (fun j => (f j).2.2)).getD n [] = (f n).2.2 := by simp [List.getD, hn]
      rw [e]
      have hc := (hi n (by omega)).1
      obtain ⟨g, off, spot⟩ := x
      have hc0 := (hi 0 (by omega)).1
      have hspot : spot = none := by simpa [Addr.add] using World.cell?_spot hc0
      subst hspot
      rw [cs_addr (spot := none) rfl, (hf n hn).1] at hc
      exact ⟨g, off, (f n).1, (f n).2.1, rfl, block_lt_of_cell hc, hc, (hf n hn).2.1⟩
    · have h1 := bulk_rows (fun j => (f j).2.2) D (List.range len) (fun j hj => (hf j (List.mem_range.1 hj)).2.2)
      subst hd
      simp only [Rows.uptoBulk]
      omega
end Go.Proofs.YtkihjfdpfglkbaaDoor
