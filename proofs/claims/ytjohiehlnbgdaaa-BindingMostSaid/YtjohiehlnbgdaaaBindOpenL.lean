/- A list of lists of slots that comes in, opened. -/
import Derived.Test.YtjohiehlnbgdaaaBindOpen
import Derived.Test.YtjohiehlnbgdaaaSlotList
namespace Go.Proofs.Ytjohiehlnbgdaaa
open Go.ChangeShapes Go.WideShapes Go.ChangeAt Go.RowKit Go.Joins Go.Deep
set_option linter.unusedVariables false

theorem cellsSlots : Try.prog.cellsOf 22 = 1 := by kernel_rfl
set_option maxRecDepth 100000 in
theorem open_inner {H : Type} {enc : TypeId × Value → H} {W : World} {fuel : Nat} {cs : List Value} {x : DataW H × List MemPlace}
    (h : DataW.trod enc Try.prog W 0 (fun _ => true) true fuel 22 cs = some x) : ∃ a L c, cs = [.slice a L.length c] ∧ SIn W a L.length L := by
  have hcs : ∃ a l c, cs = [.slice a l c] := by
    rcases open_slice Try.underlying22 h with ⟨hcs, _⟩ | ⟨x, l, c, m, n, D, Pl, hcs, _⟩
    · exact ⟨_, _, _, hcs⟩
    · exact ⟨_, _, _, hcs⟩
  obtain ⟨a, l, c, rfl⟩ := hcs
  obtain ⟨d, p⟩ := x
  obtain ⟨L, hs, _⟩ := open_sin (a := a) (len := l) (cap := c) ⟨fuel, h⟩
  have := hs.leng
  subst this
  exact ⟨a, L, c, rfl, hs⟩
set_option maxRecDepth 100000 in
theorem open_lin {H : Type} {enc : TypeId × Value → H} {W : World} {a : Option Addr} {len cap : Nat} {d : DataW H} {p : List MemPlace}
    (h : DataW.Trod enc Try.prog W 0 (fun _ => true) true 36 (.slice a len cap) d p) : ∃ LL, (∃ vs, LIn W a len LL vs) ∧ len ≤ cap ∧ cap ≤ 9223372036854775807 := by
  obtain ⟨fuel, hf⟩ := h
  rcases open_slice Try.underlying36 hf with ⟨hcs, _⟩ | ⟨x, l, c, m, n, D, Pl, hcs, _, hl, hm, hmm, _, hi⟩
  · simp [Value.cells] at hcs
    obtain ⟨rfl, rfl, rfl⟩ := hcs
    exact ⟨[], ⟨[], LIn.none'⟩, by omega, by omega⟩
  · simp [Value.cells] at hcs
    obtain ⟨rfl, rfl, rfl⟩ := hcs
    simp only [if_true] at hmm
    subst hmm
    rw [cellsSlots] at hi
    have key : ∀ j, ∃ z : Option Addr × Nat × List Sd, j < len → (SIn W z.1 z.2.2.length z.2.2 ∧ W.cell? (x.add j) = some (.slice z.1 z.2.2.length z.2.1)) := by
      intro j
      by_cases hj : j < len
      · obtain ⟨cs', hc, ht⟩ := hi j (by omega)
        obtain ⟨b, L, c, e, hs⟩ := open_inner ht
        obtain ⟨_, _, hat⟩ := World.cells?_some hc
        refine ⟨(b, c, L), fun _ => ⟨hs, ?_⟩⟩
        have h0 := hat 0 (by omega)
        rw [Nat.mul_one] at h0
        have ea : (x.add j).add 0 = x.add j := by unfold Addr.add; split <;> split <;> simp_all
        rw [ea] at h0
        rw [h0]
        have : cs'[0]? = some (.slice b L.length c) := by
          rw [e]; rfl
        exact this
      · exact ⟨default, fun h => absurd h hj⟩
    obtain ⟨f, hf⟩ : ∃ f : Nat → Option Addr × Nat × List Sd, ∀ j, j < len → (SIn W (f j).1 (f j).2.2.length (f j).2.2 ∧ W.cell? (x.add j) = some (.slice (f j).1 (f j).2.2.length (f j).2.1)) :=
      ⟨fun j => (key j).choose, fun j hj => (key j).choose_spec hj⟩
    refine ⟨(List.range len).map (fun j => (f j).2.2), ⟨(List.range len).map (fun j => .slice (f j).1 (f j).2.2.length (f j).2.1), ⟨⟨by simp, fun n hn => ?_⟩, by simp, by unfold maxLen at hm; omega, fun h0 => ?_⟩⟩, hl, by unfold maxLen at hm; omega⟩
    · simp only [List.length_map, List.length_range] at hn
      have e : ((List.range len).map (fun j => (f j).2.2)).getD n [] = (f n).2.2 := by simp [List.getD, hn]
      rw [e]
      exact ⟨(f n).1, (f n).2.1, by simp [hn], (hf n hn).1⟩
    · obtain ⟨g, off, spot⟩ := x
      have hc0 := (hf 0 h0).2
      have hspot : spot = none := by simpa [Addr.add] using World.cell?_spot hc0
      subst hspot
      simp only [add_offS] at hf hc0
      refine ⟨g, off, rfl, cell_ltS hc0, fun j u hj => ?_⟩
      have hjl : j < len := by
        have := (List.getElem?_eq_some_iff.1 hj).1
        simpa using this
      simp [hjl] at hj
      rw [← hj]
      exact (hf j hjl).2
end Go.Proofs.Ytjohiehlnbgdaaa
