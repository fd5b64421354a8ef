/- A list of slots that comes in, opened. -/
import Derived.Test.YtjohiehlnbgdaaaDoorSlotGet
import Derived.Test.YtjohiehlnbgdaaaDoorLowVal
import Derived.Deep.Slices
import Derived.Deep.Fields
import Derived.ChangeSame
import Derived.OpenShut
namespace Go.Proofs.YtjohiehlnbgdaaaDoor
open Go.ChangeShapes Go.WideShapes Go.ChangeAt Go.RowKit Go.Joins Go.Deep
set_option linter.unusedVariables false

theorem cellsSlot : Tryd.prog.cellsOf 36 = 5 := by kernel_rfl
section
variable {H : Type} {enc : TypeId × Value → H} {w : World} {base : Nat} {spare : Nat → Bool} {held : Bool}
theorem four_ofS {α : Type} : ∀ {l : List α}, l.length = 4 → ∃ a b c d, l = [a, b, c, d]
  | [a, b, c, d], _ => ⟨a, b, c, d, rfl⟩
theorem five_of {α : Type} : ∀ {l : List α}, l.length = 5 → ∃ a b c d e, l = [a, b, c, d, e]
  | [a, b, c, d, e], _ => ⟨a, b, c, d, e, rfl⟩
set_option maxRecDepth 100000 in
theorem val_cellsS {fuel : Nat} {cs : List Value} {x : DataW H × List MemPlace} (h : DataW.trod enc Tryd.prog w base spare held fuel 34 cs = some x) :
    ∃ v : Vd, cs = [.int .i64 v.k, .int .i64 v.i, .string v.s, .bool v.b] ∧ v.s.size ≤ maxLen ∧ (Lit.int .i64 v.i).wf = true := by
  obtain ⟨y0, y1, y2, y3, n, hx, hlen, h0, h1, h2, h3⟩ := trod_struct4 Tryd.underlying34 h
  rw [cellsVal] at hlen
  obtain ⟨a, b, c, d, rfl⟩ := four_ofS hlen
  have cI : Tryd.prog.cellsOf 3 = 1 := by kernel_rfl
  have cL : Tryd.prog.cellsOf 2 = 1 := by kernel_rfl
  have cS : Tryd.prog.cellsOf 9 = 1 := by kernel_rfl
  have cB : Tryd.prog.cellsOf 4 = 1 := by kernel_rfl
  simp [cI, cL, cS, cB] at h0 h1 h2 h3
  obtain ⟨k, e0, _, _⟩ := DataW.trod_int Tryd.underlying3 h0
  obtain ⟨i, e1, _, wi⟩ := DataW.trod_int Tryd.underlying2 h1
  obtain ⟨s, e2, _, ws⟩ := DataW.trod_string Tryd.underlying9 h2
  obtain ⟨q, e3, _⟩ := DataW.trod_bool Tryd.underlying4 h3
  simp at e0 e1 e2 e3
  exact ⟨⟨k, i, s, q⟩, by rw [e0, e1, e2, e3], ws, wi⟩
set_option maxRecDepth 100000 in
theorem slot_cells {fuel : Nat} {cs : List Value} {x : DataW H × List MemPlace} (h : DataW.trod enc Tryd.prog w base spare held fuel 36 cs = some x) :
    ∃ z : Sd, cs = encS z ∧ FitS z := by
  obtain ⟨y0, y1, n, hx, hlen, h0, h1⟩ := trod_struct2 Tryd.underlying36 h
  rw [cellsSlot] at hlen
  obtain ⟨a, b, c, d, e, rfl⟩ := five_of hlen
  have cI : Tryd.prog.cellsOf 3 = 1 := by kernel_rfl
  simp [cI, cellsVal] at h0 h1
  obtain ⟨k, e0, _, wk⟩ := DataW.trod_int Tryd.underlying3 h0
  obtain ⟨v, e1, ws, wi⟩ := val_cellsS h1
  simp at e0 e1
  obtain ⟨e1, e2, e3, e4⟩ := e1
  exact ⟨⟨k, v⟩, by rw [e0, e1, e2, e3, e4]; rfl, bounds_i64 wk, by unfold maxLen at ws; exact ws, bounds_i64 wi⟩
end
theorem add_offS (g off n : Nat) : (⟨g, off, none⟩ : Addr).add n = ⟨g, off + n, none⟩ := by
  unfold Addr.add; split <;> simp_all
theorem cell_ltS {w : World} {g o : Nat} {v : Value} (h : w.cell? ⟨g, o, none⟩ = some v) : g < w.heap.size := by
  rcases Nat.lt_or_ge g w.heap.size with h' | h'
  · exact h'
  · simp [World.cell?, Array.getElem?_eq_none h'] at h

set_option maxRecDepth 100000 in
theorem open_sin {H : Type} {enc : TypeId × Value → H} {W : World} {a : Option Addr} {len cap : Nat} {d : DataW H} {p : List MemPlace}
    (h : DataW.Trod enc Tryd.prog W 0 (fun _ => true) true 22 (.slice a len cap) d p) : ∃ L, SIn W a len L ∧ len ≤ cap ∧ cap ≤ 9223372036854775807 := by
  obtain ⟨fuel, hf⟩ := h
  rcases open_slice Tryd.underlying22 hf with ⟨hcs, _⟩ | ⟨x, l, c, m, n, D, Pl, hcs, _, hl, hm, hmm, _, hi⟩
  · simp [Value.cells] at hcs
    obtain ⟨rfl, rfl, rfl⟩ := hcs
    exact ⟨[], SIn.none', by omega, by omega⟩
  · simp [Value.cells] at hcs
    obtain ⟨rfl, rfl, rfl⟩ := hcs
    simp only [if_true] at hmm
    subst hmm
    rw [cellsSlot] at hi
    have key : ∀ j, ∃ z : Sd, j < len → (FitS z ∧ ∀ i v, (encS z)[i]? = some v → W.cell? ((x.add (j * 5)).add i) = some v) := by
      intro j
      by_cases hj : j < len
      · obtain ⟨cs', hc, ht⟩ := hi j (by omega)
        obtain ⟨z, rfl, hfz⟩ := slot_cells ht
        obtain ⟨_, _, hat⟩ := World.cells?_some hc
        refine ⟨z, fun _ => ⟨hfz, fun i v hv => ?_⟩⟩
        have hi5 := (List.getElem?_eq_some_iff.1 hv).1
        rw [encS_len] at hi5
        rw [hat i hi5]
        simpa using hv
      · exact ⟨default, fun h => absurd h hj⟩
    obtain ⟨f, hf⟩ : ∃ f : Nat → Sd, ∀ j, j < len → (FitS (f j) ∧ ∀ i v, (encS (f j))[i]? = some v → W.cell? ((x.add (j * 5)).add i) = some v) :=
      ⟨fun j => (key j).choose, fun j hj => (key j).choose_spec hj⟩
    refine ⟨(List.range len).map f, ⟨by simp, by unfold maxLen at hm; omega, fun h0 => ?_, fun z hz => ?_⟩, hl, by unfold maxLen at hm; omega⟩
    · obtain ⟨g, off, spot⟩ := x
      have hc0 := (hf 0 h0).2 0 _ rfl
      have hspot : spot = none := by simpa [Addr.add] using World.cell?_spot hc0
      subst hspot
      simp only [add_offS] at hf hc0
      refine ⟨g, off, rfl, cell_ltS hc0, fun n hn => ?_⟩
      have e : ((List.range len).map f).getD n default = f n := by simp [List.getD, hn]
      rw [e]
      exact LiesS.of_enc (fun i v hv => (hf n hn).2 i v hv)
    · simp only [List.mem_map, List.mem_range] at hz
      obtain ⟨j, hj, rfl⟩ := hz
      exact (hf j hj).1
end Go.Proofs.YtjohiehlnbgdaaaDoor
