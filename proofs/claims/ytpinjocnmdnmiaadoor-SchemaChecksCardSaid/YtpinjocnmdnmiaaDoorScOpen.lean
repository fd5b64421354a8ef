/- A list of declarations that comes in, opened. -/
import Derived.Test.YtpinjocnmdnmiaaDoorScDecl
import Derived.Deep.Slices
import Derived.ChangeSlices
import Derived.ChangeAt
import Derived.ChangeSame
import Derived.OpenShut
namespace Go.Proofs.YtpinjocnmdnmiaaDoor
open Go.ChangeShapes Go.WideShapes Go.ChangeAt Go.RowKit Go.Deep
set_option linter.unusedVariables false

theorem sc_cells1 : Tryd.prog.cellsOf 9 = 1 := by kernel_rfl
theorem sc_cells2 : Tryd.prog.cellsOf 34 = 1 := by kernel_rfl
theorem sc_cellsD : Tryd.prog.cellsOf 36 = 2 := by kernel_rfl
theorem sc_add (g off n : Nat) : (⟨g, off, none⟩ : Addr).add n = ⟨g, off + n, none⟩ := by unfold Addr.add; split <;> simp_all
set_option maxRecDepth 100000 in
theorem open_kinds {H : Type} {enc : TypeId × Value → H} {W : World} {fuel : Nat} {cs : List Value} {x : DataW H × List MemPlace}
    (h : DataW.trod enc Tryd.prog W 0 (fun _ => true) true fuel 34 cs = some x) : ∃ b V c, cs = [.slice b V.length c] ∧ KIn W b V.length V := by
  rcases open_ints Tryd.underlying34 Tryd.underlying3 (by kernel_rfl) h with ⟨hcs, _⟩ | ⟨ad, l, c, zs, hcs, _, hl, hm, hz, _, hcell, _⟩
  · exact ⟨none, [], 0, hcs, rfl, by simp, fun n hn => by simp at hn⟩
  · simp only [if_true] at hz
    have hlen : (zs.take l).length = l := by rw [List.length_take]; omega
    refine ⟨some ad, zs.take l, c, by rw [hlen]; exact hcs, rfl, by rw [hlen]; unfold maxLen at hm; omega, fun n hn => ?_⟩
    rw [hlen] at hn
    obtain ⟨g, off, spot⟩ := ad
    have hc0 := hcell 0 (by omega)
    have hspot : spot = none := by simpa [Addr.add] using World.cell?_spot hc0
    subst hspot
    have hcn := hcell n (by omega)
    rw [sc_add] at hcn
    refine ⟨g, off, rfl, block_lt_of_cell hcn, ?_⟩
    rw [hcn]
    simp [List.getD, hn]
theorem two_ofD {α : Type} : ∀ {l : List α}, l.length = 2 → ∃ a b, l = [a, b]
  | [a, b], _ => ⟨a, b, rfl⟩
set_option maxRecDepth 100000 in
theorem open_decl {H : Type} {enc : TypeId × Value → H} {W : World} {fuel : Nat} {cs : List Value} {x : DataW H × List MemPlace}
    (h : DataW.trod enc Tryd.prog W 0 (fun _ => true) true fuel 36 cs = some x) : ∃ (y : ByteArray) (b : Option Addr) (V : List Int) (c : Nat), cs = [.string y, .slice b V.length c] ∧ KIn W b V.length V ∧ y.size ≤ 9223372036854775807 := by
  obtain ⟨y0, y1, n, hx, hlen, h0, h1⟩ := trod_struct2 Tryd.underlying36 h
  rw [sc_cellsD] at hlen
  obtain ⟨u, v, rfl⟩ := two_ofD hlen
  simp [sc_cells1, sc_cells2] at h0 h1
  obtain ⟨s, e0, _, hs⟩ := DataW.trod_string Tryd.underlying9 h0
  obtain ⟨b, V, c, e1, hk⟩ := open_kinds h1
  simp at e0 e1
  exact ⟨s, b, V, c, by rw [e0, e1], hk, by unfold maxLen at hs; omega⟩
set_option maxRecDepth 100000 in
theorem open_din {H : Type} {enc : TypeId × Value → H} {W : World} {a : Option Addr} {len cap : Nat} {d : DataW H} {p : List MemPlace}
    (h : DataW.Trod enc Tryd.prog W 0 (fun _ => true) true 26 (.slice a len cap) d p) : ∃ L, DIn W a len L ∧ len ≤ cap ∧ cap ≤ 9223372036854775807 := by
  obtain ⟨fuel, hf⟩ := h
  rcases open_slice Tryd.underlying26 hf with ⟨hcs, _⟩ | ⟨x, l, c, m, n, D, Pl, hcs, _, hl, hm, hmm, _, hi⟩
  · simp [Value.cells] at hcs
    obtain ⟨rfl, rfl, rfl⟩ := hcs
    exact ⟨[], ⟨rfl, by omega, fun n hn => by omega⟩, by omega, by omega⟩
  · simp [Value.cells] at hcs
    obtain ⟨rfl, rfl, rfl⟩ := hcs
    simp only [if_true] at hmm
    subst hmm
    rw [sc_cellsD] at hi
    have key : ∀ j, ∃ z : (ByteArray × List Int) × Option Addr × Nat, j < len → (W.cell? ((x.add (j * 2)).add 0) = some (.string z.1.1) ∧ W.cell? ((x.add (j * 2)).add 1) = some (.slice z.2.1 z.1.2.length z.2.2) ∧ KIn W z.2.1 z.1.2.length z.1.2 ∧ z.1.1.size ≤ 9223372036854775807) := by
      intro j
      by_cases hj : j < len
      · obtain ⟨cs', hc, ht⟩ := hi j (by omega)
        obtain ⟨y, b, V, c, rfl, hk, hs⟩ := open_decl ht
        obtain ⟨_, _, hat⟩ := World.cells?_some hc
        exact ⟨((y, V), b, c), fun _ => ⟨hat 0 (by omega), hat 1 (by omega), hk, hs⟩⟩
      · exact ⟨((⟨#[]⟩, []), none, 0), fun h => absurd h hj⟩
    obtain ⟨f, hf⟩ : ∃ f : Nat → (ByteArray × List Int) × Option Addr × Nat, ∀ j, j < len → (W.cell? ((x.add (j * 2)).add 0) = some (.string (f j).1.1) ∧ W.cell? ((x.add (j * 2)).add 1) = some (.slice (f j).2.1 (f j).1.2.length (f j).2.2) ∧ KIn W (f j).2.1 (f j).1.2.length (f j).1.2 ∧ (f j).1.1.size ≤ 9223372036854775807) :=
      ⟨fun j => (key j).choose, fun j hj => (key j).choose_spec hj⟩
    refine ⟨(List.range len).map (fun j => (f j).1), ⟨by simp, by unfold maxLen at hm; omega, fun n hn => ?_⟩, hl, by unfold maxLen at hm; omega⟩
    obtain ⟨g, off, spot⟩ := x
    have hc0 := (hf 0 (by omega)).1
    have hspot : spot = none := by simpa [Addr.add] using World.cell?_spot hc0
    subst hspot
    obtain ⟨h1, h2, h3, h4⟩ := hf n hn
    simp only [sc_add, Nat.add_zero] at h1 h2
    have e : ((List.range len).map (fun j => (f j).1)).getD n default = (f n).1 := by simp [List.getD, hn]
    rw [nmAt, ksAt, e]
    exact ⟨g, off, (f n).2.1, (f n).2.2, rfl, block_lt_of_cell h1, h1, h2, h3, h4⟩
end Go.Proofs.YtpinjocnmdnmiaaDoor
