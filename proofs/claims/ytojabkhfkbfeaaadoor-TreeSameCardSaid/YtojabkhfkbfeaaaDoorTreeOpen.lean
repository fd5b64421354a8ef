/- A tree that comes in, opened. -/
import Derived.Test.YtojabkhfkbfeaaaDoorTreeMem
import Derived.Deep.Slices
import Derived.ChangeSlices
import Derived.ChangeAt
import Derived.ChangeSame
import Derived.OpenShut
namespace Go.Proofs.YtojabkhfkbfeaaaDoor
open Go.ChangeShapes Go.WideShapes Go.ChangeAt Go.RowKit Go.Deep
set_option linter.unusedVariables false

theorem trod_field {H : Type} {enc : TypeId × Value → H} {W : World} {fuel : Nat} {t : TypeId} {fs : Array Field} {cs : List Value} {x : DataW H × List MemPlace} (ht : Tryd.prog.underlying t = some (.struct fs)) (h : DataW.trod enc Tryd.prog W 0 (fun _ => true) true fuel t cs = some x) {i : Nat} {f : Field} (hf : fs[i]? = some f) :
    ∃ n y, DataW.trod enc Tryd.prog W 0 (fun _ => true) true n f.type ((cs.drop f.offset).take (Tryd.prog.cellsOf f.type)) = some y := by
  obtain ⟨xs, n, _, _, _, hl, hx⟩ := DataW.trod_struct ht h
  have hi := (Array.getElem?_eq_some_iff.1 hf).1
  exact ⟨n, xs[i]'(by omega), (hx i f hf).trans (List.getElem?_eq_getElem (by omega))⟩
theorem trod_len {H : Type} {enc : TypeId × Value → H} {W : World} {fuel : Nat} {t : TypeId} {fs : Array Field} {cs : List Value} {x : DataW H × List MemPlace} (ht : Tryd.prog.underlying t = some (.struct fs)) (h : DataW.trod enc Tryd.prog W 0 (fun _ => true) true fuel t cs = some x) : cs.length = Tryd.prog.cellsOf t := by
  obtain ⟨xs, n, _, _, hl, _⟩ := DataW.trod_struct ht h
  exact hl
theorem tr_add (g off n : Nat) : (⟨g, off, none⟩ : Addr).add n = ⟨g, off + n, none⟩ := by unfold Addr.add; split <;> simp_all
/-- A list of things whose cells can be opened. -/
theorem open_gin {α : Type} {R : World → List Value → α → Prop} {S E T : TypeId} {k : Nat} {H : Type} {enc : TypeId × Value → H} {W : World} (hu : Tryd.prog.underlying S = some (.slice E)) (hk : Tryd.prog.cellsOf E = k) (h0 : 0 < k)
    (hR : ∀ fuel cs x, DataW.trod enc Tryd.prog W 0 (fun _ => true) true fuel E cs = some x → cs.length = k ∧ ∃ y, R W cs y) {fuel : Nat} {cs : List Value} {x : DataW H × List MemPlace} (h : DataW.trod enc Tryd.prog W 0 (fun _ => true) true fuel S cs = some x) :
    ∃ b L c, cs = [.slice b L.length c] ∧ GIn R T False k W b L.length L := by
  rcases open_slice hu h with ⟨hcs, _⟩ | ⟨a, len, cap, m, n, D, Pl, hcs, _, hl, hm, hmm, _, hi⟩
  · exact ⟨none, [], 0, hcs, GIn.nil⟩
  · simp only [if_true] at hmm
    rw [hk, hmm] at hi
    have key : ∀ m, m ≤ len → ∃ L : List α, L.length = m ∧ ∀ (n : Nat) (x : α), L[n]? = some x → ∃ cs, cs.length = k ∧ (∀ i v, cs[i]? = some v → W.cell? ((a.add (n * k)).add i) = some v) ∧ R W cs x := by
      intro m
      induction m with
      | zero => exact fun _ => ⟨[], rfl, fun n x h => by simp at h⟩
      | succ m ih =>
        intro hm2
        obtain ⟨L, hL, hx⟩ := ih (by omega)
        obtain ⟨cs', hc, ht⟩ := hi m (by omega)
        obtain ⟨hlen, y, hy⟩ := hR _ _ _ ht
        obtain ⟨_, _, hat⟩ := World.cells?_some hc
        refine ⟨L ++ [y], by simp [hL], fun n x hn => ?_⟩
        by_cases hlt : n < L.length
        · rw [List.getElem?_append_left hlt] at hn
          exact hx n x hn
        · have hn2 := (List.getElem?_eq_some_iff.1 hn).1
          simp at hn2
          have : n = m := by omega
          subst this
          rw [List.getElem?_append_right (by omega), hL, Nat.sub_self] at hn
          simp at hn
          subst hn
          exact ⟨cs', hlen, fun i v hv => (hat i (by have := (List.getElem?_eq_some_iff.1 hv).1; omega)).trans hv, hy⟩
    obtain ⟨L, hL, hx⟩ := key len (Nat.le_refl _)
    subst hL
    refine ⟨some a, L, cap, hcs, rfl, by unfold maxLen at hm; omega, fun n x hn => ?_⟩
    obtain ⟨cs', hlen, hc, hr⟩ := hx n x hn
    obtain ⟨v, hv⟩ : ∃ v, cs'[0]? = some v := ⟨cs'[0]'(by omega), List.getElem?_eq_getElem (by omega)⟩
    have hc0 := hc 0 v hv
    have hsp : ∃ g off, a = ⟨g, off, none⟩ := by
      obtain ⟨x0, hx0⟩ : ∃ x0, L[0]? = some x0 := ⟨L[0]'(by have := (List.getElem?_eq_some_iff.1 hn).1; omega), List.getElem?_eq_getElem _⟩
      obtain ⟨cs0, hlen0, hc0', _⟩ := hx 0 x0 hx0
      obtain ⟨v0, hv0⟩ : ∃ v, cs0[0]? = some v := ⟨cs0[0]'(by omega), List.getElem?_eq_getElem (by omega)⟩
      have h1 := hc0' 0 v0 hv0
      obtain ⟨g, off, spot⟩ := a
      have hspot : spot = none := by simpa [Addr.add] using World.cell?_spot h1
      exact ⟨g, off, by rw [hspot]⟩
    obtain ⟨g, off, rfl⟩ := hsp
    simp only [tr_add] at hc hc0
    exact ⟨g, off, cs', rfl, by unfold World.cell? at hc0; exact (by
      rcases Nat.lt_or_ge g W.heap.size with h' | h'
      · exact h'
      · simp [Array.getElem?_eq_none h'] at hc0), hlen, hc, hr, fun h => h.elim⟩
theorem of_len3 {α : Type} : ∀ {l : List α}, l.length = 3 → ∃ a0 a1 a2, l = [a0, a1, a2]
  | [a0, a1, a2], _ => ⟨a0, a1, a2, rfl⟩
theorem of_len4 {α : Type} : ∀ {l : List α}, l.length = 4 → ∃ a0 a1 a2 a3, l = [a0, a1, a2, a3]
  | [a0, a1, a2, a3], _ => ⟨a0, a1, a2, a3, rfl⟩
theorem of_len5 {α : Type} : ∀ {l : List α}, l.length = 5 → ∃ a0 a1 a2 a3 a4, l = [a0, a1, a2, a3, a4]
  | [a0, a1, a2, a3, a4], _ => ⟨a0, a1, a2, a3, a4, rfl⟩
theorem of_len7 {α : Type} : ∀ {l : List α}, l.length = 7 → ∃ a0 a1 a2 a3 a4 a5 a6, l = [a0, a1, a2, a3, a4, a5, a6]
  | [a0, a1, a2, a3, a4, a5, a6], _ => ⟨a0, a1, a2, a3, a4, a5, a6, rfl⟩
theorem of_len8 {α : Type} : ∀ {l : List α}, l.length = 8 → ∃ a0 a1 a2 a3 a4 a5 a6 a7, l = [a0, a1, a2, a3, a4, a5, a6, a7]
  | [a0, a1, a2, a3, a4, a5, a6, a7], _ => ⟨a0, a1, a2, a3, a4, a5, a6, a7, rfl⟩
theorem of_len10 {α : Type} : ∀ {l : List α}, l.length = 10 → ∃ a0 a1 a2 a3 a4 a5 a6 a7 a8 a9, l = [a0, a1, a2, a3, a4, a5, a6, a7, a8, a9]
  | [a0, a1, a2, a3, a4, a5, a6, a7, a8, a9], _ => ⟨a0, a1, a2, a3, a4, a5, a6, a7, a8, a9, rfl⟩
theorem of_len12 {α : Type} : ∀ {l : List α}, l.length = 12 → ∃ a0 a1 a2 a3 a4 a5 a6 a7 a8 a9 a10 a11, l = [a0, a1, a2, a3, a4, a5, a6, a7, a8, a9, a10, a11]
  | [a0, a1, a2, a3, a4, a5, a6, a7, a8, a9, a10, a11], _ => ⟨a0, a1, a2, a3, a4, a5, a6, a7, a8, a9, a10, a11, rfl⟩
theorem of_len13 {α : Type} : ∀ {l : List α}, l.length = 13 → ∃ a0 a1 a2 a3 a4 a5 a6 a7 a8 a9 a10 a11 a12, l = [a0, a1, a2, a3, a4, a5, a6, a7, a8, a9, a10, a11, a12]
  | [a0, a1, a2, a3, a4, a5, a6, a7, a8, a9, a10, a11, a12], _ => ⟨a0, a1, a2, a3, a4, a5, a6, a7, a8, a9, a10, a11, a12, rfl⟩
theorem tc_str : Tryd.prog.cellsOf 9 = 1 := by kernel_rfl
theorem tc_int : Tryd.prog.cellsOf 3 = 1 := by kernel_rfl
theorem tc_i64 : Tryd.prog.cellsOf 2 = 1 := by kernel_rfl
theorem tc_bool : Tryd.prog.cellsOf 4 = 1 := by kernel_rfl
theorem tc_Id : Tryd.prog.cellsOf 23 = 3 := by kernel_rfl
theorem tc_V : Tryd.prog.cellsOf 39 = 4 := by kernel_rfl
theorem tc_Ag : Tryd.prog.cellsOf 67 = 8 := by kernel_rfl
theorem tc_Ex : Tryd.prog.cellsOf 51 = 10 := by kernel_rfl
theorem tc_Se : Tryd.prog.cellsOf 75 = 4 := by kernel_rfl
theorem tc_Qu : Tryd.prog.cellsOf 57 = 5 := by kernel_rfl
theorem tc_Fr : Tryd.prog.cellsOf 41 = 7 := by kernel_rfl
theorem tc_Sta : Tryd.prog.cellsOf 61 = 5 := by kernel_rfl
theorem tc_De : Tryd.prog.cellsOf 37 = 4 := by kernel_rfl
theorem tc_Sy : Tryd.prog.cellsOf 45 = 4 := by kernel_rfl
theorem tc_Ts : Tryd.prog.cellsOf 49 = 13 := by kernel_rfl
theorem tc_Tr : Tryd.prog.cellsOf 31 = 12 := by kernel_rfl
theorem tc_lint : Tryd.prog.cellsOf 35 = 1 := by kernel_rfl
theorem tc_lAg : Tryd.prog.cellsOf 43 = 1 := by kernel_rfl
theorem tc_lEx : Tryd.prog.cellsOf 46 = 1 := by kernel_rfl
theorem tc_lSe : Tryd.prog.cellsOf 47 = 1 := by kernel_rfl
theorem tc_lQu : Tryd.prog.cellsOf 25 = 1 := by kernel_rfl
theorem tc_lFr : Tryd.prog.cellsOf 26 = 1 := by kernel_rfl
theorem tc_lSta : Tryd.prog.cellsOf 27 = 1 := by kernel_rfl
theorem tc_lDe : Tryd.prog.cellsOf 24 = 1 := by kernel_rfl
theorem tc_lSy : Tryd.prog.cellsOf 28 = 1 := by kernel_rfl
theorem tc_lTs : Tryd.prog.cellsOf 29 = 1 := by kernel_rfl
set_option maxRecDepth 100000 in
theorem open_Id0 {H : Type} {enc : TypeId × Value → H} {W : World} {fuel : Nat} {cs : List Value} {x : DataW H × List MemPlace} (h : DataW.trod enc Tryd.prog W 0 (fun _ => true) true fuel 23 cs = some x) : cs.length = 3 ∧ ∃ y : Id3, cs = idC y ∧ okS y.t := by
  obtain ⟨n0, y0, h0⟩ := trod_field Tryd.underlying23 h (i := 0) rfl
  obtain ⟨n1, y1, h1⟩ := trod_field Tryd.underlying23 h (i := 1) rfl
  obtain ⟨n2, y2, h2⟩ := trod_field Tryd.underlying23 h (i := 2) rfl
  have hl := trod_len Tryd.underlying23 h
  rw [tc_Id] at hl
  obtain ⟨a0, a1, a2, rfl⟩ := of_len3 hl
  simp [tc_str] at h0
  simp [tc_int] at h1
  simp [tc_int] at h2
  obtain ⟨s0, e0, _, z0⟩ := DataW.trod_string Tryd.underlying9 h0
  obtain ⟨i1, e1, _, z1⟩ := DataW.trod_int Tryd.underlying3 h1
  obtain ⟨i2, e2, _, z2⟩ := DataW.trod_int Tryd.underlying3 h2
  simp [List.cons.injEq] at e0 e1 e2
  exact ⟨rfl, ⟨s0, i1, i2⟩, by simp [idC, *], by unfold okS; unfold maxLen at z0; omega⟩
set_option maxRecDepth 100000 in
theorem open_V0 {H : Type} {enc : TypeId × Value → H} {W : World} {fuel : Nat} {cs : List Value} {x : DataW H × List MemPlace} (h : DataW.trod enc Tryd.prog W 0 (fun _ => true) true fuel 39 cs = some x) : cs.length = 4 ∧ ∃ y : Vd, cs = vC y ∧ okV y := by
  obtain ⟨n0, y0, h0⟩ := trod_field Tryd.underlying39 h (i := 0) rfl
  obtain ⟨n1, y1, h1⟩ := trod_field Tryd.underlying39 h (i := 1) rfl
  obtain ⟨n2, y2, h2⟩ := trod_field Tryd.underlying39 h (i := 2) rfl
  obtain ⟨n3, y3, h3⟩ := trod_field Tryd.underlying39 h (i := 3) rfl
  have hl := trod_len Tryd.underlying39 h
  rw [tc_V] at hl
  obtain ⟨a0, a1, a2, a3, rfl⟩ := of_len4 hl
  simp [tc_int] at h0
  simp [tc_i64] at h1
  simp [tc_str] at h2
  simp [tc_bool] at h3
  obtain ⟨i0, e0, _, z0⟩ := DataW.trod_int Tryd.underlying3 h0
  obtain ⟨i1, e1, _, z1⟩ := DataW.trod_int Tryd.underlying2 h1
  obtain ⟨s2, e2, _, z2⟩ := DataW.trod_string Tryd.underlying9 h2
  obtain ⟨b3, e3, _⟩ := DataW.trod_bool Tryd.underlying4 h3
  simp [List.cons.injEq] at e0 e1 e2 e3
  exact ⟨rfl, ⟨i0, i1, s2, b3⟩, by simp [vC, *], by unfold okS; unfold maxLen at z2; omega, bounds_i64 z1⟩
set_option maxRecDepth 100000 in
theorem open_Ag0 {H : Type} {enc : TypeId × Value → H} {W : World} {fuel : Nat} {cs : List Value} {x : DataW H × List MemPlace} (h : DataW.trod enc Tryd.prog W 0 (fun _ => true) true fuel 67 cs = some x) : cs.length = 8 ∧ ∃ y : Ag, rAg W cs y := by
  obtain ⟨n0, y0, h0⟩ := trod_field Tryd.underlying67 h (i := 0) rfl
  obtain ⟨n1, y1, h1⟩ := trod_field Tryd.underlying67 h (i := 1) rfl
  obtain ⟨n2, y2, h2⟩ := trod_field Tryd.underlying67 h (i := 2) rfl
  obtain ⟨n3, y3, h3⟩ := trod_field Tryd.underlying67 h (i := 3) rfl
  obtain ⟨n4, y4, h4⟩ := trod_field Tryd.underlying67 h (i := 4) rfl
  have hl := trod_len Tryd.underlying67 h
  rw [tc_Ag] at hl
  obtain ⟨a0, a1, a2, a3, a4, a5, a6, a7, rfl⟩ := of_len8 hl
  simp [tc_int] at h0
  simp [tc_str] at h1
  simp [tc_V] at h2
  simp [tc_int] at h3
  simp [tc_int] at h4
  obtain ⟨i0, e0, _, z0⟩ := DataW.trod_int Tryd.underlying3 h0
  obtain ⟨s1, e1, _, z1⟩ := DataW.trod_string Tryd.underlying9 h1
  obtain ⟨_, v2, e2, z2⟩ := open_V0 h2
  obtain ⟨i3, e3, _, z3⟩ := DataW.trod_int Tryd.underlying3 h3
  obtain ⟨i4, e4, _, z4⟩ := DataW.trod_int Tryd.underlying3 h4
  simp [vC] at e0 e1 e2 e3 e4
  exact ⟨rfl, ⟨i0, s1, v2, i3, i4⟩, by simp [agC, *], by unfold okS; unfold maxLen at z1; omega, z2⟩
set_option maxRecDepth 100000 in
theorem open_Ex0 {H : Type} {enc : TypeId × Value → H} {W : World} {fuel : Nat} {cs : List Value} {x : DataW H × List MemPlace} (h : DataW.trod enc Tryd.prog W 0 (fun _ => true) true fuel 51 cs = some x) : cs.length = 10 ∧ ∃ y : Ex, rEx W cs y := by
  obtain ⟨n0, y0, h0⟩ := trod_field Tryd.underlying51 h (i := 0) rfl
  obtain ⟨n1, y1, h1⟩ := trod_field Tryd.underlying51 h (i := 1) rfl
  obtain ⟨n2, y2, h2⟩ := trod_field Tryd.underlying51 h (i := 2) rfl
  obtain ⟨n3, y3, h3⟩ := trod_field Tryd.underlying51 h (i := 3) rfl
  obtain ⟨n4, y4, h4⟩ := trod_field Tryd.underlying51 h (i := 4) rfl
  obtain ⟨n5, y5, h5⟩ := trod_field Tryd.underlying51 h (i := 5) rfl
  obtain ⟨n6, y6, h6⟩ := trod_field Tryd.underlying51 h (i := 6) rfl
  have hl := trod_len Tryd.underlying51 h
  rw [tc_Ex] at hl
  obtain ⟨a0, a1, a2, a3, a4, a5, a6, a7, a8, a9, rfl⟩ := of_len10 hl
  simp [tc_int] at h0
  simp [tc_int] at h1
  simp [tc_int] at h2
  simp [tc_str] at h3
  simp [tc_V] at h4
  simp [tc_int] at h5
  simp [tc_int] at h6
  obtain ⟨i0, e0, _, z0⟩ := DataW.trod_int Tryd.underlying3 h0
  obtain ⟨i1, e1, _, z1⟩ := DataW.trod_int Tryd.underlying3 h1
  obtain ⟨i2, e2, _, z2⟩ := DataW.trod_int Tryd.underlying3 h2
  obtain ⟨s3, e3, _, z3⟩ := DataW.trod_string Tryd.underlying9 h3
  obtain ⟨_, v4, e4, z4⟩ := open_V0 h4
  obtain ⟨i5, e5, _, z5⟩ := DataW.trod_int Tryd.underlying3 h5
  obtain ⟨i6, e6, _, z6⟩ := DataW.trod_int Tryd.underlying3 h6
  simp [vC] at e0 e1 e2 e3 e4 e5 e6
  exact ⟨rfl, ⟨i0, i1, i2, s3, v4, i5, i6⟩, by simp [exC, *], by unfold okS; unfold maxLen at z3; omega, z4⟩
set_option maxRecDepth 100000 in
theorem open_Se0 {H : Type} {enc : TypeId × Value → H} {W : World} {fuel : Nat} {cs : List Value} {x : DataW H × List MemPlace} (h : DataW.trod enc Tryd.prog W 0 (fun _ => true) true fuel 75 cs = some x) : cs.length = 4 ∧ ∃ y : Se, rSe W cs y := by
  obtain ⟨n0, y0, h0⟩ := trod_field Tryd.underlying75 h (i := 0) rfl
  obtain ⟨n1, y1, h1⟩ := trod_field Tryd.underlying75 h (i := 1) rfl
  have hl := trod_len Tryd.underlying75 h
  rw [tc_Se] at hl
  obtain ⟨a0, a1, a2, a3, rfl⟩ := of_len4 hl
  simp [tc_Id] at h0
  simp [tc_int] at h1
  obtain ⟨_, x0, e0, z0⟩ := open_Id0 h0
  obtain ⟨i1, e1, _, z1⟩ := DataW.trod_int Tryd.underlying3 h1
  simp [idC] at e0 e1
  exact ⟨rfl, ⟨x0, i1⟩, by simp [seC, *], z0⟩
set_option maxRecDepth 100000 in
theorem open_Qu0 {H : Type} {enc : TypeId × Value → H} {W : World} {fuel : Nat} {cs : List Value} {x : DataW H × List MemPlace} (h : DataW.trod enc Tryd.prog W 0 (fun _ => true) true fuel 57 cs = some x) : cs.length = 5 ∧ ∃ y : Qu, rQu W cs y := by
  obtain ⟨n0, y0, h0⟩ := trod_field Tryd.underlying57 h (i := 0) rfl
  obtain ⟨n1, y1, h1⟩ := trod_field Tryd.underlying57 h (i := 1) rfl
  obtain ⟨n2, y2, h2⟩ := trod_field Tryd.underlying57 h (i := 2) rfl
  have hl := trod_len Tryd.underlying57 h
  rw [tc_Qu] at hl
  obtain ⟨a0, a1, a2, a3, a4, rfl⟩ := of_len5 hl
  simp [tc_bool] at h0
  simp [tc_Id] at h1
  simp [tc_int] at h2
  obtain ⟨b0, e0, _⟩ := DataW.trod_bool Tryd.underlying4 h0
  obtain ⟨_, x1, e1, z1⟩ := open_Id0 h1
  obtain ⟨i2, e2, _, z2⟩ := DataW.trod_int Tryd.underlying3 h2
  simp [idC] at e0 e1 e2
  exact ⟨rfl, ⟨b0, x1, i2⟩, by simp [quC, *], z1⟩
set_option maxRecDepth 100000 in
theorem open_Fr0 {H : Type} {enc : TypeId × Value → H} {W : World} {fuel : Nat} {cs : List Value} {x : DataW H × List MemPlace} (h : DataW.trod enc Tryd.prog W 0 (fun _ => true) true fuel 41 cs = some x) : cs.length = 7 ∧ ∃ y : Fr, rFr W cs y := by
  obtain ⟨n0, y0, h0⟩ := trod_field Tryd.underlying41 h (i := 0) rfl
  obtain ⟨n1, y1, h1⟩ := trod_field Tryd.underlying41 h (i := 1) rfl
  have hl := trod_len Tryd.underlying41 h
  rw [tc_Fr] at hl
  obtain ⟨a0, a1, a2, a3, a4, a5, a6, rfl⟩ := of_len7 hl
  simp [tc_Id] at h0
  simp [tc_V] at h1
  obtain ⟨_, x0, e0, z0⟩ := open_Id0 h0
  obtain ⟨_, v1, e1, z1⟩ := open_V0 h1
  simp [idC, vC] at e0 e1
  exact ⟨rfl, ⟨x0, v1⟩, by simp [frC, *], z0, z1⟩
set_option maxRecDepth 100000 in
theorem open_Sta0 {H : Type} {enc : TypeId × Value → H} {W : World} {fuel : Nat} {cs : List Value} {x : DataW H × List MemPlace} (h : DataW.trod enc Tryd.prog W 0 (fun _ => true) true fuel 61 cs = some x) : cs.length = 5 ∧ ∃ y : Sta, rSta W cs y := by
  obtain ⟨n0, y0, h0⟩ := trod_field Tryd.underlying61 h (i := 0) rfl
  obtain ⟨n1, y1, h1⟩ := trod_field Tryd.underlying61 h (i := 1) rfl
  obtain ⟨n2, y2, h2⟩ := trod_field Tryd.underlying61 h (i := 2) rfl
  have hl := trod_len Tryd.underlying61 h
  rw [tc_Sta] at hl
  obtain ⟨a0, a1, a2, a3, a4, rfl⟩ := of_len5 hl
  simp [tc_Id] at h0
  simp [tc_bool] at h1
  simp [tc_bool] at h2
  obtain ⟨_, x0, e0, z0⟩ := open_Id0 h0
  obtain ⟨b1, e1, _⟩ := DataW.trod_bool Tryd.underlying4 h1
  obtain ⟨b2, e2, _⟩ := DataW.trod_bool Tryd.underlying4 h2
  simp [idC] at e0 e1 e2
  exact ⟨rfl, ⟨x0, b1, b2⟩, by simp [staC, *], z0⟩
theorem open_int0 {H : Type} {enc : TypeId × Value → H} {W : World} {fuel : Nat} {cs : List Value} {x : DataW H × List MemPlace} (h : DataW.trod enc Tryd.prog W 0 (fun _ => true) true fuel 3 cs = some x) : cs.length = 1 ∧ ∃ y : Int, rInt W cs y := by
  obtain ⟨n, e, _, _⟩ := DataW.trod_int Tryd.underlying3 h
  exact ⟨by rw [e]; rfl, n, e, trivial⟩
theorem open_lint {H : Type} {enc : TypeId × Value → H} {W : World} {fuel : Nat} {cs : List Value} {x : DataW H × List MemPlace} {T : TypeId} (h : DataW.trod enc Tryd.prog W 0 (fun _ => true) true fuel 35 cs = some x) : ∃ b L c, cs = [.slice b L.length c] ∧ GIn rInt T False 1 W b L.length L :=
  open_gin Tryd.underlying35 tc_int (by omega) (fun _ _ _ h => open_int0 h) h
theorem open_lAg {H : Type} {enc : TypeId × Value → H} {W : World} {fuel : Nat} {cs : List Value} {x : DataW H × List MemPlace} {T : TypeId} (h : DataW.trod enc Tryd.prog W 0 (fun _ => true) true fuel 43 cs = some x) : ∃ b L c, cs = [.slice b L.length c] ∧ GIn rAg T False 8 W b L.length L :=
  open_gin Tryd.underlying43 tc_Ag (by omega) (fun _ _ _ h => open_Ag0 h) h
theorem open_lEx {H : Type} {enc : TypeId × Value → H} {W : World} {fuel : Nat} {cs : List Value} {x : DataW H × List MemPlace} {T : TypeId} (h : DataW.trod enc Tryd.prog W 0 (fun _ => true) true fuel 46 cs = some x) : ∃ b L c, cs = [.slice b L.length c] ∧ GIn rEx T False 10 W b L.length L :=
  open_gin Tryd.underlying46 tc_Ex (by omega) (fun _ _ _ h => open_Ex0 h) h
theorem open_lSe {H : Type} {enc : TypeId × Value → H} {W : World} {fuel : Nat} {cs : List Value} {x : DataW H × List MemPlace} {T : TypeId} (h : DataW.trod enc Tryd.prog W 0 (fun _ => true) true fuel 47 cs = some x) : ∃ b L c, cs = [.slice b L.length c] ∧ GIn rSe T False 4 W b L.length L :=
  open_gin Tryd.underlying47 tc_Se (by omega) (fun _ _ _ h => open_Se0 h) h
theorem open_lQu {H : Type} {enc : TypeId × Value → H} {W : World} {fuel : Nat} {cs : List Value} {x : DataW H × List MemPlace} {T : TypeId} (h : DataW.trod enc Tryd.prog W 0 (fun _ => true) true fuel 25 cs = some x) : ∃ b L c, cs = [.slice b L.length c] ∧ GIn rQu T False 5 W b L.length L :=
  open_gin Tryd.underlying25 tc_Qu (by omega) (fun _ _ _ h => open_Qu0 h) h
theorem open_lFr {H : Type} {enc : TypeId × Value → H} {W : World} {fuel : Nat} {cs : List Value} {x : DataW H × List MemPlace} {T : TypeId} (h : DataW.trod enc Tryd.prog W 0 (fun _ => true) true fuel 26 cs = some x) : ∃ b L c, cs = [.slice b L.length c] ∧ GIn rFr T False 7 W b L.length L :=
  open_gin Tryd.underlying26 tc_Fr (by omega) (fun _ _ _ h => open_Fr0 h) h
theorem open_lSta {H : Type} {enc : TypeId × Value → H} {W : World} {fuel : Nat} {cs : List Value} {x : DataW H × List MemPlace} {T : TypeId} (h : DataW.trod enc Tryd.prog W 0 (fun _ => true) true fuel 27 cs = some x) : ∃ b L c, cs = [.slice b L.length c] ∧ GIn rSta T False 5 W b L.length L :=
  open_gin Tryd.underlying27 tc_Sta (by omega) (fun _ _ _ h => open_Sta0 h) h
set_option maxRecDepth 100000 in
theorem open_De0 {Y : TyT} {H : Type} {enc : TypeId × Value → H} {W : World} {fuel : Nat} {cs : List Value} {x : DataW H × List MemPlace} (h : DataW.trod enc Tryd.prog W 0 (fun _ => true) true fuel 37 cs = some x) : cs.length = 4 ∧ ∃ y : De, rDe Y False W cs y := by
  obtain ⟨n0, y0, h0⟩ := trod_field Tryd.underlying37 h (i := 0) rfl
  obtain ⟨n1, y1, h1⟩ := trod_field Tryd.underlying37 h (i := 1) rfl
  have hl := trod_len Tryd.underlying37 h
  rw [tc_De] at hl
  obtain ⟨a0, a1, a2, a3, rfl⟩ := of_len4 hl
  simp [tc_Id] at h0
  simp [tc_lint] at h1
  obtain ⟨_, x0, e0, z0⟩ := open_Id0 h0
  obtain ⟨a_1, l1, c1, e1, g1⟩ := open_lint h1
  simp [idC] at e0 e1
  exact ⟨rfl, ⟨x0, l1⟩, a_1, c1, by simp [*], g1, z0⟩
set_option maxRecDepth 100000 in
theorem open_Sy0 {Y : TyT} {H : Type} {enc : TypeId × Value → H} {W : World} {fuel : Nat} {cs : List Value} {x : DataW H × List MemPlace} (h : DataW.trod enc Tryd.prog W 0 (fun _ => true) true fuel 45 cs = some x) : cs.length = 4 ∧ ∃ y : Sy, rSy Y False W cs y := by
  obtain ⟨n0, y0, h0⟩ := trod_field Tryd.underlying45 h (i := 0) rfl
  obtain ⟨n1, y1, h1⟩ := trod_field Tryd.underlying45 h (i := 1) rfl
  obtain ⟨n2, y2, h2⟩ := trod_field Tryd.underlying45 h (i := 2) rfl
  obtain ⟨n3, y3, h3⟩ := trod_field Tryd.underlying45 h (i := 3) rfl
  have hl := trod_len Tryd.underlying45 h
  rw [tc_Sy] at hl
  obtain ⟨a0, a1, a2, a3, rfl⟩ := of_len4 hl
  simp [tc_str] at h0
  simp [tc_lAg] at h1
  simp [tc_int] at h2
  simp [tc_int] at h3
  obtain ⟨s0, e0, _, z0⟩ := DataW.trod_string Tryd.underlying9 h0
  obtain ⟨a_1, l1, c1, e1, g1⟩ := open_lAg h1
  obtain ⟨i2, e2, _, z2⟩ := DataW.trod_int Tryd.underlying3 h2
  obtain ⟨i3, e3, _, z3⟩ := DataW.trod_int Tryd.underlying3 h3
  simp [List.cons.injEq] at e0 e1 e2 e3
  exact ⟨rfl, ⟨s0, l1, i2, i3⟩, a_1, c1, by simp [*], g1, by unfold okS; unfold maxLen at z0; omega⟩
set_option maxRecDepth 100000 in
theorem open_Ts0 {Y : TyT} {H : Type} {enc : TypeId × Value → H} {W : World} {fuel : Nat} {cs : List Value} {x : DataW H × List MemPlace} (h : DataW.trod enc Tryd.prog W 0 (fun _ => true) true fuel 49 cs = some x) : cs.length = 13 ∧ ∃ y : Ts, rTs Y False W cs y := by
  obtain ⟨n0, y0, h0⟩ := trod_field Tryd.underlying49 h (i := 0) rfl
  obtain ⟨n1, y1, h1⟩ := trod_field Tryd.underlying49 h (i := 1) rfl
  obtain ⟨n2, y2, h2⟩ := trod_field Tryd.underlying49 h (i := 2) rfl
  obtain ⟨n3, y3, h3⟩ := trod_field Tryd.underlying49 h (i := 3) rfl
  obtain ⟨n4, y4, h4⟩ := trod_field Tryd.underlying49 h (i := 4) rfl
  obtain ⟨n5, y5, h5⟩ := trod_field Tryd.underlying49 h (i := 5) rfl
  have hl := trod_len Tryd.underlying49 h
  rw [tc_Ts] at hl
  obtain ⟨a0, a1, a2, a3, a4, a5, a6, a7, a8, a9, a10, a11, a12, rfl⟩ := of_len13 hl
  simp [tc_Id] at h0
  simp [tc_Id] at h1
  simp [tc_Sy] at h2
  simp [tc_lEx] at h3
  simp [tc_int] at h4
  simp [tc_lSe] at h5
  obtain ⟨_, x0, e0, z0⟩ := open_Id0 h0
  obtain ⟨_, x1, e1, z1⟩ := open_Id0 h1
  obtain ⟨_, y2s, a_2, c2, e2, g2, z2⟩ := open_Sy0 (Y := Y) h2
  obtain ⟨a_3, l3, c3, e3, g3⟩ := open_lEx h3
  obtain ⟨i4, e4, _, z4⟩ := DataW.trod_int Tryd.underlying3 h4
  obtain ⟨a_5, l5, c5, e5, g5⟩ := open_lSe h5
  simp [idC] at e0 e1 e2 e3 e4 e5
  exact ⟨rfl, ⟨x0, x1, y2s, l3, i4, l5⟩, a_2, c2, a_3, c3, a_5, c5, by simp [*], g2, g3, g5, z0, z1, z2⟩
theorem open_lDe {Y : TyT} {H : Type} {enc : TypeId × Value → H} {W : World} {fuel : Nat} {cs : List Value} {x : DataW H × List MemPlace} {T : TypeId} (h : DataW.trod enc Tryd.prog W 0 (fun _ => true) true fuel 24 cs = some x) : ∃ b L c, cs = [.slice b L.length c] ∧ GIn (rDe Y False) T False 4 W b L.length L :=
  open_gin Tryd.underlying24 tc_De (by omega) (fun _ _ _ h => open_De0 (Y := Y) h) h
theorem open_lSy {Y : TyT} {H : Type} {enc : TypeId × Value → H} {W : World} {fuel : Nat} {cs : List Value} {x : DataW H × List MemPlace} {T : TypeId} (h : DataW.trod enc Tryd.prog W 0 (fun _ => true) true fuel 28 cs = some x) : ∃ b L c, cs = [.slice b L.length c] ∧ GIn (rSy Y False) T False 4 W b L.length L :=
  open_gin Tryd.underlying28 tc_Sy (by omega) (fun _ _ _ h => open_Sy0 (Y := Y) h) h
theorem open_lTs {Y : TyT} {H : Type} {enc : TypeId × Value → H} {W : World} {fuel : Nat} {cs : List Value} {x : DataW H × List MemPlace} {T : TypeId} (h : DataW.trod enc Tryd.prog W 0 (fun _ => true) true fuel 29 cs = some x) : ∃ b L c, cs = [.slice b L.length c] ∧ GIn (rTs Y False) T False 13 W b L.length L :=
  open_gin Tryd.underlying29 tc_Ts (by omega) (fun _ _ _ h => open_Ts0 (Y := Y) h) h
set_option maxRecDepth 100000 in
theorem open_Tr0 {Y : TyT} {H : Type} {enc : TypeId × Value → H} {W : World} {fuel : Nat} {cs : List Value} {x : DataW H × List MemPlace} (h : DataW.trod enc Tryd.prog W 0 (fun _ => true) true fuel 31 cs = some x) : cs.length = 12 ∧ ∃ y : Tr, TrIn Y False W cs y := by
  obtain ⟨n0, y0, h0⟩ := trod_field Tryd.underlying31 h (i := 0) rfl
  obtain ⟨n1, y1, h1⟩ := trod_field Tryd.underlying31 h (i := 1) rfl
  obtain ⟨n2, y2, h2⟩ := trod_field Tryd.underlying31 h (i := 2) rfl
  obtain ⟨n3, y3, h3⟩ := trod_field Tryd.underlying31 h (i := 3) rfl
  obtain ⟨n4, y4, h4⟩ := trod_field Tryd.underlying31 h (i := 4) rfl
  obtain ⟨n5, y5, h5⟩ := trod_field Tryd.underlying31 h (i := 5) rfl
  obtain ⟨n6, y6, h6⟩ := trod_field Tryd.underlying31 h (i := 6) rfl
  obtain ⟨n7, y7, h7⟩ := trod_field Tryd.underlying31 h (i := 7) rfl
  have hl := trod_len Tryd.underlying31 h
  rw [tc_Tr] at hl
  obtain ⟨a0, a1, a2, a3, a4, a5, a6, a7, a8, a9, a10, a11, rfl⟩ := of_len12 hl
  simp [tc_Id] at h0
  simp [tc_lDe] at h1
  simp [tc_lQu] at h2
  simp [tc_lFr] at h3
  simp [tc_lSta] at h4
  simp [tc_Id] at h5
  simp [tc_lSy] at h6
  simp [tc_lTs] at h7
  obtain ⟨_, x0, e0, z0⟩ := open_Id0 h0
  obtain ⟨a_1, l1, c1, e1, g1⟩ := open_lDe (Y := Y) (T := Y.de) h1
  obtain ⟨a_2, l2, c2, e2, g2⟩ := open_lQu (T := Y.qu) h2
  obtain ⟨a_3, l3, c3, e3, g3⟩ := open_lFr (T := Y.fr) h3
  obtain ⟨a_4, l4, c4, e4, g4⟩ := open_lSta (T := Y.st) h4
  obtain ⟨_, x5, e5, z5⟩ := open_Id0 h5
  obtain ⟨a_6, l6, c6, e6, g6⟩ := open_lSy (Y := Y) (T := Y.sy) h6
  obtain ⟨a_7, l7, c7, e7, g7⟩ := open_lTs (Y := Y) (T := Y.ts) h7
  simp [idC] at e0 e1 e2 e3 e4 e5 e6 e7
  exact ⟨rfl, ⟨x0, l1, l2, l3, l4, x5, l6, l7⟩, ⟨a_1, c1, a_2, c2, a_3, c3, a_4, c4, a_6, c6, a_7, c7, by simp [*], g1, g2, g3, g4, g6, g7⟩, z0, z5⟩
set_option maxRecDepth 100000 in
/-- A tree by value. -/
theorem open_tree {Y : TyT} {H : Type} {enc : TypeId × Value → H} {W : World} {r : Reach} {b0 : Nat} {v : Value} {d : DataW H} {p : List MemPlace} (hv : Value.okWide Tryd.prog W r b0 31 v)
    (h : DataW.Trod enc Tryd.prog W 0 (fun _ => true) true 31 v d p) : ∃ (cs : List Value) (s : Tr), v = .agg cs.toArray ∧ TrIn Y False W cs s := by
  obtain ⟨cs, rfl, hsz⟩ := okWide_struct Tryd.underlying31 hv
  obtain ⟨fuel, hf⟩ := h
  obtain ⟨_, s, hs⟩ := open_Tr0 (Y := Y) hf
  exact ⟨_, s, by simp [Value.cells], hs⟩
end Go.Proofs.YtojabkhfkbfeaaaDoor
