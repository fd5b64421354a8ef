/- What slices.SortFunc does with a row of bindings. -/
import Derived.Test.YtjohiehlnbgdaaaLaySort
import Derived.Test.YtjohiehlnbgdaaaSlotMostMath
import Derived.Shelf.SlSortCmp.Whole1
import Derived.Test.YtjohiehlnbgdaaaSlotOf
namespace Go.Proofs.Ytjohiehlnbgdaaa
open Go.RowKit Go.Sort Go.Lib
set_option linter.unusedVariables false

/-- A slice, and the binding that it stands for. -/
def Bw (w : World) : Type := { x : Option Addr × Nat × List Sd // SIn w x.1 x.2.2.length x.2.2 ∧ RVs x.2.2 }
instance (w : World) : Inhabited (Bw w) := ⟨⟨(none, 0, []), SIn.none', fun z hz => by simp at hz⟩⟩
def Bw.row {w : World} (x : Bw w) : List Sd := x.1.2.2
def Bw.enc {w : World} (x : Bw w) : Value := .slice x.1.1 x.1.2.2.length x.1.2.1
def Bw.cf {w : World} (x y : Bw w) : Int := cmpL x.row y.row
theorem Bw.yes {w : World} (x y : Bw w) : ltOf Bw.cf x y = true ↔ Lt x.row y.row := by unfold ltOf Lt Bw.cf; exact decide_eq_true_iff
theorem Bw.no {w : World} (x y : Bw w) : ltOf Bw.cf x y = false ↔ ¬ Lt x.row y.row := by unfold ltOf Lt Bw.cf; exact decide_eq_false_iff_not
theorem Bw.swo (w : World) : SWO (ltOf (Bw.cf (w := w))) where
  irrefl x := (Bw.no x x).2 (Lt.irrefl x.2.2)
  trans x y z h g := (Bw.yes x z).2 (Lt.trans x.2.2 y.2.2 z.2.2 ((Bw.yes x y).1 h) ((Bw.yes y z).1 g))
  ntrans x y z h g := (Bw.no x z).2 (Lt.ntrans x.2.2 y.2.2 z.2.2 ((Bw.no x y).1 h) ((Bw.no y z).1 g))
theorem below_sort1 {α : Type} [Inhabited α] {enc : α → Value} {w : World} {blk off n : Nat} {d : Array α} {os : Array Obj} {B : Nat} (hblk : blk < w.heap.size) (hB : B ≤ blk) : RowKit.Below B w (sortWorld enc w blk off n d os) := by
  have ha : (Go.Sort.ahead w n).heap = w.heap := rfl
  refine ⟨rfl, rfl, rfl, ?_, fun k hk => ?_⟩
  · simp only [sortWorld, size_grow, size_putRow, ha]
    omega
  · rw [sortWorld, heap_grow_old _ _ (by simp only [size_putRow, ha]; omega)]
    simp only [putRow, mapBlock, ha]
    rw [Array.getElem?_modify, if_neg (by omega)]
set_option maxHeartbeats 400000 in
theorem sortL_calls (w0 : World) (g off cap : Nat) (D : List (Bw w0)) (w : World) (hb : RowKit.Below w0.heap.size w0 w) (hg0 : w0.heap.size ≤ g) (hr : Holds Bw.enc w g off D.toArray) (hg : g < w.heap.size) (hl : D.length ≤ 1000000) :
    Calls Try.prog 29 #[.slice (some ⟨g, off, none⟩) D.length cap, .func (.func 30) #[] #[]] w fun e w' => e = .returned (.tuple #[]) ∧ ∃ D' : List (Bw w0), D'.Perm D ∧ SortL (D'.map Bw.row) ∧ Holds Bw.enc w' g off D'.toArray ∧ RowKit.Below w0.heap.size w0 w' ∧ g < w'.heap.size := by
  have hc : CmpLays1 Try.prog 30 #[] Bw.enc Bw.cf g off D.toArray.size w := fun m os dk _ x y => by
    have hk : RowKit.Below w0.heap.size w0 (sortWorld Bw.enc w g off m dk os) := hb.trans (below_sort1 hg hg0)
    refine (compare_calls x.1.1 y.1.1 x.1.2.2.length x.1.2.1 y.1.2.2.length y.1.2.1 x.1.2.2 y.1.2.2 _ (x.2.1.below hk) (y.2.1.below hk)).mono ?_
    rintro e w' ⟨rfl, os', rfl⟩
    exact ⟨rfl, 0, os', rfl⟩
  have h := Any.slices_SortFunc Try.laySortL Bw.enc (fun _ => rfl) Bw.cf (Bw.swo w0) 30 #[] g off cap D.toArray w (enters_of Try.func30 (by kernel_rfl) rfl) hc hr hg (by simp; omega)
  rw [List.size_toArray] at h
  refine Calls.mono h ?_
  rintro e w' ⟨rfl, d', n, os, hp, hs, rfl⟩
  have hsz : d'.size = D.length := by have := hp.1; simpa using this
  refine ⟨rfl, d'.toList, ?_, ?_, ?_, hb.trans (below_sort1 hg hg0), ?_⟩
  · have := hp.2.2
    rwa [← hsz, Array.extract_size, hsz, show D.toArray.extract 0 D.length = D.toArray by rw [← List.size_toArray, Array.extract_size], List.toList_toArray] at this
  · rw [SortL, List.pairwise_map, List.pairwise_iff_getElem]
    intro i j hi hj hij
    have := hs i j (by omega) hij (by simpa [hsz] using hj)
    rw [getElem!_pos d' i (by simpa using hi), getElem!_pos d' j (by simpa using hj)] at this
    exact (Bw.no _ _).1 this
  · have : (d'.toList).toArray = d' := by simp
    rw [this]
    unfold sortWorld
    exact holds_grow Bw.enc _ os g off d' (by rw [size_putRow]; exact hg) (holds_putRow Bw.enc _ g off D.toArray d' (holds_ahead Bw.enc w n g off D.toArray hr) (by simp [hsz]))
  · simp only [sortWorld, size_grow, size_putRow]
    have ha : (Go.Sort.ahead w n).heap = w.heap := rfl
    rw [ha]; omega
theorem sortL_none (a : Option Addr) (cap : Nat) (f : Value) (w : World) :
    Calls Try.prog 29 #[.slice a 0 cap, f] w fun e w' => e = .returned (.tuple #[]) ∧ w' = w :=
  AnyF.slices_SortFunc_none { Try.laySortL with } a cap f w
/-- A row of bindings that a call has gathered. -/
theorem own_bw {B : Nat} {o : Value} {w0 w : World} {D : List (Bw w0)} {n : Nat} (h : w.ownsRow B 22 1 o n (D.map Bw.enc)) (hn : 0 < n) : ∃ g cap, o = .slice (some ⟨g, 0, none⟩) n cap ∧ D.length = n ∧ n ≤ cap ∧ cap ≤ maxLen ∧ B ≤ g ∧ g < w.heap.size ∧ Holds Bw.enc w g 0 D.toArray := by
  obtain ⟨hl, hown⟩ := h
  rw [List.length_map] at hl
  rcases hown with ⟨rfl, h0⟩ | ⟨g, cap, cur, rfl, h1, hg, hcap, hm, hsz, htk⟩
  · omega
  · refine ⟨g, cap, rfl, by omega, hcap, hm, h1, (Array.getElem?_eq_some_iff.1 hg).1, fun j hj => ?_⟩
    rw [List.size_toArray] at hj
    constructor
    · rw [Nat.zero_add, cell_of_row w g j cur _ (0, 0) hg, getElem!_pos _ j (by simpa using hj)]
      have h5 : (D.map Bw.enc)[j]? = some (D[j].enc) := by simp [hj]
      rw [← htk, List.getElem?_take, if_pos (by omega)] at h5
      simpa using h5
    · simp [World.frozen?, hg]
end Go.Proofs.Ytjohiehlnbgdaaa
