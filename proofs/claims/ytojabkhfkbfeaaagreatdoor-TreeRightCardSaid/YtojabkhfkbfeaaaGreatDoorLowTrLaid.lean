/- Contracts of a lower layer, several texts in one. -/
import Derived.Test.YtojabkhfkbfeaaaGreatDoorScWord
import Derived.Lib.LaidTab
import Derived.LaidMore
import Derived.Stop.Joined
import Derived.Stop.LaidErr
import Derived.ProofKit
import Derived.Test.YtojabkhfkbfeaaaGreatDoorTreeMeas
import Derived.Test.YtojabkhfkbfeaaaGreatDoorTreeMem
import Derived.Deep.Slices
import Derived.ChangeSlices
import Derived.ChangeAt
import Derived.ChangeSame
import Derived.OpenShut
/- ScWLaid -/
namespace Go.Proofs.YtojabkhfkbfeaaaGreatDoor
open Go.RowKit
set_option linter.unusedVariables false

theorem sc_cellsS : Tryz.prog.cellsOf 9 = 1 := by kernel_rfl
theorem sc_cellsW : Tryz.prog.cellsOf 147 = 22 := by kernel_rfl
theorem gWdsType : (Tryz.prog.globals[0]?).map (·.type) = some 147 := by kernel_rfl
theorem words_laid : (Rows.laid_proctor_schema_words : DataW Unit) = .agg (wordsL.map fun s => .lit (.string s.data.toList)) := rfl
theorem wordsV_list : wordsV.toList = (List.range 22).map fun i => .string (wordAt i) := rfl
theorem wds_of_head {W : World} {rest : List (String × DataW Unit)} (h : laidMet Tryz.prog (("proctor/schema.words", Rows.laid_proctor_schema_words) :: rest) W) : Wds W := by
  obtain ⟨ps, ⟨g', t', cs, fuel, p, q, hg', ht', hvar, hd, _, _⟩, _⟩ := h
  obtain rfl := Option.some.inj (gWds.symm.trans hg')
  obtain rfl := Option.some.inj (gWdsType.symm.trans ht')
  refine wds_of_var ?_
  rw [hvar]
  cases fuel with
  | zero => simp [DataW.trod] at hd
  | succ fuel =>
    simp only [DataW.trod, Tryz.underlying147, sc_cellsW, sc_cellsS] at hd
    split at hd
    · rename_i hl
      obtain ⟨xs, hm, hx⟩ := Option.map_eq_some_iff.1 hd
      have hxs : xs.map (·.1) = wordsL.map fun s => .lit (.string s.data.toList) := by
        have := congrArg Prod.fst hx
        rw [words_laid] at this
        simpa using this
      have key : ∀ i, i < 22 → cs.toList[i]? = some (.string (wordAt i)) := by
        intro i hi
        obtain ⟨x, hb, hf⟩ := Lib.mapM_at hm i i (by simp [hi])
        have hx1 : x.1 = .lit (.string (wordAt i).data.toList) := by
          have h1 : (xs.map (·.1))[i]? = some x.1 := by simp [hb]
          rw [hxs] at h1
          have h2 : i < wordsL.length := hi
          simp only [List.getElem?_map, List.getElem?_eq_getElem h2, Option.map_some, Option.some.injEq] at h1
          rw [← h1, wordAt, List.getD, List.getElem?_eq_getElem h2]
          rfl
        obtain ⟨d, pp⟩ := x
        simp only at hx1
        subst hx1
        obtain ⟨s, e, e2, _⟩ := DataW.trod_string Tryz.underlying9 hf
        simp only [Prod.mk.injEq, DataW.lit.injEq, Lit.string.injEq] at e2
        rw [sc_ext e2.1]
        have h3 := congrArg (fun l => l[0]?) e
        simp only [Nat.mul_one, List.getElem?_take, List.getElem?_drop, Nat.add_zero, List.getElem?_cons_zero] at h3
        simpa using h3
      have hlist : cs.toList = wordsV.toList := by
        refine List.ext_getElem? (fun i => ?_)
        rw [wordsV_list]
        by_cases hi : i < 22
        · rw [key i hi]; simp [hi]
        · rw [List.getElem?_eq_none (by omega), List.getElem?_eq_none (by simp; omega)]
      rw [← Array.toArray_toList (xs := cs), hlist, Array.toArray_toList]
    · cases hd
end Go.Proofs.YtojabkhfkbfeaaaGreatDoor

/- ScLaid -/
namespace Go.Proofs.YtojabkhfkbfeaaaGreatDoor
open Go.RowKit
set_option linter.unusedVariables false

theorem wds_of_laid {W : World} (h : laidMetH Tryz.prog [("proctor/schema.words", Rows.laid_proctor_schema_words)] W) : Wds W := by
  rw [MakeChecks.laidMetH_plain _ _ _ (by kernel_rfl)] at h
  exact wds_of_head h
theorem door_metW (os : Os) (args : Array Value) : laidMetH Tryz.prog [("proctor/schema.words", Rows.laid_proctor_schema_words)] ((World.doorLaid Tryz.prog 400 os).forCall (fun _ _ => 0) ⟨#[], args, []⟩).memory :=
  laidMetH_of_parts3 (fuel := 8) (laidMet_of_run' 8 (by kernel_rfl) (by kernel_rfl)) (by kernel_rfl) (by kernel_rfl)
end Go.Proofs.YtojabkhfkbfeaaaGreatDoor

/- TreeAwake -/
namespace Go.Proofs.YtojabkhfkbfeaaaGreatDoor
open Go.RowKit
set_option linter.unusedVariables false

def exV (n : Int) : Vd := ⟨1, n, ⟨#[]⟩, false⟩
def exA : Ex := ⟨1, 0, 0, ⟨#[]⟩, exV 2, 0, 0⟩
def exB : Ex := ⟨1, 0, 0, ⟨#[]⟩, exV 3, 0, 0⟩
def exC' : Ex := ⟨8, 0, 1, ⟨#[]⟩, v0, 0, 0⟩
def exL : List Ex := [exA, exB, exC']
theorem ex_right (n : Int) : rightV (exV n) = true := by simp [rightV, exV, rightB]
theorem ex_empty : emptyB (⟨#[]⟩ : ByteArray) = true := (emptyB_iff _).2 rfl
theorem ex_zero : zeroV v0 = true := (zeroV_iff _).2 rfl
theorem ok0 : okS (⟨#[]⟩ : ByteArray) := by
  show (⟨#[]⟩ : ByteArray).size ≤ 9223372036854775807
  decide
theorem ex0 : sizeT exL ((0 : Nat) : Int) = 1 := by
  rw [sizeT_at (x := exA) rfl]
  have h1 : exA.op = 1 := rfl
  rw [if_pos h1, if_pos ⟨rfl, rfl, ex_empty, ex_right 2⟩]
theorem ex1 : sizeT exL ((1 : Nat) : Int) = 1 := by
  rw [sizeT_at (x := exB) rfl]
  have h1 : exB.op = 1 := rfl
  rw [if_pos h1, if_pos ⟨rfl, rfl, ex_empty, ex_right 3⟩]
theorem ex2 : sizeT exL ((2 : Nat) : Int) = 3 := by
  have e1 : (((2 : Nat) : Int) - 1) = ((1 : Nat) : Int) := rfl
  have e0 : (((1 : Nat) : Int) - ((1 : Nat) : Int)) = ((0 : Nat) : Int) := rfl
  rw [sizeT_at (x := exC') rfl, e1, ex1, e0, ex0]
  have h1 : ¬ exC'.op = 1 := by decide
  have h2 : ¬ exC'.op = 17 := by decide
  have h3 : ¬ (exC'.op < 4 ∨ 16 < exC'.op ∨ emptyB exC'.n = false ∨ zeroV exC'.v = false) := by
    rintro (h | h | h | h)
    · exact absurd h (by decide)
    · exact absurd h (by decide)
    · exact absurd (h.symm.trans ex_empty) (by decide)
    · exact absurd (h.symm.trans ex_zero) (by decide)
  have h5 : ¬ exC'.op ≤ 5 := by decide
  rw [if_neg h1, if_neg h2, if_neg h3, if_neg h5, if_pos ⟨by decide, rfl, rfl, by decide⟩]
theorem exd2 : depthT exL ((2 : Nat) : Int) = 2 := by
  have h := depthT_at (l := exL) (n := 2) (x := exC') rfl (by decide) (by decide)
  have a : depthT exL ((0 : Nat) : Int) = 1 := depthT_leaf (x := exA) rfl (.inl rfl)
  have b : depthT exL ((1 : Nat) : Int) = 1 := depthT_leaf (x := exB) rfl (.inl rfl)
  have h1 : ¬ (exC'.op = 1 ∨ exC'.op = 17) := by decide
  have h5 : 5 < exC'.op := by decide
  rw [if_neg h1, if_pos h5, show exC'.a = ((0 : Nat) : Int) from rfl, show exC'.b = ((1 : Nat) : Int) from rfl, a, b] at h
  exact h

set_option maxHeartbeats 1000000 in
set_option maxRecDepth 100000 in
theorem awake_calls (w : World) (hw : Wds w) :
    Calls Tryz.prog 5 #[] w fun e w' => e = .returned (.bool true) ∧ Below w.heap.size w w' := by
  obtain ⟨cs, hcs⟩ : ∃ cs : Array Value, cs = ((exL.map exC).flatten).toArray := ⟨_, rfl⟩
  have hB : Below w.heap.size w (w.alloc (.cells cs 53)) := (Below.refl _ _).alloc (Nat.le_refl _) _
  have HG : GIn rEx 53 True 10 (w.alloc (.cells cs 53)) (some ⟨w.heap.size, 0, none⟩) 3 exL := gin_new rfl hcs (fun _ => rfl) (fun x hx => by
    simp only [exL, List.mem_cons, List.not_mem_nil, or_false] at hx
    rcases hx with rfl | rfl | rfl <;> exact ⟨ok0, ok0, by decide, by decide⟩) (by decide)
  have HB := Lib.hid hB
  have HS := Lib.hid (treeSize_calls (some ⟨w.heap.size, 0, none⟩) 3 3 exL 2 _ HG (hw.below hB) (by decide))
  have HD := Lib.hid (fun w1 (k : Below (w.alloc (.cells cs 53)).heap.size (w.alloc (.cells cs 53)) w1) => treeDepth_calls (some ⟨w.heap.size, 0, none⟩) 3 3 exL 2 w1 (HG.belowF k) ((hw.below hB).below (by exact k)) (by decide))
  have e2 : sizeT exL 2 = 3 := ex2
  have d2 : depthT exL 2 = 2 := exd2
  rw [e2] at HS HD
  rw [d2, if_neg (by decide)] at HD
  subst hcs
  clear hw hB HG e2 d2
  go_enter Tryz.func5, Tryz.ntmps5
  go_wp2_with fail
  refine HS.out.mono ?_
  rintro e w1 ⟨rfl, k1⟩
  have HB1 := Lib.hid (HB.out.trans (k1.mono HB.out.size))
  have K1 := Lib.hid k1
  clear k1
  go_wp2_with fail
  refine (HD.out w1 K1.out).mono ?_
  rintro e w2 ⟨rfl, k2⟩
  have HB2 := Lib.hid (HB1.out.trans (k2.mono HB1.out.size))
  clear k2
  go_wp2_with fail
  go_ret
  exact ⟨rfl, HB2.out⟩
end Go.Proofs.YtojabkhfkbfeaaaGreatDoor

/- TreeOpen -/
namespace Go.Proofs.YtojabkhfkbfeaaaGreatDoor
open Go.ChangeShapes Go.WideShapes Go.ChangeAt Go.RowKit Go.Deep
set_option linter.unusedVariables false

theorem trod_field {H : Type} {enc : TypeId × Value → H} {W : World} {fuel : Nat} {t : TypeId} {fs : Array Field} {cs : List Value} {x : DataW H × List MemPlace} (ht : Tryz.prog.underlying t = some (.struct fs)) (h : DataW.trod enc Tryz.prog W 0 (fun _ => true) true fuel t cs = some x) {i : Nat} {f : Field} (hf : fs[i]? = some f) :
    ∃ n y, DataW.trod enc Tryz.prog W 0 (fun _ => true) true n f.type ((cs.drop f.offset).take (Tryz.prog.cellsOf f.type)) = some y := by
  obtain ⟨xs, n, _, _, _, hl, hx⟩ := DataW.trod_struct ht h
  have hi := (Array.getElem?_eq_some_iff.1 hf).1
  exact ⟨n, xs[i]'(by omega), (hx i f hf).trans (List.getElem?_eq_getElem (by omega))⟩
theorem trod_len {H : Type} {enc : TypeId × Value → H} {W : World} {fuel : Nat} {t : TypeId} {fs : Array Field} {cs : List Value} {x : DataW H × List MemPlace} (ht : Tryz.prog.underlying t = some (.struct fs)) (h : DataW.trod enc Tryz.prog W 0 (fun _ => true) true fuel t cs = some x) : cs.length = Tryz.prog.cellsOf t := by
  obtain ⟨xs, n, _, _, hl, _⟩ := DataW.trod_struct ht h
  exact hl
theorem tr_add (g off n : Nat) : (⟨g, off, none⟩ : Addr).add n = ⟨g, off + n, none⟩ := by unfold Addr.add; split <;> simp_all
/-- A list of things whose cells can be opened. -/
theorem open_gin {α : Type} {R : World → List Value → α → Prop} {S E T : TypeId} {k : Nat} {H : Type} {enc : TypeId × Value → H} {W : World} (hu : Tryz.prog.underlying S = some (.slice E)) (hk : Tryz.prog.cellsOf E = k) (h0 : 0 < k)
    (hR : ∀ fuel cs x, DataW.trod enc Tryz.prog W 0 (fun _ => true) true fuel E cs = some x → cs.length = k ∧ ∃ y, R W cs y) {fuel : Nat} {cs : List Value} {x : DataW H × List MemPlace} (h : DataW.trod enc Tryz.prog W 0 (fun _ => true) true fuel S cs = some x) :
    ∃ b L c, cs = [.slice b L.length c] ∧ GIn R T False k W b L.length L := by
  rcases open_slice hu h with ⟨hcs, _⟩ | ⟨a, len, cap, m, n, D, Pl, hcs, _, hl, hm, hmm, _, hi⟩
  · exact ⟨none, [], 0, hcs, GIn.nil⟩
  · simp only [if_true] at hmm
    rw [hk, hmm] at hi
    have key : ∀ m, m ≤ len → ∃ L : List α, L.length = m ∧ ∀ (n : Nat) (x : α), L[n]? = some x → ∃ cs, cs.length = k ∧ (∀ i v, cs[i]? = some v → W.cell? ((a.add (n * k)).add i) = some v) ∧ R W cs x := by
      intro m
      induction m with
      | zero => exact fun _ => ⟨[], rfl, fun n x h => by simp at h⟩
      | succ m ih =>
        intro hm2
        obtain ⟨L, hL, hx⟩ := ih (by omega)
        obtain ⟨cs', hc, ht⟩ := hi m (by omega)
        obtain ⟨hlen, y, hy⟩ := hR _ _ _ ht
        obtain ⟨_, _, hat⟩ := World.cells?_some hc
        refine ⟨L ++ [y], by simp [hL], fun n x hn => ?_⟩
        by_cases hlt : n < L.length
        · rw [List.getElem?_append_left hlt] at hn
          exact hx n x hn
        · have hn2 := (List.getElem?_eq_some_iff.1 hn).1
          simp at hn2
          have : n = m := by omega
          subst this
          rw [List.getElem?_append_right (by omega), hL, Nat.sub_self] at hn
          simp at hn
          subst hn
          exact ⟨cs', hlen, fun i v hv => (hat i (by have := (List.getElem?_eq_some_iff.1 hv).1; omega)).trans hv, hy⟩
    obtain ⟨L, hL, hx⟩ := key len (Nat.le_refl _)
    subst hL
    refine ⟨some a, L, cap, hcs, rfl, by unfold maxLen at hm; omega, fun n x hn => ?_⟩
    obtain ⟨cs', hlen, hc, hr⟩ := hx n x hn
    obtain ⟨v, hv⟩ : ∃ v, cs'[0]? = some v := ⟨cs'[0]'(by omega), List.getElem?_eq_getElem (by omega)⟩
    have hc0 := hc 0 v hv
    have hsp : ∃ g off, a = ⟨g, off, none⟩ := by
      obtain ⟨x0, hx0⟩ : ∃ x0, L[0]? = some x0 := ⟨L[0]'(by have := (List.getElem?_eq_some_iff.1 hn).1; omega), List.getElem?_eq_getElem _⟩
      obtain ⟨cs0, hlen0, hc0', _⟩ := hx 0 x0 hx0
      obtain ⟨v0, hv0⟩ : ∃ v, cs0[0]? = some v := ⟨cs0[0]'(by omega), List.getElem?_eq_getElem (by omega)⟩
      have h1 := hc0' 0 v0 hv0
      obtain ⟨g, off, spot⟩ := a
      have hspot : spot = none := by simpa [Addr.add] using World.cell?_spot h1
      exact ⟨g, off, by rw [hspot]⟩
    obtain ⟨g, off, rfl⟩ := hsp
    simp only [tr_add] at hc hc0
    exact ⟨g, off, cs', rfl, by unfold World.cell? at hc0; exact (by
      rcases Nat.lt_or_ge g W.heap.size with h' | h'
      · exact h'
      · simp [Array.getElem?_eq_none h'] at hc0), hlen, hc, hr, fun h => h.elim⟩
theorem of_len3 {α : Type} : ∀ {l : List α}, l.length = 3 → ∃ a0 a1 a2, l = [a0, a1, a2]
  | [a0, a1, a2], _ => ⟨a0, a1, a2, rfl⟩
theorem of_len4 {α : Type} : ∀ {l : List α}, l.length = 4 → ∃ a0 a1 a2 a3, l = [a0, a1, a2, a3]
  | [a0, a1, a2, a3], _ => ⟨a0, a1, a2, a3, rfl⟩
theorem of_len5 {α : Type} : ∀ {l : List α}, l.length = 5 → ∃ a0 a1 a2 a3 a4, l = [a0, a1, a2, a3, a4]
  | [a0, a1, a2, a3, a4], _ => ⟨a0, a1, a2, a3, a4, rfl⟩
theorem of_len7 {α : Type} : ∀ {l : List α}, l.length = 7 → ∃ a0 a1 a2 a3 a4 a5 a6, l = [a0, a1, a2, a3, a4, a5, a6]
  | [a0, a1, a2, a3, a4, a5, a6], _ => ⟨a0, a1, a2, a3, a4, a5, a6, rfl⟩
theorem of_len8 {α : Type} : ∀ {l : List α}, l.length = 8 → ∃ a0 a1 a2 a3 a4 a5 a6 a7, l = [a0, a1, a2, a3, a4, a5, a6, a7]
  | [a0, a1, a2, a3, a4, a5, a6, a7], _ => ⟨a0, a1, a2, a3, a4, a5, a6, a7, rfl⟩
theorem of_len10 {α : Type} : ∀ {l : List α}, l.length = 10 → ∃ a0 a1 a2 a3 a4 a5 a6 a7 a8 a9, l = [a0, a1, a2, a3, a4, a5, a6, a7, a8, a9]
  | [a0, a1, a2, a3, a4, a5, a6, a7, a8, a9], _ => ⟨a0, a1, a2, a3, a4, a5, a6, a7, a8, a9, rfl⟩
theorem of_len12 {α : Type} : ∀ {l : List α}, l.length = 12 → ∃ a0 a1 a2 a3 a4 a5 a6 a7 a8 a9 a10 a11, l = [a0, a1, a2, a3, a4, a5, a6, a7, a8, a9, a10, a11]
  | [a0, a1, a2, a3, a4, a5, a6, a7, a8, a9, a10, a11], _ => ⟨a0, a1, a2, a3, a4, a5, a6, a7, a8, a9, a10, a11, rfl⟩
theorem of_len13 {α : Type} : ∀ {l : List α}, l.length = 13 → ∃ a0 a1 a2 a3 a4 a5 a6 a7 a8 a9 a10 a11 a12, l = [a0, a1, a2, a3, a4, a5, a6, a7, a8, a9, a10, a11, a12]
  | [a0, a1, a2, a3, a4, a5, a6, a7, a8, a9, a10, a11, a12], _ => ⟨a0, a1, a2, a3, a4, a5, a6, a7, a8, a9, a10, a11, a12, rfl⟩
theorem tc_str : Tryz.prog.cellsOf 9 = 1 := by kernel_rfl
theorem tc_int : Tryz.prog.cellsOf 3 = 1 := by kernel_rfl
theorem tc_i64 : Tryz.prog.cellsOf 2 = 1 := by kernel_rfl
theorem tc_bool : Tryz.prog.cellsOf 4 = 1 := by kernel_rfl
theorem tc_Id : Tryz.prog.cellsOf 23 = 3 := by kernel_rfl
theorem tc_V : Tryz.prog.cellsOf 41 = 4 := by kernel_rfl
theorem tc_Ag : Tryz.prog.cellsOf 101 = 8 := by kernel_rfl
theorem tc_Ex : Tryz.prog.cellsOf 53 = 10 := by kernel_rfl
theorem tc_Se : Tryz.prog.cellsOf 92 = 4 := by kernel_rfl
theorem tc_Qu : Tryz.prog.cellsOf 57 = 5 := by kernel_rfl
theorem tc_Fr : Tryz.prog.cellsOf 43 = 7 := by kernel_rfl
theorem tc_Sta : Tryz.prog.cellsOf 60 = 5 := by kernel_rfl
theorem tc_De : Tryz.prog.cellsOf 39 = 4 := by kernel_rfl
theorem tc_Sy : Tryz.prog.cellsOf 47 = 4 := by kernel_rfl
theorem tc_Ts : Tryz.prog.cellsOf 51 = 13 := by kernel_rfl
theorem tc_Tr : Tryz.prog.cellsOf 31 = 12 := by kernel_rfl
theorem tc_lint : Tryz.prog.cellsOf 37 = 1 := by kernel_rfl
theorem tc_lAg : Tryz.prog.cellsOf 45 = 1 := by kernel_rfl
theorem tc_lEx : Tryz.prog.cellsOf 48 = 1 := by kernel_rfl
theorem tc_lSe : Tryz.prog.cellsOf 49 = 1 := by kernel_rfl
theorem tc_lQu : Tryz.prog.cellsOf 25 = 1 := by kernel_rfl
theorem tc_lFr : Tryz.prog.cellsOf 26 = 1 := by kernel_rfl
theorem tc_lSta : Tryz.prog.cellsOf 27 = 1 := by kernel_rfl
theorem tc_lDe : Tryz.prog.cellsOf 24 = 1 := by kernel_rfl
theorem tc_lSy : Tryz.prog.cellsOf 28 = 1 := by kernel_rfl
theorem tc_lTs : Tryz.prog.cellsOf 29 = 1 := by kernel_rfl
set_option maxRecDepth 100000 in
theorem open_Id0 {H : Type} {enc : TypeId × Value → H} {W : World} {fuel : Nat} {cs : List Value} {x : DataW H × List MemPlace} (h : DataW.trod enc Tryz.prog W 0 (fun _ => true) true fuel 23 cs = some x) : cs.length = 3 ∧ ∃ y : Id3, cs = idC y ∧ okS y.t := by
  obtain ⟨n0, y0, h0⟩ := trod_field Tryz.underlying23 h (i := 0) rfl
  obtain ⟨n1, y1, h1⟩ := trod_field Tryz.underlying23 h (i := 1) rfl
  obtain ⟨n2, y2, h2⟩ := trod_field Tryz.underlying23 h (i := 2) rfl
  have hl := trod_len Tryz.underlying23 h
  rw [tc_Id] at hl
  obtain ⟨a0, a1, a2, rfl⟩ := of_len3 hl
  simp [tc_str] at h0
  simp [tc_int] at h1
  simp [tc_int] at h2
  obtain ⟨s0, e0, _, z0⟩ := DataW.trod_string Tryz.underlying9 h0
  obtain ⟨i1, e1, _, z1⟩ := DataW.trod_int Tryz.underlying3 h1
  obtain ⟨i2, e2, _, z2⟩ := DataW.trod_int Tryz.underlying3 h2
  simp [List.cons.injEq] at e0 e1 e2
  exact ⟨rfl, ⟨s0, i1, i2⟩, by simp [idC, *], by unfold okS; unfold maxLen at z0; omega⟩
set_option maxRecDepth 100000 in
theorem open_V0 {H : Type} {enc : TypeId × Value → H} {W : World} {fuel : Nat} {cs : List Value} {x : DataW H × List MemPlace} (h : DataW.trod enc Tryz.prog W 0 (fun _ => true) true fuel 41 cs = some x) : cs.length = 4 ∧ ∃ y : Vd, cs = vC y ∧ okV y := by
  obtain ⟨n0, y0, h0⟩ := trod_field Tryz.underlying41 h (i := 0) rfl
  obtain ⟨n1, y1, h1⟩ := trod_field Tryz.underlying41 h (i := 1) rfl
  obtain ⟨n2, y2, h2⟩ := trod_field Tryz.underlying41 h (i := 2) rfl
  obtain ⟨n3, y3, h3⟩ := trod_field Tryz.underlying41 h (i := 3) rfl
  have hl := trod_len Tryz.underlying41 h
  rw [tc_V] at hl
  obtain ⟨a0, a1, a2, a3, rfl⟩ := of_len4 hl
  simp [tc_int] at h0
  simp [tc_i64] at h1
  simp [tc_str] at h2
  simp [tc_bool] at h3
  obtain ⟨i0, e0, _, z0⟩ := DataW.trod_int Tryz.underlying3 h0
  obtain ⟨i1, e1, _, z1⟩ := DataW.trod_int Tryz.underlying2 h1
  obtain ⟨s2, e2, _, z2⟩ := DataW.trod_string Tryz.underlying9 h2
  obtain ⟨b3, e3, _⟩ := DataW.trod_bool Tryz.underlying4 h3
  simp [List.cons.injEq] at e0 e1 e2 e3
  exact ⟨rfl, ⟨i0, i1, s2, b3⟩, by simp [vC, *], by unfold okS; unfold maxLen at z2; omega, bounds_i64 z1⟩
set_option maxRecDepth 100000 in
theorem open_Ag0 {H : Type} {enc : TypeId × Value → H} {W : World} {fuel : Nat} {cs : List Value} {x : DataW H × List MemPlace} (h : DataW.trod enc Tryz.prog W 0 (fun _ => true) true fuel 101 cs = some x) : cs.length = 8 ∧ ∃ y : Ag, rAg W cs y := by
  obtain ⟨n0, y0, h0⟩ := trod_field Tryz.underlying101 h (i := 0) rfl
  obtain ⟨n1, y1, h1⟩ := trod_field Tryz.underlying101 h (i := 1) rfl
  obtain ⟨n2, y2, h2⟩ := trod_field Tryz.underlying101 h (i := 2) rfl
  obtain ⟨n3, y3, h3⟩ := trod_field Tryz.underlying101 h (i := 3) rfl
  obtain ⟨n4, y4, h4⟩ := trod_field Tryz.underlying101 h (i := 4) rfl
  have hl := trod_len Tryz.underlying101 h
  rw [tc_Ag] at hl
  obtain ⟨a0, a1, a2, a3, a4, a5, a6, a7, rfl⟩ := of_len8 hl
  simp [tc_int] at h0
  simp [tc_str] at h1
  simp [tc_V] at h2
  simp [tc_int] at h3
  simp [tc_int] at h4
  obtain ⟨i0, e0, _, z0⟩ := DataW.trod_int Tryz.underlying3 h0
  obtain ⟨s1, e1, _, z1⟩ := DataW.trod_string Tryz.underlying9 h1
  obtain ⟨_, v2, e2, z2⟩ := open_V0 h2
  obtain ⟨i3, e3, _, z3⟩ := DataW.trod_int Tryz.underlying3 h3
  obtain ⟨i4, e4, _, z4⟩ := DataW.trod_int Tryz.underlying3 h4
  simp [vC] at e0 e1 e2 e3 e4
  exact ⟨rfl, ⟨i0, s1, v2, i3, i4⟩, by simp [agC, *], by unfold okS; unfold maxLen at z1; omega, z2⟩
set_option maxRecDepth 100000 in
theorem open_Ex0 {H : Type} {enc : TypeId × Value → H} {W : World} {fuel : Nat} {cs : List Value} {x : DataW H × List MemPlace} (h : DataW.trod enc Tryz.prog W 0 (fun _ => true) true fuel 53 cs = some x) : cs.length = 10 ∧ ∃ y : Ex, rEx W cs y := by
  obtain ⟨n0, y0, h0⟩ := trod_field Tryz.underlying53 h (i := 0) rfl
  obtain ⟨n1, y1, h1⟩ := trod_field Tryz.underlying53 h (i := 1) rfl
  obtain ⟨n2, y2, h2⟩ := trod_field Tryz.underlying53 h (i := 2) rfl
  obtain ⟨n3, y3, h3⟩ := trod_field Tryz.underlying53 h (i := 3) rfl
  obtain ⟨n4, y4, h4⟩ := trod_field Tryz.underlying53 h (i := 4) rfl
  obtain ⟨n5, y5, h5⟩ := trod_field Tryz.underlying53 h (i := 5) rfl
  obtain ⟨n6, y6, h6⟩ := trod_field Tryz.underlying53 h (i := 6) rfl
  have hl := trod_len Tryz.underlying53 h
  rw [tc_Ex] at hl
  obtain ⟨a0, a1, a2, a3, a4, a5, a6, a7, a8, a9, rfl⟩ := of_len10 hl
  simp [tc_int] at h0
  simp [tc_int] at h1
  simp [tc_int] at h2
  simp [tc_str] at h3
  simp [tc_V] at h4
  simp [tc_int] at h5
  simp [tc_int] at h6
  obtain ⟨i0, e0, _, z0⟩ := DataW.trod_int Tryz.underlying3 h0
  obtain ⟨i1, e1, _, z1⟩ := DataW.trod_int Tryz.underlying3 h1
  obtain ⟨i2, e2, _, z2⟩ := DataW.trod_int Tryz.underlying3 h2
  obtain ⟨s3, e3, _, z3⟩ := DataW.trod_string Tryz.underlying9 h3
  obtain ⟨_, v4, e4, z4⟩ := open_V0 h4
  obtain ⟨i5, e5, _, z5⟩ := DataW.trod_int Tryz.underlying3 h5
  obtain ⟨i6, e6, _, z6⟩ := DataW.trod_int Tryz.underlying3 h6
  simp [vC] at e0 e1 e2 e3 e4 e5 e6
  exact ⟨rfl, ⟨i0, i1, i2, s3, v4, i5, i6⟩, by simp [exC, *], by unfold okS; unfold maxLen at z3; omega, z4⟩
set_option maxRecDepth 100000 in
theorem open_Se0 {H : Type} {enc : TypeId × Value → H} {W : World} {fuel : Nat} {cs : List Value} {x : DataW H × List MemPlace} (h : DataW.trod enc Tryz.prog W 0 (fun _ => true) true fuel 92 cs = some x) : cs.length = 4 ∧ ∃ y : Se, rSe W cs y := by
  obtain ⟨n0, y0, h0⟩ := trod_field Tryz.underlying92 h (i := 0) rfl
  obtain ⟨n1, y1, h1⟩ := trod_field Tryz.underlying92 h (i := 1) rfl
  have hl := trod_len Tryz.underlying92 h
  rw [tc_Se] at hl
  obtain ⟨a0, a1, a2, a3, rfl⟩ := of_len4 hl
  simp [tc_Id] at h0
  simp [tc_int] at h1
  obtain ⟨_, x0, e0, z0⟩ := open_Id0 h0
  obtain ⟨i1, e1, _, z1⟩ := DataW.trod_int Tryz.underlying3 h1
  simp [idC] at e0 e1
  exact ⟨rfl, ⟨x0, i1⟩, by simp [seC, *], z0⟩
set_option maxRecDepth 100000 in
theorem open_Qu0 {H : Type} {enc : TypeId × Value → H} {W : World} {fuel : Nat} {cs : List Value} {x : DataW H × List MemPlace} (h : DataW.trod enc Tryz.prog W 0 (fun _ => true) true fuel 57 cs = some x) : cs.length = 5 ∧ ∃ y : Qu, rQu W cs y := by
  obtain ⟨n0, y0, h0⟩ := trod_field Tryz.underlying57 h (i := 0) rfl
  obtain ⟨n1, y1, h1⟩ := trod_field Tryz.underlying57 h (i := 1) rfl
  obtain ⟨n2, y2, h2⟩ := trod_field Tryz.underlying57 h (i := 2) rfl
  have hl := trod_len Tryz.underlying57 h
  rw [tc_Qu] at hl
  obtain ⟨a0, a1, a2, a3, a4, rfl⟩ := of_len5 hl
  simp [tc_bool] at h0
  simp [tc_Id] at h1
  simp [tc_int] at h2
  obtain ⟨b0, e0, _⟩ := DataW.trod_bool Tryz.underlying4 h0
  obtain ⟨_, x1, e1, z1⟩ := open_Id0 h1
  obtain ⟨i2, e2, _, z2⟩ := DataW.trod_int Tryz.underlying3 h2
  simp [idC] at e0 e1 e2
  exact ⟨rfl, ⟨b0, x1, i2⟩, by simp [quC, *], z1⟩
set_option maxRecDepth 100000 in
theorem open_Fr0 {H : Type} {enc : TypeId × Value → H} {W : World} {fuel : Nat} {cs : List Value} {x : DataW H × List MemPlace} (h : DataW.trod enc Tryz.prog W 0 (fun _ => true) true fuel 43 cs = some x) : cs.length = 7 ∧ ∃ y : Fr, rFr W cs y := by
  obtain ⟨n0, y0, h0⟩ := trod_field Tryz.underlying43 h (i := 0) rfl
  obtain ⟨n1, y1, h1⟩ := trod_field Tryz.underlying43 h (i := 1) rfl
  have hl := trod_len Tryz.underlying43 h
  rw [tc_Fr] at hl
  obtain ⟨a0, a1, a2, a3, a4, a5, a6, rfl⟩ := of_len7 hl
  simp [tc_Id] at h0
  simp [tc_V] at h1
  obtain ⟨_, x0, e0, z0⟩ := open_Id0 h0
  obtain ⟨_, v1, e1, z1⟩ := open_V0 h1
  simp [idC, vC] at e0 e1
  exact ⟨rfl, ⟨x0, v1⟩, by simp [frC, *], z0, z1⟩
set_option maxRecDepth 100000 in
theorem open_Sta0 {H : Type} {enc : TypeId × Value → H} {W : World} {fuel : Nat} {cs : List Value} {x : DataW H × List MemPlace} (h : DataW.trod enc Tryz.prog W 0 (fun _ => true) true fuel 60 cs = some x) : cs.length = 5 ∧ ∃ y : Sta, rSta W cs y := by
  obtain ⟨n0, y0, h0⟩ := trod_field Tryz.underlying60 h (i := 0) rfl
  obtain ⟨n1, y1, h1⟩ := trod_field Tryz.underlying60 h (i := 1) rfl
  obtain ⟨n2, y2, h2⟩ := trod_field Tryz.underlying60 h (i := 2) rfl
  have hl := trod_len Tryz.underlying60 h
  rw [tc_Sta] at hl
  obtain ⟨a0, a1, a2, a3, a4, rfl⟩ := of_len5 hl
  simp [tc_Id] at h0
  simp [tc_bool] at h1
  simp [tc_bool] at h2
  obtain ⟨_, x0, e0, z0⟩ := open_Id0 h0
  obtain ⟨b1, e1, _⟩ := DataW.trod_bool Tryz.underlying4 h1
  obtain ⟨b2, e2, _⟩ := DataW.trod_bool Tryz.underlying4 h2
  simp [idC] at e0 e1 e2
  exact ⟨rfl, ⟨x0, b1, b2⟩, by simp [staC, *], z0⟩
theorem open_int0 {H : Type} {enc : TypeId × Value → H} {W : World} {fuel : Nat} {cs : List Value} {x : DataW H × List MemPlace} (h : DataW.trod enc Tryz.prog W 0 (fun _ => true) true fuel 3 cs = some x) : cs.length = 1 ∧ ∃ y : Int, rInt W cs y := by
  obtain ⟨n, e, _, _⟩ := DataW.trod_int Tryz.underlying3 h
  exact ⟨by rw [e]; rfl, n, e, trivial⟩
theorem open_lint {H : Type} {enc : TypeId × Value → H} {W : World} {fuel : Nat} {cs : List Value} {x : DataW H × List MemPlace} {T : TypeId} (h : DataW.trod enc Tryz.prog W 0 (fun _ => true) true fuel 37 cs = some x) : ∃ b L c, cs = [.slice b L.length c] ∧ GIn rInt T False 1 W b L.length L :=
  open_gin Tryz.underlying37 tc_int (by omega) (fun _ _ _ h => open_int0 h) h
theorem open_lAg {H : Type} {enc : TypeId × Value → H} {W : World} {fuel : Nat} {cs : List Value} {x : DataW H × List MemPlace} {T : TypeId} (h : DataW.trod enc Tryz.prog W 0 (fun _ => true) true fuel 45 cs = some x) : ∃ b L c, cs = [.slice b L.length c] ∧ GIn rAg T False 8 W b L.length L :=
  open_gin Tryz.underlying45 tc_Ag (by omega) (fun _ _ _ h => open_Ag0 h) h
theorem open_lEx {H : Type} {enc : TypeId × Value → H} {W : World} {fuel : Nat} {cs : List Value} {x : DataW H × List MemPlace} {T : TypeId} (h : DataW.trod enc Tryz.prog W 0 (fun _ => true) true fuel 48 cs = some x) : ∃ b L c, cs = [.slice b L.length c] ∧ GIn rEx T False 10 W b L.length L :=
  open_gin Tryz.underlying48 tc_Ex (by omega) (fun _ _ _ h => open_Ex0 h) h
theorem open_lSe {H : Type} {enc : TypeId × Value → H} {W : World} {fuel : Nat} {cs : List Value} {x : DataW H × List MemPlace} {T : TypeId} (h : DataW.trod enc Tryz.prog W 0 (fun _ => true) true fuel 49 cs = some x) : ∃ b L c, cs = [.slice b L.length c] ∧ GIn rSe T False 4 W b L.length L :=
  open_gin Tryz.underlying49 tc_Se (by omega) (fun _ _ _ h => open_Se0 h) h
theorem open_lQu {H : Type} {enc : TypeId × Value → H} {W : World} {fuel : Nat} {cs : List Value} {x : DataW H × List MemPlace} {T : TypeId} (h : DataW.trod enc Tryz.prog W 0 (fun _ => true) true fuel 25 cs = some x) : ∃ b L c, cs = [.slice b L.length c] ∧ GIn rQu T False 5 W b L.length L :=
  open_gin Tryz.underlying25 tc_Qu (by omega) (fun _ _ _ h => open_Qu0 h) h
theorem open_lFr {H : Type} {enc : TypeId × Value → H} {W : World} {fuel : Nat} {cs : List Value} {x : DataW H × List MemPlace} {T : TypeId} (h : DataW.trod enc Tryz.prog W 0 (fun _ => true) true fuel 26 cs = some x) : ∃ b L c, cs = [.slice b L.length c] ∧ GIn rFr T False 7 W b L.length L :=
  open_gin Tryz.underlying26 tc_Fr (by omega) (fun _ _ _ h => open_Fr0 h) h
theorem open_lSta {H : Type} {enc : TypeId × Value → H} {W : World} {fuel : Nat} {cs : List Value} {x : DataW H × List MemPlace} {T : TypeId} (h : DataW.trod enc Tryz.prog W 0 (fun _ => true) true fuel 27 cs = some x) : ∃ b L c, cs = [.slice b L.length c] ∧ GIn rSta T False 5 W b L.length L :=
  open_gin Tryz.underlying27 tc_Sta (by omega) (fun _ _ _ h => open_Sta0 h) h
set_option maxRecDepth 100000 in
theorem open_De0 {Y : TyT} {H : Type} {enc : TypeId × Value → H} {W : World} {fuel : Nat} {cs : List Value} {x : DataW H × List MemPlace} (h : DataW.trod enc Tryz.prog W 0 (fun _ => true) true fuel 39 cs = some x) : cs.length = 4 ∧ ∃ y : De, rDe Y False W cs y := by
  obtain ⟨n0, y0, h0⟩ := trod_field Tryz.underlying39 h (i := 0) rfl
  obtain ⟨n1, y1, h1⟩ := trod_field Tryz.underlying39 h (i := 1) rfl
  have hl := trod_len Tryz.underlying39 h
  rw [tc_De] at hl
  obtain ⟨a0, a1, a2, a3, rfl⟩ := of_len4 hl
  simp [tc_Id] at h0
  simp [tc_lint] at h1
  obtain ⟨_, x0, e0, z0⟩ := open_Id0 h0
  obtain ⟨a_1, l1, c1, e1, g1⟩ := open_lint h1
  simp [idC] at e0 e1
  exact ⟨rfl, ⟨x0, l1⟩, a_1, c1, by simp [*], g1, z0⟩
set_option maxRecDepth 100000 in
theorem open_Sy0 {Y : TyT} {H : Type} {enc : TypeId × Value → H} {W : World} {fuel : Nat} {cs : List Value} {x : DataW H × List MemPlace} (h : DataW.trod enc Tryz.prog W 0 (fun _ => true) true fuel 47 cs = some x) : cs.length = 4 ∧ ∃ y : Sy, rSy Y False W cs y := by
  obtain ⟨n0, y0, h0⟩ := trod_field Tryz.underlying47 h (i := 0) rfl
  obtain ⟨n1, y1, h1⟩ := trod_field Tryz.underlying47 h (i := 1) rfl
  obtain ⟨n2, y2, h2⟩ := trod_field Tryz.underlying47 h (i := 2) rfl
  obtain ⟨n3, y3, h3⟩ := trod_field Tryz.underlying47 h (i := 3) rfl
  have hl := trod_len Tryz.underlying47 h
  rw [tc_Sy] at hl
  obtain ⟨a0, a1, a2, a3, rfl⟩ := of_len4 hl
  simp [tc_str] at h0
  simp [tc_lAg] at h1
  simp [tc_int] at h2
  simp [tc_int] at h3
  obtain ⟨s0, e0, _, z0⟩ := DataW.trod_string Tryz.underlying9 h0
  obtain ⟨a_1, l1, c1, e1, g1⟩ := open_lAg h1
  obtain ⟨i2, e2, _, z2⟩ := DataW.trod_int Tryz.underlying3 h2
  obtain ⟨i3, e3, _, z3⟩ := DataW.trod_int Tryz.underlying3 h3
  simp [List.cons.injEq] at e0 e1 e2 e3
  exact ⟨rfl, ⟨s0, l1, i2, i3⟩, a_1, c1, by simp [*], g1, by unfold okS; unfold maxLen at z0; omega⟩
set_option maxRecDepth 100000 in
theorem open_Ts0 {Y : TyT} {H : Type} {enc : TypeId × Value → H} {W : World} {fuel : Nat} {cs : List Value} {x : DataW H × List MemPlace} (h : DataW.trod enc Tryz.prog W 0 (fun _ => true) true fuel 51 cs = some x) : cs.length = 13 ∧ ∃ y : Ts, rTs Y False W cs y := by
  obtain ⟨n0, y0, h0⟩ := trod_field Tryz.underlying51 h (i := 0) rfl
  obtain ⟨n1, y1, h1⟩ := trod_field Tryz.underlying51 h (i := 1) rfl
  obtain ⟨n2, y2, h2⟩ := trod_field Tryz.underlying51 h (i := 2) rfl
  obtain ⟨n3, y3, h3⟩ := trod_field Tryz.underlying51 h (i := 3) rfl
  obtain ⟨n4, y4, h4⟩ := trod_field Tryz.underlying51 h (i := 4) rfl
  obtain ⟨n5, y5, h5⟩ := trod_field Tryz.underlying51 h (i := 5) rfl
  have hl := trod_len Tryz.underlying51 h
  rw [tc_Ts] at hl
  obtain ⟨a0, a1, a2, a3, a4, a5, a6, a7, a8, a9, a10, a11, a12, rfl⟩ := of_len13 hl
  simp [tc_Id] at h0
  simp [tc_Id] at h1
  simp [tc_Sy] at h2
  simp [tc_lEx] at h3
  simp [tc_int] at h4
  simp [tc_lSe] at h5
  obtain ⟨_, x0, e0, z0⟩ := open_Id0 h0
  obtain ⟨_, x1, e1, z1⟩ := open_Id0 h1
  obtain ⟨_, y2s, a_2, c2, e2, g2, z2⟩ := open_Sy0 (Y := Y) h2
  obtain ⟨a_3, l3, c3, e3, g3⟩ := open_lEx h3
  obtain ⟨i4, e4, _, z4⟩ := DataW.trod_int Tryz.underlying3 h4
  obtain ⟨a_5, l5, c5, e5, g5⟩ := open_lSe h5
  simp [idC] at e0 e1 e2 e3 e4 e5
  exact ⟨rfl, ⟨x0, x1, y2s, l3, i4, l5⟩, a_2, c2, a_3, c3, a_5, c5, by simp [*], g2, g3, g5, z0, z1, z2⟩
theorem open_lDe {Y : TyT} {H : Type} {enc : TypeId × Value → H} {W : World} {fuel : Nat} {cs : List Value} {x : DataW H × List MemPlace} {T : TypeId} (h : DataW.trod enc Tryz.prog W 0 (fun _ => true) true fuel 24 cs = some x) : ∃ b L c, cs = [.slice b L.length c] ∧ GIn (rDe Y False) T False 4 W b L.length L :=
  open_gin Tryz.underlying24 tc_De (by omega) (fun _ _ _ h => open_De0 (Y := Y) h) h
theorem open_lSy {Y : TyT} {H : Type} {enc : TypeId × Value → H} {W : World} {fuel : Nat} {cs : List Value} {x : DataW H × List MemPlace} {T : TypeId} (h : DataW.trod enc Tryz.prog W 0 (fun _ => true) true fuel 28 cs = some x) : ∃ b L c, cs = [.slice b L.length c] ∧ GIn (rSy Y False) T False 4 W b L.length L :=
  open_gin Tryz.underlying28 tc_Sy (by omega) (fun _ _ _ h => open_Sy0 (Y := Y) h) h
theorem open_lTs {Y : TyT} {H : Type} {enc : TypeId × Value → H} {W : World} {fuel : Nat} {cs : List Value} {x : DataW H × List MemPlace} {T : TypeId} (h : DataW.trod enc Tryz.prog W 0 (fun _ => true) true fuel 29 cs = some x) : ∃ b L c, cs = [.slice b L.length c] ∧ GIn (rTs Y False) T False 13 W b L.length L :=
  open_gin Tryz.underlying29 tc_Ts (by omega) (fun _ _ _ h => open_Ts0 (Y := Y) h) h
set_option maxRecDepth 100000 in
theorem open_Tr0 {Y : TyT} {H : Type} {enc : TypeId × Value → H} {W : World} {fuel : Nat} {cs : List Value} {x : DataW H × List MemPlace} (h : DataW.trod enc Tryz.prog W 0 (fun _ => true) true fuel 31 cs = some x) : cs.length = 12 ∧ ∃ y : Tr, TrIn Y False W cs y := by
  obtain ⟨n0, y0, h0⟩ := trod_field Tryz.underlying31 h (i := 0) rfl
  obtain ⟨n1, y1, h1⟩ := trod_field Tryz.underlying31 h (i := 1) rfl
  obtain ⟨n2, y2, h2⟩ := trod_field Tryz.underlying31 h (i := 2) rfl
  obtain ⟨n3, y3, h3⟩ := trod_field Tryz.underlying31 h (i := 3) rfl
  obtain ⟨n4, y4, h4⟩ := trod_field Tryz.underlying31 h (i := 4) rfl
  obtain ⟨n5, y5, h5⟩ := trod_field Tryz.underlying31 h (i := 5) rfl
  obtain ⟨n6, y6, h6⟩ := trod_field Tryz.underlying31 h (i := 6) rfl
  obtain ⟨n7, y7, h7⟩ := trod_field Tryz.underlying31 h (i := 7) rfl
  have hl := trod_len Tryz.underlying31 h
  rw [tc_Tr] at hl
  obtain ⟨a0, a1, a2, a3, a4, a5, a6, a7, a8, a9, a10, a11, rfl⟩ := of_len12 hl
  simp [tc_Id] at h0
  simp [tc_lDe] at h1
  simp [tc_lQu] at h2
  simp [tc_lFr] at h3
  simp [tc_lSta] at h4
  simp [tc_Id] at h5
  simp [tc_lSy] at h6
  simp [tc_lTs] at h7
  obtain ⟨_, x0, e0, z0⟩ := open_Id0 h0
  obtain ⟨a_1, l1, c1, e1, g1⟩ := open_lDe (Y := Y) (T := Y.de) h1
  obtain ⟨a_2, l2, c2, e2, g2⟩ := open_lQu (T := Y.qu) h2
  obtain ⟨a_3, l3, c3, e3, g3⟩ := open_lFr (T := Y.fr) h3
  obtain ⟨a_4, l4, c4, e4, g4⟩ := open_lSta (T := Y.st) h4
  obtain ⟨_, x5, e5, z5⟩ := open_Id0 h5
  obtain ⟨a_6, l6, c6, e6, g6⟩ := open_lSy (Y := Y) (T := Y.sy) h6
  obtain ⟨a_7, l7, c7, e7, g7⟩ := open_lTs (Y := Y) (T := Y.ts) h7
  simp [idC] at e0 e1 e2 e3 e4 e5 e6 e7
  exact ⟨rfl, ⟨x0, l1, l2, l3, l4, x5, l6, l7⟩, ⟨a_1, c1, a_2, c2, a_3, c3, a_4, c4, a_6, c6, a_7, c7, by simp [*], g1, g2, g3, g4, g6, g7⟩, z0, z5⟩
set_option maxRecDepth 100000 in
/-- A tree by value. -/
theorem open_tree {Y : TyT} {H : Type} {enc : TypeId × Value → H} {W : World} {r : Reach} {b0 : Nat} {v : Value} {d : DataW H} {p : List MemPlace} (hv : Value.okWide Tryz.prog W r b0 31 v)
    (h : DataW.Trod enc Tryz.prog W 0 (fun _ => true) true 31 v d p) : ∃ (cs : List Value) (s : Tr), v = .agg cs.toArray ∧ TrIn Y False W cs s := by
  obtain ⟨cs, rfl, hsz⟩ := okWide_struct Tryz.underlying31 hv
  obtain ⟨fuel, hf⟩ := h
  obtain ⟨_, s, hs⟩ := open_Tr0 (Y := Y) hf
  exact ⟨_, s, by simp [Value.cells], hs⟩
end Go.Proofs.YtojabkhfkbfeaaaGreatDoor
