/- What a row's list gives: the table of words. -/
import Derived.Test.YtojabkhfkbfeaaaDoorScWord
import Derived.Lib.LaidTab
import Derived.LaidMore
import Derived.Stop.Joined
import Derived.Stop.LaidErr
import Derived.ProofKit
namespace Go.Proofs.YtojabkhfkbfeaaaDoor
open Go.RowKit
set_option linter.unusedVariables false

theorem sc_cellsS : Tryd.prog.cellsOf 9 = 1 := by kernel_rfl
theorem sc_cellsW : Tryd.prog.cellsOf 88 = 22 := by kernel_rfl
theorem gWdsType : (Tryd.prog.globals[0]?).map (·.type) = some 88 := by kernel_rfl
theorem words_laid : (Rows.laid_proctor_schema_words : DataW Unit) = .agg (wordsL.map fun s => .lit (.string s.data.toList)) := rfl
theorem wordsV_list : wordsV.toList = (List.range 22).map fun i => .string (wordAt i) := rfl
theorem wds_of_head {W : World} {rest : List (String × DataW Unit)} (h : laidMet Tryd.prog (("proctor/schema.words", Rows.laid_proctor_schema_words) :: rest) W) : Wds W := by
  obtain ⟨ps, ⟨g', t', cs, fuel, p, q, hg', ht', hvar, hd, _, _⟩, _⟩ := h
  obtain rfl := Option.some.inj (gWds.symm.trans hg')
  obtain rfl := Option.some.inj (gWdsType.symm.trans ht')
  refine wds_of_var ?_
  rw [hvar]
  cases fuel with
  | zero => simp [DataW.trod] at hd
  | succ fuel =>
    simp only [DataW.trod, Tryd.underlying88, sc_cellsW, sc_cellsS] at hd
    split at hd
    · rename_i hl
      obtain ⟨xs, hm, hx⟩ := Option.map_eq_some_iff.1 hd
      have hxs : xs.map (·.1) = wordsL.map fun s => .lit (.string s.data.toList) := by
        have := congrArg Prod.fst hx
        rw [words_laid] at this
        simpa using this
      have key : ∀ i, i < 22 → cs.toList[i]? = some (.string (wordAt i)) := by
        intro i hi
        obtain ⟨x, hb, hf⟩ := Lib.mapM_at hm i i (by simp [hi])
        have hx1 : x.1 = .lit (.string (wordAt i).data.toList) := by
          have h1 : (xs.map (·.1))[i]? = some x.1 := by simp [hb]
          rw [hxs] at h1
          have h2 : i < wordsL.length := hi
          simp only [List.getElem?_map, List.getElem?_eq_getElem h2, Option.map_some, Option.some.injEq] at h1
          rw [← h1, wordAt, List.getD, List.getElem?_eq_getElem h2]
          rfl
        obtain ⟨d, pp⟩ := x
        simp only at hx1
        subst hx1
        obtain ⟨s, e, e2, _⟩ := DataW.trod_string Tryd.underlying9 hf
        simp only [Prod.mk.injEq, DataW.lit.injEq, Lit.string.injEq] at e2
        rw [sc_ext e2.1]
        have h3 := congrArg (fun l => l[0]?) e
        simp only [Nat.mul_one, List.getElem?_take, List.getElem?_drop, Nat.add_zero, List.getElem?_cons_zero] at h3
        simpa using h3
      have hlist : cs.toList = wordsV.toList := by
        refine List.ext_getElem? (fun i => ?_)
        rw [wordsV_list]
        by_cases hi : i < 22
        · rw [key i hi]; simp [hi]
        · rw [List.getElem?_eq_none (by omega), List.getElem?_eq_none (by simp; omega)]
      rw [← Array.toArray_toList (xs := cs), hlist, Array.toArray_toList]
    · cases hd
end Go.Proofs.YtojabkhfkbfeaaaDoor
