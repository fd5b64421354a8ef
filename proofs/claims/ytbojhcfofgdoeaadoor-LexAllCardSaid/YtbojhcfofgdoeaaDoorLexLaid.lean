/- What a row's list gives: the table of signs. -/
import Derived.Test.YtbojhcfofgdoeaaDoorLexSign
import Derived.Test.YtbojhcfofgdoeaaDoorScWLaid
namespace Go.Proofs.YtbojhcfofgdoeaaDoor
open Go.RowKit
set_option linter.unusedVariables false

theorem lx_cellsW : Tryd.prog.cellsOf 93 = 16 := by kernel_rfl
theorem gSgnType : (Tryd.prog.globals[1]?).map (·.type) = some 93 := by kernel_rfl
theorem signs_laid : (Rows.laid_proctor_lex_signs : DataW Unit) = .agg (signsL.map fun l => .lit (.string l)) := rfl
theorem signsV_list : signsV.toList = (List.range 16).map fun i => .string ⟨(signAt i).toArray⟩ := rfl
theorem sgn_of_head {W : World} {rest : List (String × DataW Unit)} (h : laidMet Tryd.prog (("proctor/lex.signs", Rows.laid_proctor_lex_signs) :: rest) W) : Sgn W := by
  obtain ⟨ps, ⟨g', t', cs, fuel, p, q, hg', ht', hvar, hd, _, _⟩, _⟩ := h
  obtain rfl := Option.some.inj (gSgn.symm.trans hg')
  obtain rfl := Option.some.inj (gSgnType.symm.trans ht')
  refine sgn_of_var ?_
  rw [hvar]
  cases fuel with
  | zero => simp [DataW.trod] at hd
  | succ fuel =>
    simp only [DataW.trod, Tryd.underlying93, lx_cellsW, sc_cellsS] at hd
    split at hd
    · rename_i hl
      obtain ⟨xs, hm, hx⟩ := Option.map_eq_some_iff.1 hd
      have hxs : xs.map (·.1) = signsL.map fun l => .lit (.string l) := by
        have := congrArg Prod.fst hx
        rw [signs_laid] at this
        simpa using this
      have key : ∀ i, i < 16 → cs.toList[i]? = some (.string ⟨(signAt i).toArray⟩) := by
        intro i hi
        obtain ⟨x, hb, hf⟩ := Lib.mapM_at hm i i (by simp [hi])
        have hx1 : x.1 = .lit (.string (signAt i)) := by
          have h1 : (xs.map (·.1))[i]? = some x.1 := by simp [hb]
          rw [hxs] at h1
          have h2 : i < signsL.length := hi
          simp only [List.getElem?_map, List.getElem?_eq_getElem h2, Option.map_some, Option.some.injEq] at h1
          rw [← h1, signAt, List.getD, List.getElem?_eq_getElem h2]
          rfl
        obtain ⟨d, pp⟩ := x
        simp only at hx1
        subst hx1
        obtain ⟨s, e, e2, _⟩ := DataW.trod_string Tryd.underlying9 hf
        simp only [Prod.mk.injEq, DataW.lit.injEq, Lit.string.injEq] at e2
        rw [← sc_eq e2.1.symm]
        have h3 := congrArg (fun l => l[0]?) e
        simp only [Nat.mul_one, List.getElem?_take, List.getElem?_drop, Nat.add_zero, List.getElem?_cons_zero] at h3
        simpa using h3
      have hlist : cs.toList = signsV.toList := by
        refine List.ext_getElem? (fun i => ?_)
        rw [signsV_list]
        by_cases hi : i < 16
        · rw [key i hi]; simp [hi]
        · rw [List.getElem?_eq_none (by omega), List.getElem?_eq_none (by simp; omega)]
      rw [← Array.toArray_toList (xs := cs), hlist, Array.toArray_toList]
    · cases hd
end Go.Proofs.YtbojhcfofgdoeaaDoor
