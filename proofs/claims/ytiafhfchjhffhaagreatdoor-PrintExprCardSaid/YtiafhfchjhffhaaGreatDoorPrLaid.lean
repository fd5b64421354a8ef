/- paclaim: PrLaid -/
import Derived.Test.YtiafhfchjhffhaaGreatDoorLowPr2
import Derived.Test.YtiafhfchjhffhaaGreatDoorLowSc
namespace Go.Proofs.YtiafhfchjhffhaaGreatDoor
open Go.RowKit
set_option linter.unusedVariables false
theorem pr_cellsW:Tryz.prog.cellsOf 200=17:=by kernel_rfl
theorem gToksType:(Tryz.prog.globals[0]?).map (·.type)=some 200:=by kernel_rfl
theorem toks_laid:(Rows.laid_proctor_print_tokens:DataW Unit)=.agg (toksL.map fun l=>.lit (.string l)):=rfl
theorem toksV_list:toksV.toList=(List.range 17).map fun i=>.string (tokA i):=rfl
theorem toks_of_head {W : World} {rest : List (String × DataW Unit)} (h : laidMet Tryz.prog (("proctor/print.tokens", Rows.laid_proctor_print_tokens) :: rest) W) : Toks W := by
 obtain ⟨ps,⟨g',t',cs,fuel,p,q,hg',ht',hvar,hd,_,_⟩,_⟩:=h
 obtain rfl:=Option.some.inj (gToks.symm.trans hg')
 obtain rfl:=Option.some.inj (gToksType.symm.trans ht')
 refine toks_of_var ?_
 rw [hvar]
 cases fuel with
 | zero=>simp [DataW.trod] at hd
 | succ fuel =>
  simp only [DataW.trod,Tryz.underlying200,pr_cellsW,sc_cellsS] at hd
  split at hd
  ·rename_i hl
   obtain ⟨xs,hm,hx⟩:=Option.map_eq_some_iff.1 hd
   have hxs:xs.map (·.1)=toksL.map fun l=>.lit (.string l):=by
    have:=congrArg Prod.fst hx
    rw [toks_laid] at this
    simpa using this
   have key:∀ i,i < 17 → cs.toList[i]? = some (.string (tokA i)):=by
    intro i hi
    obtain ⟨x,hb,hf⟩:=Lib.mapM_at hm i i (by simp [hi])
    have hx1:x.1=.lit (.string (toksL.getD i [])):=by
     have h1:(xs.map (·.1))[i]? = some x.1:=by simp [hb]
     rw [hxs] at h1
     have h2:i < toksL.length:=hi
     simp only [List.getElem?_map,List.getElem?_eq_getElem h2,Option.map_some,Option.some.injEq] at h1
     rw [← h1,List.getD,List.getElem?_eq_getElem h2]
     rfl
    obtain ⟨d,pp⟩:=x
    simp only at hx1
    subst hx1
    obtain ⟨s,e,e2,_⟩:=DataW.trod_string Tryz.underlying9 hf
    simp only [Prod.mk.injEq,DataW.lit.injEq,Lit.string.injEq] at e2
    rw [show tokA i=s from sc_eq (show (tokA i).data.toList=s.data.toList from e2.1)]
    have h3:=congrArg (fun l=>l[0]?) e
    simp only [Nat.mul_one,List.getElem?_take,List.getElem?_drop,Nat.add_zero,List.getElem?_cons_zero] at h3
    simpa using h3
   have hlist:cs.toList=toksV.toList:=by
    refine List.ext_getElem? (fun i=>?_)
    rw [toksV_list]
    by_cases hi:i < 17
    ·rw [key i hi]; simp [hi]
    ·rw [List.getElem?_eq_none (by omega),List.getElem?_eq_none (by simp; omega)]
   rw [← Array.toArray_toList (xs:=cs),hlist,Array.toArray_toList]
  ·cases hd
end Go.Proofs.YtiafhfchjhffhaaGreatDoor
