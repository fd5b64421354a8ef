/- paclaim: ParNode -/
import Derived.Test.YtiafhfchjhffhaaGreatDoorLowPa3
namespace Go.Proofs.YtiafhfchjhffhaaGreatDoor
open Go.RowKit
set_option linter.unusedVariables false
theorem NsAt.node {B:Nat} {w:World} {v:Value} {L:List Ex} (h:NsAt B w v L) {n:Nat} {x:Ex} (hx:L[n]? = some x):∃ g c,v=.slice (some ⟨g,0,none⟩) L.length c ∧ g < w.heap.size ∧ (∀ j u,(exC x)[j]? = some u → w.cell? ⟨g,n * 10 + j,none⟩=some u):=by
 have hn:=(List.getElem?_eq_some_iff.1 hx).1
 obtain ⟨g,c,e,_,hc,hcell⟩:=h.block (fun e=>by rw [e] at hn; exact absurd hn (by simp))
 refine ⟨g,c,e,hc.lt,fun j u hj=>?_⟩
 have hj10:j < 10:=(List.getElem?_eq_some_iff.1 hj).1
 have h1:=hcell (n * 10 + j) u (by rw [exCs_at hx hj10]; exact hj)
 have hadd:(⟨g,0,none⟩:Addr).add (n * 10 + j)=⟨g,n * 10 + j,none⟩:=by unfold Addr.add; split <;> simp_all
 rwa [hadd] at h1
end Go.Proofs.YtiafhfchjhffhaaGreatDoor
