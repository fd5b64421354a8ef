/- paclaim: GinNew -/
import Derived.Test.YtiafhfchjhffhaaGreatDoorLowMem
namespace Go.Proofs.YtiafhfchjhffhaaGreatDoor
open Go.RowKit
set_option linter.unusedVariables false
theorem gin_new {α:Type} {C:α → List Value} {P:α → Prop} {T:TypeId} {k:Nat} {L:List α} {w:World} {g:Nat} {cs:Array Value} (hg:g=w.heap.size) (hcs:cs=((L.map C).flatten).toArray) (hk:∀ x,(C x).length=k) (hP:∀ x ∈ L,P x) (hs:L.length ≤ 9223372036854775807) :
  GIn (RF C P) T True k (w.alloc (.cells cs T)) (some ⟨g,0,none⟩) L.length L:=by
 subst hg hcs
 exact ⟨rfl,hs,fun n x hx=>⟨w.heap.size,0,C x,rfl,by simp,hk x,fun j v hj=>by
  have hc:(L.map C)[n]? = some (C x):=by rw [List.getElem?_map,hx]; rfl
  have hjk:j < k:=by rw [← hk x]; exact (List.getElem?_eq_some_iff.1 hj).1
  rw [World.cell?_alloc_at (hn:=rfl),Nat.zero_add]
  have h2:=(flat_at (L.map C) n j (C x) (fun c hc=>by obtain ⟨y,_,rfl⟩:=List.mem_map.1 hc; exact hk y) hc hjk).trans hj
  simpa using h2,⟨rfl,hP x (List.mem_of_getElem? hx)⟩,fun _=>⟨_,(0,0),heap_alloc_new w _⟩⟩⟩
end Go.Proofs.YtiafhfchjhffhaaGreatDoor
