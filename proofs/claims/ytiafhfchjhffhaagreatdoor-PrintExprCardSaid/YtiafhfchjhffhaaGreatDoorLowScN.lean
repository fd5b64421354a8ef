/- paclaim: TreeEqIn TreeBox ScNames -/
import Derived.Test.YtiafhfchjhffhaaGreatDoorLowEq
import Derived.Test.YtiafhfchjhffhaaGreatDoorLowSc
namespace Go.Proofs.YtiafhfchjhffhaaGreatDoor
open Go.RowKit
set_option linter.unusedVariables false
theorem below2_step {W a b:World} {n:Nat} (h:Below (n + 2) W a) (hW:W.heap.size=n + 2) (k:Below a.heap.size a b):Below (n + 2) W b :=
 h.trans (k.mono (by have:=h.size; omega))
theorem box2 {w w1:World} {A B:List Value} {T U:TypeId} (k:Below (w.heap.size + 2) ((w.alloc (.cells A.toArray T)).alloc (.cells B.toArray U)) w1) :
  (∀ j v,A[j]? = some v → w1.cell? ⟨w.heap.size,j,none⟩=some v) ∧ (∀ j v,B[j]? = some v → w1.cell? ⟨w.heap.size + 1,j,none⟩=some v):=by
 refine ⟨fun j v h=>?_,fun j v h=>?_⟩
 ·rw [k.cell (p:=⟨w.heap.size,j,none⟩) (by simp)]
  have h1:=heap_alloc2_old w (.cells A.toArray T) (.cells B.toArray U)
  rw [cell_of_row _ _ j A.toArray T (0,0) h1]
  simpa using h
 ·rw [k.cell (p:=⟨w.heap.size + 1,j,none⟩) (by simp)]
  have h1:=heap_alloc2_new w (.cells A.toArray T) (.cells B.toArray U)
  rw [cell_of_row _ _ j B.toArray U (0,0) h1]
  simpa using h
theorem GIn.belowD {Y:TyT} {O O':Prop} {T:TypeId} {k:Nat} {w w':World} {a:Option Addr} {len:Nat} {L:List De} (h:GIn (rDe Y O) T O' k w a len L) (hb:Below w.heap.size w w'):GIn (rDe Y O) T O' k w' a len L:=h.below hb (fun _ _ _ h=>rDe_below h hb)
theorem GIn.belowS {Y:TyT} {O O':Prop} {T:TypeId} {k:Nat} {w w':World} {a:Option Addr} {len:Nat} {L:List Sy} (h:GIn (rSy Y O) T O' k w a len L) (hb:Below w.heap.size w w'):GIn (rSy Y O) T O' k w' a len L:=h.below hb (fun _ _ _ h=>rSy_below h hb)
theorem GIn.belowT {Y:TyT} {O O':Prop} {T:TypeId} {k:Nat} {w w':World} {a:Option Addr} {len:Nat} {L:List Ts} (h:GIn (rTs Y O) T O' k w a len L) (hb:Below w.heap.size w w'):GIn (rTs Y O) T O' k w' a len L:=h.below hb (fun _ _ _ h=>rTs_below h hb)
end Go.Proofs.YtiafhfchjhffhaaGreatDoor
