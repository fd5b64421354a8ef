/- paclaim: VdEq TreeDec TreeEqEx -/
import Derived.Test.YtiafhfchjhffhaaGreatDoorLowVal
import Derived.Test.YtiafhfchjhffhaaGreatDoorLowMem
import Derived.Laws.StructEq
namespace Go.Proofs.YtiafhfchjhffhaaGreatDoor
open Go.RowKit
set_option linter.unusedVariables false
theorem bytes_eq {a b:ByteArray} (h:a.toList=b.toList):a=b:=by
 rw [ByteArray.toList_eq,ByteArray.toList_eq] at h
 exact ByteArray.ext (Array.toList_inj.1 h)
theorem tl_eq (a b:ByteArray):a.toList=b.toList ↔ a=b:=⟨bytes_eq,fun h=>by rw [h]⟩
theorem Vd.same {a b:Vd} (h:eqB a.k a.i a.s a.b b.k b.i b.s b.b=true):a=b:=by
 obtain ⟨k,i,s,c⟩:=a
 obtain ⟨k',i',s',c'⟩:=b
 obtain ⟨h1,h2,h3,h4⟩:=(eqB_iff _ _ _ _ _ _ _ _).1 h
 simp only at h1 h2 h3 h4
 rw [h1,h2,bytes_eq h3,h4]
instance:DecidableEq Vd:=fun a b =>
 if h:eqB a.k a.i a.s a.b b.k b.i b.s b.b=true then isTrue (Vd.same h) else isFalse (fun e=>h (by rw [e]; exact (eqB_iff _ _ _ _ _ _ _ _).2 ⟨rfl,rfl,rfl,rfl⟩))
theorem eqB_dec (a b:Vd):eqB a.k a.i a.s a.b b.k b.i b.s b.b=decide (a=b):=by
 cases h:eqB a.k a.i a.s a.b b.k b.i b.s b.b
 ·exact (decide_eq_false (fun e=>by rw [e,(eqB_iff _ _ _ _ _ _ _ _).2 ⟨rfl,rfl,rfl,rfl⟩] at h; cases h)).symm
 ·exact (decide_eq_true (Vd.same h)).symm
deriving instance DecidableEq for Id3
deriving instance DecidableEq for Ex
deriving instance DecidableEq for Ag
deriving instance DecidableEq for Sy
deriving instance DecidableEq for De
deriving instance DecidableEq for Qu
deriving instance DecidableEq for Fr
deriving instance DecidableEq for Sta
deriving instance DecidableEq for Se
deriving instance DecidableEq for Ts
deriving instance DecidableEq for Tr
theorem at_some {α:Type} {L:List α} {n len:Nat} (hl:L.length=len) (h:n < len):∃ x,L[n]? = some x:=⟨L[n]'(by omega),List.getElem?_eq_getElem (by omega)⟩
theorem guardEx:Tryz.prog.eqGuardType Tryz.prog.depth 58=false:=by kernel_rfl
set_option maxRecDepth 100000 in
theorem eqInEx (a b:Ex) (w:World):(Op.equalIn 10000 58 (.agg #[.int .i64 a.op,.int .i64 a.a,.int .i64 a.b,.string a.n,.int .i64 a.v.k,.int .i64 a.v.i,.string a.v.s,.bool a.v.b,.int .i64 a.l,.int .i64 a.c]) (.agg #[.int .i64 b.op,.int .i64 b.a,.int .i64 b.b,.string b.n,.int .i64 b.v.k,.int .i64 b.v.i,.string b.v.s,.bool b.v.b,.int .i64 b.l,.int .i64 b.c])).run Tryz.prog w=.ok (decide (a=b)) w:=by
 rw [run_equalIn_agg w 9999 _ _ _ (by simp only [Program.fieldsOf,Tryz.underlying58]) (by kernel_rfl)]
 simp only [Program.fieldsOf,Tryz.underlying58]
 go_simp
 obtain ⟨p1,p2,p3,p4,⟨p5,p6,p7,p8⟩,p9,p10⟩:=a
 obtain ⟨q1,q2,q3,q4,⟨q5,q6,q7,q8⟩,q9,q10⟩:=b
 simp only [tl_eq,Ex.mk.injEq,Vd.mk.injEq]
 repeat' split
 all_goals simp_all
end Go.Proofs.YtiafhfchjhffhaaGreatDoor
