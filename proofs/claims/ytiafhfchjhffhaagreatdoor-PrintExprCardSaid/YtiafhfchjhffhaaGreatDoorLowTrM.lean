/- paclaim: TreeNode TreeRun -/
import Derived.Test.YtiafhfchjhffhaaGreatDoorLowScN
import Derived.Test.YtiafhfchjhffhaaGreatDoorGinNew
import Derived.Test.YtiafhfchjhffhaaGreatDoorLowSc
import Derived.Test.YtiafhfchjhffhaaGreatDoorLowValR
import Derived.Test.YtiafhfchjhffhaaGreatDoorLowEq
namespace Go.Proofs.YtiafhfchjhffhaaGreatDoor
open Go.RowKit
set_option linter.unusedVariables false
def oneB (o:Int):Bool:=(o == 4) || (o == 5)
def twoB (o:Int):Bool:=decide (6 ≤ o) && decide (o ≤ 16)
def mkE (x:Ex) (a b:Int) (n:ByteArray) (v:Vd):Ex:=⟨x.op,a,b,n,v,x.l,x.c⟩
def okN (x:Ex):Bool :=
 if (x.op == 1)=true then decide (x=mkE x 0 0 ⟨#[]⟩ x.v) && rightV x.v
 else if (x.op == 17)=true then decide (x=mkE x 0 0 x.n v0) && nameB x.n
 else if oneB x.op=true then decide (x=mkE x x.a 0 ⟨#[]⟩ v0)
 else if twoB x.op=true then decide (x=mkE x x.a x.b ⟨#[]⟩ v0)
 else false
set_option maxHeartbeats 400000 in
theorem hasOne_calls (n:Int) (w:World) :
  Calls Tryz.prog 233 #[.int .i64 n] w fun e w'=>e=.returned (.bool (oneB n)) ∧ w=w':=by
 have hv:oneB n=((n == 4) || (n == 5)):=rfl
 cases e1:n == 4
 ·cases e2:n == 5
  all_goals rw [e1,e2] at hv
  all_goals go_enter Tryz.func233,Tryz.ntmps233
  all_goals go_wp2_with fail
  all_goals go_ret
  all_goals exact ⟨by rw [hv]; rfl,rfl⟩
 ·rw [e1] at hv
  go_enter Tryz.func233,Tryz.ntmps233
  go_wp2_with fail
  go_ret
  exact ⟨by rw [hv]; rfl,rfl⟩
set_option maxHeartbeats 400000 in
theorem hasTwo_calls (n:Int) (w:World) :
  Calls Tryz.prog 234 #[.int .i64 n] w fun e w'=>e=.returned (.bool (twoB n)) ∧ w=w':=by
 have hv:twoB n=(decide (6 ≤ n) && decide (n ≤ 16)):=rfl
 cases e1:decide (6 ≤ n)
 ·rw [e1] at hv
  go_enter Tryz.func234,Tryz.ntmps234
  go_wp2_with fail
  go_ret
  exact ⟨by rw [hv]; rfl,rfl⟩
 ·cases e2:decide (n ≤ 16)
  all_goals rw [e1,e2] at hv
  all_goals go_enter Tryz.func234,Tryz.ntmps234
  all_goals go_wp2_with fail
  all_goals go_ret
  all_goals exact ⟨by rw [hv]; rfl,rfl⟩
set_option maxHeartbeats 1000000 in
set_option maxRecDepth 100000 in
theorem rightNode_calls (x:Ex) (w:World) (hx:okE x) (hw:Wds w) :
  Calls Tryz.prog 197 #[.agg #[.int .i64 x.op,.int .i64 x.a,.int .i64 x.b,.string x.n,.int .i64 x.v.k,.int .i64 x.v.i,.string x.v.s,.bool x.v.b,.int .i64 x.l,.int .i64 x.c]] w fun e w'=>e=.returned (.bool (okN x)) ∧ Below w.heap.size w w':=by
 have hn:x.n.size ≤ 9223372036854775807:=hx.1
 have hs:x.v.s.size ≤ 9223372036854775807:=hx.2.1
 have qg:=guardEx
 have HW:=Lib.hid hw
 clear hx hw
 have HS:Hid (okN x=_):=Lib.hid (okN.eq_1 x)
 cases e1:(x.op == 1)
 case true =>
  cases eb:decide (x=mkE x 0 0 ⟨#[]⟩ x.v)
  ·have q0:=eqInEx x (mkE x 0 0 ⟨#[]⟩ x.v)
   rw [eb] at q0
   have q1:∀ w,(Op.equalIn 10000 58 (.agg #[.int .i64 x.op,.int .i64 x.a,.int .i64 x.b,.string x.n,.int .i64 x.v.k,.int .i64 x.v.i,.string x.v.s,.bool x.v.b,.int .i64 x.l,.int .i64 x.c]) (.agg #[.int .i64 x.op,.int .i64 0,.int .i64 0,.string ⟨#[]⟩,.int .i64 x.v.k,.int .i64 x.v.i,.string x.v.s,.bool x.v.b,.int .i64 x.l,.int .i64 x.c])).run Tryz.prog w=.ok false w:=q0
   clear q0
   have HV:Hid (okN x=false):=Lib.hid (by rw [HS.out]; simp only [e1,if_true,eb]; rfl)
   clear eb
   go_enter Tryz.func197,Tryz.ntmps197
   go_wp2_with fail
   go_ret
   refine ⟨by rw [HV.out]; rfl,?_⟩
   repeat' (first | exact Below.refl _ _ | refine Below.alloc ?_ (by simp <;> omega) _ | refine Below.setCell ?_ (by simp <;> omega) _ | refine Below.drew ?_)
  ·have q0:=eqInEx x (mkE x 0 0 ⟨#[]⟩ x.v)
   rw [eb] at q0
   have q1:∀ w,(Op.equalIn 10000 58 (.agg #[.int .i64 x.op,.int .i64 x.a,.int .i64 x.b,.string x.n,.int .i64 x.v.k,.int .i64 x.v.i,.string x.v.s,.bool x.v.b,.int .i64 x.l,.int .i64 x.c]) (.agg #[.int .i64 x.op,.int .i64 0,.int .i64 0,.string ⟨#[]⟩,.int .i64 x.v.k,.int .i64 x.v.i,.string x.v.s,.bool x.v.b,.int .i64 x.l,.int .i64 x.c])).run Tryz.prog w=.ok true w:=q0
   clear q0
   have HV:Hid (okN x=rightV x.v):=Lib.hid (by rw [HS.out]; simp only [e1,if_true,eb]; rfl)
   clear eb
   have HC:=Lib.hid (fun w1 (hb:Below w.heap.size w w1)=>vRight_calls x.v.k x.v.i x.v.s x.v.b w1 hs)
   go_enter Tryz.func197,Tryz.ntmps197
   go_wp2_with fail
   refine (HC.out _ ?_).mono ?_
   ·repeat' (first | exact Below.refl _ _ | refine Below.alloc ?_ (by simp <;> omega) _ | refine Below.setCell ?_ (by simp <;> omega) _ | refine Below.drew ?_)
   rintro e w1 ⟨rfl,k1⟩
   have K1:=Lib.hid k1
   clear k1
   go_wp2_with fail
   go_ret
   refine ⟨by rw [HV.out]; rfl,?_⟩
   refine Below.trans ?_ (K1.out.mono (by simp <;> omega))
   repeat' (first | exact Below.refl _ _ | refine Below.alloc ?_ (by simp <;> omega) _ | refine Below.setCell ?_ (by simp <;> omega) _ | refine Below.drew ?_)
 cases e2:(x.op == 17)
 case true =>
  cases eb:decide (x=mkE x 0 0 x.n v0)
  ·have q0:=eqInEx x (mkE x 0 0 x.n v0)
   rw [eb] at q0
   have q1:∀ w,(Op.equalIn 10000 58 (.agg #[.int .i64 x.op,.int .i64 x.a,.int .i64 x.b,.string x.n,.int .i64 x.v.k,.int .i64 x.v.i,.string x.v.s,.bool x.v.b,.int .i64 x.l,.int .i64 x.c]) (.agg #[.int .i64 x.op,.int .i64 0,.int .i64 0,.string x.n,.int .i64 0,.int .i64 0,.string ⟨#[]⟩,.bool false,.int .i64 x.l,.int .i64 x.c])).run Tryz.prog w=.ok false w:=q0
   clear q0
   have HV:Hid (okN x=false):=Lib.hid (by rw [HS.out]; simp only [e1,e2,if_true,Bool.false_eq_true,if_false,eb]; rfl)
   clear eb
   go_enter Tryz.func197,Tryz.ntmps197
   go_wp2_with fail
   go_ret
   refine ⟨by rw [HV.out]; rfl,?_⟩
   repeat' (first | exact Below.refl _ _ | refine Below.alloc ?_ (by simp <;> omega) _ | refine Below.setCell ?_ (by simp <;> omega) _ | refine Below.drew ?_)
  ·have q0:=eqInEx x (mkE x 0 0 x.n v0)
   rw [eb] at q0
   have q1:∀ w,(Op.equalIn 10000 58 (.agg #[.int .i64 x.op,.int .i64 x.a,.int .i64 x.b,.string x.n,.int .i64 x.v.k,.int .i64 x.v.i,.string x.v.s,.bool x.v.b,.int .i64 x.l,.int .i64 x.c]) (.agg #[.int .i64 x.op,.int .i64 0,.int .i64 0,.string x.n,.int .i64 0,.int .i64 0,.string ⟨#[]⟩,.bool false,.int .i64 x.l,.int .i64 x.c])).run Tryz.prog w=.ok true w:=q0
   clear q0
   have HV:Hid (okN x=nameB x.n):=Lib.hid (by rw [HS.out]; simp only [e1,e2,if_true,Bool.false_eq_true,if_false,eb]; rfl)
   clear eb
   have HC:=Lib.hid (fun w1 (hb:Below w.heap.size w w1)=>(scName_calls x.n w1 hn (HW.out.below hb)).mono fun e w2 h=>And.intro h.1 (show Below w1.heap.size w1 w2 from h.2 ▸ Below.refl _ _))
   go_enter Tryz.func197,Tryz.ntmps197
   go_wp2_with fail
   refine (HC.out _ ?_).mono ?_
   ·repeat' (first | exact Below.refl _ _ | refine Below.alloc ?_ (by simp <;> omega) _ | refine Below.setCell ?_ (by simp <;> omega) _ | refine Below.drew ?_)
   rintro e w1 ⟨rfl,k1⟩
   have K1:=Lib.hid k1
   clear k1
   go_wp2_with fail
   go_ret
   refine ⟨by rw [HV.out]; rfl,?_⟩
   refine Below.trans ?_ (K1.out.mono (by simp <;> omega))
   repeat' (first | exact Below.refl _ _ | refine Below.alloc ?_ (by simp <;> omega) _ | refine Below.setCell ?_ (by simp <;> omega) _ | refine Below.drew ?_)
 have HO:=Lib.hid (fun w1=>hasOne_calls x.op w1)
 have HT:=Lib.hid (fun w1=>hasTwo_calls x.op w1)
 cases e3:oneB x.op
 case true =>
  rw [e3] at HO
  cases eb:decide (x=mkE x x.a 0 ⟨#[]⟩ v0)
  ·have q0:=eqInEx x (mkE x x.a 0 ⟨#[]⟩ v0)
   rw [eb] at q0
   have q1:∀ w,(Op.equalIn 10000 58 (.agg #[.int .i64 x.op,.int .i64 x.a,.int .i64 x.b,.string x.n,.int .i64 x.v.k,.int .i64 x.v.i,.string x.v.s,.bool x.v.b,.int .i64 x.l,.int .i64 x.c]) (.agg #[.int .i64 x.op,.int .i64 x.a,.int .i64 0,.string ⟨#[]⟩,.int .i64 0,.int .i64 0,.string ⟨#[]⟩,.bool false,.int .i64 x.l,.int .i64 x.c])).run Tryz.prog w=.ok false w:=q0
   clear q0
   have HV:Hid (okN x=false):=Lib.hid (by rw [HS.out]; simp only [e1,e2,e3,if_true,Bool.false_eq_true,if_false,eb])
   clear eb
   go_enter Tryz.func197,Tryz.ntmps197
   go_wp2_with fail
   refine (HO.out _).mono ?_
   rintro e w1 ⟨rfl,hw1⟩
   subst hw1
   go_wp2_with fail
   go_ret
   refine ⟨by rw [HV.out]; rfl,?_⟩
   repeat' (first | exact Below.refl _ _ | refine Below.alloc ?_ (by simp <;> omega) _ | refine Below.setCell ?_ (by simp <;> omega) _ | refine Below.drew ?_)
  ·have q0:=eqInEx x (mkE x x.a 0 ⟨#[]⟩ v0)
   rw [eb] at q0
   have q1:∀ w,(Op.equalIn 10000 58 (.agg #[.int .i64 x.op,.int .i64 x.a,.int .i64 x.b,.string x.n,.int .i64 x.v.k,.int .i64 x.v.i,.string x.v.s,.bool x.v.b,.int .i64 x.l,.int .i64 x.c]) (.agg #[.int .i64 x.op,.int .i64 x.a,.int .i64 0,.string ⟨#[]⟩,.int .i64 0,.int .i64 0,.string ⟨#[]⟩,.bool false,.int .i64 x.l,.int .i64 x.c])).run Tryz.prog w=.ok true w:=q0
   clear q0
   have HV:Hid (okN x=true):=Lib.hid (by rw [HS.out]; simp only [e1,e2,e3,if_true,Bool.false_eq_true,if_false,eb])
   clear eb
   go_enter Tryz.func197,Tryz.ntmps197
   go_wp2_with fail
   refine (HO.out _).mono ?_
   rintro e w1 ⟨rfl,hw1⟩
   subst hw1
   go_wp2_with fail
   go_ret
   refine ⟨by rw [HV.out]; rfl,?_⟩
   repeat' (first | exact Below.refl _ _ | refine Below.alloc ?_ (by simp <;> omega) _ | refine Below.setCell ?_ (by simp <;> omega) _ | refine Below.drew ?_)
 cases e4:twoB x.op
 case true =>
  rw [e3] at HO
  rw [e4] at HT
  cases eb:decide (x=mkE x x.a x.b ⟨#[]⟩ v0)
  ·have q0:=eqInEx x (mkE x x.a x.b ⟨#[]⟩ v0)
   rw [eb] at q0
   have q1:∀ w,(Op.equalIn 10000 58 (.agg #[.int .i64 x.op,.int .i64 x.a,.int .i64 x.b,.string x.n,.int .i64 x.v.k,.int .i64 x.v.i,.string x.v.s,.bool x.v.b,.int .i64 x.l,.int .i64 x.c]) (.agg #[.int .i64 x.op,.int .i64 x.a,.int .i64 x.b,.string ⟨#[]⟩,.int .i64 0,.int .i64 0,.string ⟨#[]⟩,.bool false,.int .i64 x.l,.int .i64 x.c])).run Tryz.prog w=.ok false w:=q0
   clear q0
   have HV:Hid (okN x=false):=Lib.hid (by rw [HS.out]; simp only [e1,e2,e3,e4,if_true,Bool.false_eq_true,if_false,eb])
   clear eb
   go_enter Tryz.func197,Tryz.ntmps197
   go_wp2_with fail
   refine (HO.out _).mono ?_
   rintro e w1 ⟨rfl,hw1⟩
   subst hw1
   go_wp2_with fail
   refine (HT.out _).mono ?_
   rintro e w2 ⟨rfl,hw2⟩
   subst hw2
   go_wp2_with fail
   go_region
   go_wp2_with fail
   go_ret
   refine ⟨by rw [HV.out]; rfl,?_⟩
   repeat' (first | exact Below.refl _ _ | refine Below.alloc ?_ (by simp <;> omega) _ | refine Below.setCell ?_ (by simp <;> omega) _ | refine Below.drew ?_)
  ·have q0:=eqInEx x (mkE x x.a x.b ⟨#[]⟩ v0)
   rw [eb] at q0
   have q1:∀ w,(Op.equalIn 10000 58 (.agg #[.int .i64 x.op,.int .i64 x.a,.int .i64 x.b,.string x.n,.int .i64 x.v.k,.int .i64 x.v.i,.string x.v.s,.bool x.v.b,.int .i64 x.l,.int .i64 x.c]) (.agg #[.int .i64 x.op,.int .i64 x.a,.int .i64 x.b,.string ⟨#[]⟩,.int .i64 0,.int .i64 0,.string ⟨#[]⟩,.bool false,.int .i64 x.l,.int .i64 x.c])).run Tryz.prog w=.ok true w:=q0
   clear q0
   have HV:Hid (okN x=true):=Lib.hid (by rw [HS.out]; simp only [e1,e2,e3,e4,if_true,Bool.false_eq_true,if_false,eb])
   clear eb
   go_enter Tryz.func197,Tryz.ntmps197
   go_wp2_with fail
   refine (HO.out _).mono ?_
   rintro e w1 ⟨rfl,hw1⟩
   subst hw1
   go_wp2_with fail
   refine (HT.out _).mono ?_
   rintro e w2 ⟨rfl,hw2⟩
   subst hw2
   go_wp2_with fail
   go_region
   go_wp2_with fail
   go_ret
   refine ⟨by rw [HV.out]; rfl,?_⟩
   repeat' (first | exact Below.refl _ _ | refine Below.alloc ?_ (by simp <;> omega) _ | refine Below.setCell ?_ (by simp <;> omega) _ | refine Below.drew ?_)
 case false =>
  rw [e3] at HO
  rw [e4] at HT
  have HV:Hid (okN x=false):=Lib.hid (by rw [HS.out]; simp only [e1,e2,e3,e4,Bool.false_eq_true,if_false])
  go_enter Tryz.func197,Tryz.ntmps197
  go_wp2_with fail
  refine (HO.out _).mono ?_
  rintro e w1 ⟨rfl,hw1⟩
  subst hw1
  go_wp2_with fail
  refine (HT.out _).mono ?_
  rintro e w2 ⟨rfl,hw2⟩
  subst hw2
  go_wp2_with fail
  go_ret
  refine ⟨by rw [HV.out]; rfl,?_⟩
  repeat' (first | exact Below.refl _ _ | refine Below.alloc ?_ (by simp <;> omega) _ | refine Below.setCell ?_ (by simp <;> omega) _ | refine Below.drew ?_)
def rootsT (x:Ex):List Int:=if oneB x.op=true then [x.a] else if twoB x.op=true then [x.a,x.b] else []
set_option maxHeartbeats 1000000 in
set_option maxRecDepth 100000 in
theorem rootsOf_calls (x:Ex) (w:World) :
  Calls Tryz.prog 198 #[.agg #[.int .i64 x.op,.int .i64 x.a,.int .i64 x.b,.string x.n,.int .i64 x.v.k,.int .i64 x.v.i,.string x.v.s,.bool x.v.b,.int .i64 x.l,.int .i64 x.c]] w fun e w'=>(∃ a c,e=.returned (.slice a (rootsT x).length c) ∧ GIn rInt 3 True 1 w' a (rootsT x).length (rootsT x)) ∧ Below w.heap.size w w':=by
 have HS:Hid (rootsT x=_):=Lib.hid (rootsT.eq_1 x)
 have HO:=Lib.hid (fun w1=>hasOne_calls x.op w1)
 have HT:=Lib.hid (fun w1=>hasTwo_calls x.op w1)
 cases e3:oneB x.op
 case true =>
  rw [e3] at HO
  have HV:Hid (rootsT x=[x.a]):=Lib.hid (by rw [HS.out]; simp only [e3,if_true])
  clear e3
  go_enter Tryz.func198,Tryz.ntmps198
  go_wp2_with fail
  refine (HO.out _).mono ?_
  rintro e w1 ⟨rfl,hw1⟩
  subst hw1
  go_wp2_with fail
  go_ret
  rw [HV.out]
  refine ⟨⟨_,_,rfl,gin_new (C:=fun k=>[.int .i64 k]) (L:=[x.a]) (by simp) rfl (fun _=>rfl) (fun _ _=>trivial) (by simp)⟩,?_⟩
  repeat' (first | exact Below.refl _ _ | refine Below.alloc ?_ (by simp <;> omega) _ | refine Below.setCell ?_ (by simp <;> omega) _ | refine Below.drew ?_)
 case false =>
  rw [e3] at HO
  cases e4:twoB x.op
  all_goals rw [e4] at HT
  case true =>
   have HV:Hid (rootsT x=[x.a,x.b]):=Lib.hid (by rw [HS.out]; simp only [e3,e4,if_true,Bool.false_eq_true,if_false])
   clear e3 e4
   go_enter Tryz.func198,Tryz.ntmps198
   go_wp2_with fail
   refine (HO.out _).mono ?_
   rintro e w1 ⟨rfl,hw1⟩
   subst hw1
   go_wp2_with fail
   refine (HT.out _).mono ?_
   rintro e w1 ⟨rfl,hw1⟩
   subst hw1
   go_wp2_with fail
   go_ret
   rw [HV.out]
   refine ⟨⟨_,_,rfl,gin_new (C:=fun k=>[.int .i64 k]) (L:=[x.a,x.b]) (by simp) rfl (fun _=>rfl) (fun _ _=>trivial) (by simp)⟩,?_⟩
   repeat' (first | exact Below.refl _ _ | refine Below.alloc ?_ (by simp <;> omega) _ | refine Below.setCell ?_ (by simp <;> omega) _ | refine Below.drew ?_)
  case false =>
   have HV:Hid (rootsT x=[]):=Lib.hid (by rw [HS.out]; simp only [e3,e4,Bool.false_eq_true,if_false])
   clear e3 e4
   go_enter Tryz.func198,Tryz.ntmps198
   go_wp2_with fail
   refine (HO.out _).mono ?_
   rintro e w1 ⟨rfl,hw1⟩
   subst hw1
   go_wp2_with fail
   refine (HT.out _).mono ?_
   rintro e w1 ⟨rfl,hw1⟩
   subst hw1
   go_wp2_with fail
   go_ret
   rw [HV.out]
   refine ⟨⟨_,_,rfl,GIn.nil⟩,?_⟩
   repeat' (first | exact Below.refl _ _ | refine Below.alloc ?_ (by simp <;> omega) _ | refine Below.setCell ?_ (by simp <;> omega) _ | refine Below.drew ?_)
theorem emptyB_iff (s:ByteArray):emptyB s=true ↔ s=⟨#[]⟩:=by
 unfold emptyB
 rw [List.isEmpty_iff]
 exact ⟨fun h=>bytes_eq (by rw [h,none_list]),fun h=>by rw [h,none_list]⟩
theorem zeroV_iff (v:Vd):zeroV v=true ↔ v=v0:=by
 show eqB v.k v.i v.s v.b v0.k v0.i v0.s v0.b=true ↔ v=v0
 rw [eqB_dec v v0,decide_eq_true_iff]
theorem mkE_iff (x:Ex) (a b:Int) (n:ByteArray) (v:Vd):x=mkE x a b n v ↔ x.a=a ∧ x.b=b ∧ x.n=n ∧ x.v=v:=by
 cases x
 unfold mkE
 simp only [Ex.mk.injEq,true_and,and_true]
theorem okN_one {x:Ex} (h:x.op=1):okN x=true ↔ x.a=0 ∧ x.b=0 ∧ emptyB x.n=true ∧ rightV x.v=true:=by
 unfold okN
 rw [if_pos (by rw [h]; rfl),Bool.and_eq_true,decide_eq_true_iff,mkE_iff,emptyB_iff]
 simp only [and_true,and_assoc]
theorem okN_name {x:Ex} (h:x.op=17):okN x=true ↔ x.a=0 ∧ x.b=0 ∧ nameB x.n=true ∧ zeroV x.v=true:=by
 unfold okN
 rw [if_neg (by rw [h]; decide),if_pos (by rw [h]; rfl),Bool.and_eq_true,decide_eq_true_iff,mkE_iff,zeroV_iff]
 simp only [true_and]
 exact ⟨fun ⟨⟨a,b,c⟩,d⟩=>⟨a,b,d,c⟩,fun ⟨a,b,d,c⟩=>⟨⟨a,b,c⟩,d⟩⟩
theorem oneB_iff (o:Int):oneB o=true ↔ o=4 ∨ o=5:=by
 unfold oneB; rw [Bool.or_eq_true,beq_iff_eq,beq_iff_eq]
theorem twoB_iff (o:Int):twoB o=true ↔ 6 ≤ o ∧ o ≤ 16:=by
 unfold twoB; rw [Bool.and_eq_true,decide_eq_true_iff,decide_eq_true_iff]
theorem okN_op1 {x:Ex} (h:4 ≤ x.op ∧ x.op ≤ 5):okN x=true ↔ x.b=0 ∧ emptyB x.n=true ∧ zeroV x.v=true:=by
 unfold okN
 rw [if_neg (by rw [beq_iff_eq]; omega),if_neg (by rw [beq_iff_eq]; omega),if_pos ((oneB_iff _).2 (by omega)),decide_eq_true_iff,mkE_iff,zeroV_iff,emptyB_iff]
 simp only [true_and]
theorem okN_op2 {x:Ex} (h:6 ≤ x.op ∧ x.op ≤ 16):okN x=true ↔ emptyB x.n=true ∧ zeroV x.v=true:=by
 unfold okN
 rw [if_neg (by rw [beq_iff_eq]; omega),if_neg (by rw [beq_iff_eq]; omega),if_neg (by rw [oneB_iff]; omega),if_pos ((twoB_iff _).2 h),decide_eq_true_iff,mkE_iff,zeroV_iff,emptyB_iff]
 simp only [true_and]
theorem okN_no {x:Ex} (h1:x.op ≠ 1) (h17:x.op ≠ 17) (h:x.op < 4 ∨ 16 < x.op):okN x=false:=by
 unfold okN
 rw [if_neg (by rw [beq_iff_eq]; omega),if_neg (by rw [beq_iff_eq]; omega),if_neg (by rw [oneB_iff]; omega),if_neg (by rw [twoB_iff]; omega)]
theorem roots_leaf {x:Ex} (h:x.op=1 ∨ x.op=17):rootsT x=[]:=by
 unfold rootsT
 rw [if_neg (by rw [oneB_iff]; omega),if_neg (by rw [twoB_iff]; omega)]
theorem roots_op1 {x:Ex} (h:4 ≤ x.op ∧ x.op ≤ 5):rootsT x=[x.a]:=by
 unfold rootsT
 rw [if_pos ((oneB_iff _).2 (by omega))]
theorem roots_op2 {x:Ex} (h:6 ≤ x.op ∧ x.op ≤ 16):rootsT x=[x.a,x.b]:=by
 unfold rootsT
 rw [if_neg (by rw [oneB_iff]; omega),if_pos ((twoB_iff _).2 h)]
abbrev Stk:=List (Int × Int)
def pushT (x:Ex) (d:Int) (R:Stk):Stk:=((rootsT x).map (fun r=>(r,d + 1))).reverse ++ R
def mrun (l:List Ex):Nat → Stk → Int → Option (Nat × Int)
 | 0,[],dep=>some (0,dep)
 | 0,_ :: _,_=>none
 | k + 1,[],dep=>some (k + 1,dep)
 | k + 1,p :: R,dep=>match l[k]? with
  | none=>none
  | some x=>if p.1=(k:Int) ∧ okN x=true then mrun l k (pushT x p.2 R) (max dep p.2) else none
theorem mrun_nil (l:List Ex) (k:Nat) (dep:Int):mrun l k [] dep=some (k,dep):=by cases k <;> rfl
theorem mrun_zero (l:List Ex) (p:Int × Int) (R:Stk) (dep:Int):mrun l 0 (p :: R) dep=none:=rfl
theorem mrun_out {l:List Ex} {k:Nat} (h:l[k]? = none) (p:Int × Int) (R:Stk) (dep:Int):mrun l (k + 1) (p :: R) dep=none:=by
 rw [mrun,h]
theorem mrun_at {l:List Ex} {k:Nat} {x:Ex} (h:l[k]? = some x) (p:Int × Int) (R:Stk) (dep:Int):mrun l (k + 1) (p :: R) dep=if p.1=(k:Int) ∧ okN x=true then mrun l k (pushT x p.2 R) (max dep p.2) else none:=by
 rw [mrun,h]
theorem mrun_off {l:List Ex} {k:Nat} {p:Int × Int} (h:p.1 ≠ (k:Int)) (R:Stk) (dep:Int):mrun l (k + 1) (p :: R) dep=none:=by
 cases e:l[k]? with
 | none=>exact mrun_out e _ _ _
 | some x=>rw [mrun_at e,if_neg (fun k=>h k.1)]
theorem depthT_leaf {l:List Ex} {n:Nat} {x:Ex} (h:l[n]? = some x) (hx:x.op=1 ∨ x.op=17):depthT l n=1:=by
 have e:depthT l n=nodeD ((accT nodeD l []).take n) x:=by
  rw [← acc_at nodeD h]
  unfold depthT getS
  rw [if_neg (by omega)]; rfl
 rw [e,nodeD,if_pos hx]
theorem mrun_node (l:List Ex):∀ (k:Nat),k < l.length → ∀ (d:Int) (R:Stk) (dep:Int),
  (sizeT l k=0 → mrun l (k + 1) ((k,d) :: R) dep=none) ∧ (sizeT l k ≠ 0 → mrun l (k + 1) ((k,d) :: R) dep=mrun l (k + 1 - sizeT l k) R (max dep (d - 1 + depthT l k))):=by
 intro k
 induction k using Nat.strongRecOn with
 | ind k ih =>
  intro hk d R dep
  obtain ⟨x,hx⟩:∃ x,l[k]? = some x:=⟨_,List.getElem?_eq_getElem hk⟩
  have hs:=sizeT_at hx
  have hm:mrun l (k + 1) (((k:Int),d) :: R) dep=if okN x=true then mrun l k (pushT x d R) (max dep d) else none:=by
   rw [mrun_at hx]; simp only [true_and]
  by_cases h1:x.op=1
  ·rw [if_pos h1] at hs
   by_cases hc:x.a=0 ∧ x.b=0 ∧ emptyB x.n=true ∧ rightV x.v=true
   ·rw [if_pos hc] at hs
    rw [if_pos ((okN_one h1).2 hc)] at hm
    refine ⟨fun h=>absurd h (by omega),fun _=>?_⟩
    rw [hm,hs,depthT_leaf hx (.inl h1),pushT,roots_leaf (.inl h1)]
    simp only [List.map_nil,List.reverse_nil,List.nil_append,Nat.add_sub_cancel]
    congr 1; omega
   ·rw [if_neg hc] at hs
    rw [if_neg (fun h=>hc ((okN_one h1).1 h))] at hm
    exact ⟨fun _=>hm,fun h=>absurd hs h⟩
  rw [if_neg h1] at hs
  by_cases h17:x.op=17
  ·rw [if_pos h17] at hs
   by_cases hc:x.a=0 ∧ x.b=0 ∧ nameB x.n=true ∧ zeroV x.v=true
   ·rw [if_pos hc] at hs
    rw [if_pos ((okN_name h17).2 hc)] at hm
    refine ⟨fun h=>absurd h (by omega),fun _=>?_⟩
    rw [hm,hs,depthT_leaf hx (.inr h17),pushT,roots_leaf (.inr h17)]
    simp only [List.map_nil,List.reverse_nil,List.nil_append,Nat.add_sub_cancel]
    congr 1; omega
   ·rw [if_neg hc] at hs
    rw [if_neg (fun h=>hc ((okN_name h17).1 h))] at hm
    exact ⟨fun _=>hm,fun h=>absurd hs h⟩
  rw [if_neg h17] at hs
  by_cases hb:x.op < 4 ∨ 16 < x.op
  ·rw [if_pos (by rcases hb with hb | hb <;> simp [hb])] at hs
   rw [okN_no h1 h17 hb,if_neg (by simp)] at hm
   exact ⟨fun _=>hm,fun h=>absurd hs h⟩
  by_cases h5:x.op ≤ 5
  ·have ho:4 ≤ x.op ∧ x.op ≤ 5:=by omega
   by_cases hc:x.b=0 ∧ emptyB x.n=true ∧ zeroV x.v=true
   ·rw [if_neg (by rw [hc.2.1,hc.2.2]; simp; omega),if_pos h5] at hs
    rw [if_pos ((okN_op1 ho).2 hc),pushT,roots_op1 ho] at hm
    simp only [List.map_cons,List.map_nil,List.reverse_cons,List.reverse_nil,List.nil_append,List.singleton_append] at hm
    cases k with
    | zero =>
     rw [sizeT_out (l:=l) (i:=((0:Nat):Int) - 1) (.inl (by omega)),if_neg (by simp)] at hs
     exact ⟨fun _=>by rw [hm]; rfl,fun h=>absurd hs h⟩
    | succ j =>
     have ej:(((j + 1:Nat):Int) - 1)=(j:Int):=by omega
     rw [ej] at hs
     by_cases ha:x.a=(j:Int)
     ·have hi:=ih j (by omega) (by omega) (d + 1) R (max dep d)
      rw [ha] at hm
      by_cases hz:sizeT l j=0
      ·rw [if_neg (fun h=>h.2.2 hz)] at hs
       exact ⟨fun _=>by rw [hm]; exact hi.1 hz,fun h=>absurd hs h⟩
      ·rw [if_pos ⟨ha,hc.1,hz⟩] at hs
       refine ⟨fun h=>absurd h (by omega),fun _=>?_⟩
       have hd:=depthT_at hx (by rw [ha]; omega) (by rw [hc.1]; omega)
       rw [if_neg (by omega),if_neg (by omega),ha] at hd
       rw [hm,hi.2 hz,hs,hd]
       congr 1 <;> omega
     ·rw [if_neg (fun h=>ha h.1)] at hs
      exact ⟨fun _=>by rw [hm]; exact mrun_off ha _ _,fun h=>absurd hs h⟩
   ·have hf:okN x=false:=by
     cases e:okN x
     ·rfl
     ·exact absurd ((okN_op1 ho).1 e) hc
    rw [hf,if_neg (by simp)] at hm
    refine ⟨fun _=>hm,fun h=>absurd ?_ h⟩
    rw [hs]
    split
    ·rfl
    ·rename_i hh
     rw [if_neg (fun h=>hc ⟨h.2.1,by
      cases e:emptyB x.n
      ·exact absurd (.inr (.inr (.inl e))) hh
      ·rfl,by
      cases e:zeroV x.v
      ·exact absurd (.inr (.inr (.inr e))) hh
      ·rfl⟩)]
  ·have ho:6 ≤ x.op ∧ x.op ≤ 16:=by omega
   by_cases hc:emptyB x.n=true ∧ zeroV x.v=true
   ·rw [if_neg (by rw [hc.1,hc.2]; simp; omega),if_neg h5] at hs
    rw [if_pos ((okN_op2 ho).2 hc),pushT,roots_op2 ho] at hm
    simp only [List.map_cons,List.map_nil,List.reverse_cons,List.reverse_nil,List.nil_append,List.cons_append] at hm
    cases k with
    | zero =>
     rw [sizeT_out (l:=l) (i:=((0:Nat):Int) - 1) (.inl (by omega)),if_neg (by simp)] at hs
     exact ⟨fun _=>by rw [hm]; rfl,fun h=>absurd hs h⟩
    | succ j =>
     have ej:(((j + 1:Nat):Int) - 1)=(j:Int):=by omega
     rw [ej] at hs
     by_cases hbj:x.b=(j:Int)
     ·rw [hbj] at hm
      have hi:=ih j (by omega) (by omega) (d + 1) ((x.a,d + 1) :: R) (max dep d)
      by_cases hz:sizeT l j=0
      ·rw [if_neg (fun h=>h.1 hz)] at hs
       exact ⟨fun _=>by rw [hm]; exact hi.1 hz,fun h=>absurd hs h⟩
      ·have hle:=sizeT_le l j
       have hm2:=hm.trans (hi.2 hz)
       by_cases hfull:sizeT l j=j + 1
       ·rw [hfull,show (j:Int) - ((j + 1:Nat):Int)=-1 by omega,sizeT_out (l:=l) (i:=-1) (.inl (by omega)),if_neg (fun h=>h.2.2.2 rfl)] at hs
        exact ⟨fun _=>by rw [hm2,hfull,Nat.sub_self,mrun_zero],fun h=>absurd hs h⟩
       ·obtain ⟨q,hq⟩:∃ q,j=q + sizeT l j:=⟨j - sizeT l j,by omega⟩
        have e2:((j:Int) - (sizeT l j:Nat))=(q:Int):=by omega
        rw [e2] at hs
        rw [show j + 1 - sizeT l j=q + 1 by omega] at hm2
        by_cases ha:x.a=(q:Int)
        ·rw [ha] at hm2
         have hj:=ih q (by omega) (by omega) (d + 1) R (max (max dep d) (d + 1 - 1 + (depthT l j:Nat)))
         by_cases hz2:sizeT l q=0
         ·rw [if_neg (fun h=>h.2.2.2 hz2)] at hs
          exact ⟨fun _=>by rw [hm2]; exact hj.1 hz2,fun h=>absurd hs h⟩
         ·rw [if_pos ⟨hz,hbj,ha,hz2⟩] at hs
          refine ⟨fun h=>absurd h (by omega),fun _=>?_⟩
          have hd:=depthT_at hx (by rw [ha]; omega) (by rw [hbj]; omega)
          rw [if_neg (by omega),if_pos (by omega),ha,hbj] at hd
          have hle2:=sizeT_le l q
          rw [hm2,hj.2 hz2,hs,hd]
          congr 1 <;> omega
        ·rw [if_neg (fun h=>ha h.2.2.1)] at hs
         exact ⟨fun _=>by rw [hm2]; exact mrun_off ha _ _,fun h=>absurd hs h⟩
     ·rw [if_neg (fun h=>hbj h.2.1)] at hs
      exact ⟨fun _=>by rw [hm]; exact mrun_off hbj _ _,fun h=>absurd hs h⟩
   ·have hf:okN x=false:=by
     cases e:okN x
     ·rfl
     ·exact absurd ((okN_op2 ho).1 e) hc
    rw [hf,if_neg (by simp)] at hm
    refine ⟨fun _=>hm,fun h=>absurd ?_ h⟩
    rw [hs,if_pos]
    cases e:emptyB x.n
    ·exact .inr (.inr (.inl rfl))
    ·cases e2:zeroV x.v
     ·exact .inr (.inr (.inr rfl))
     ·exact absurd ⟨e,e2⟩ hc
def measT (l:List Ex) (i:Int):Int × Int:=match mrun l (i + 1).toNat [(i,1)] 0 with
 | none=>(0,0)
 | some (k,d)=>(i + 1 - (k:Nat),d)
theorem meas_depth (l:List Ex) (i:Int):(measT l i).2=if sizeT l i=0 then 0 else ((depthT l i:Nat):Int):=by
 by_cases hn:i < 0
 ·rw [measT,show (i + 1).toNat=0 by omega,mrun_zero,sizeT_out (.inl hn)]; rfl
 ·obtain ⟨k,rfl⟩:∃ k:Nat,i=k:=⟨i.toNat,by omega⟩
  rw [measT,show ((k:Int) + 1).toNat=k + 1 by omega]
  by_cases hk:k < l.length
  ·have h:=mrun_node l k hk 1 [] 0
   by_cases hz:sizeT l k=0
   ·rw [h.1 hz,if_pos hz]
   ·rw [h.2 hz,mrun_nil,if_neg hz]; simp only; omega
  ·rw [mrun_out (List.getElem?_eq_none (by omega)),sizeT_out (.inr (by omega))]; rfl
end Go.Proofs.YtiafhfchjhffhaaGreatDoor
