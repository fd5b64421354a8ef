/- paclaim: ParC ParLink ParRel -/
import Derived.Test.YtiafhfchjhffhaaGreatDoorLowPa1
namespace Go.Proofs.YtiafhfchjhffhaaGreatDoor
set_option linter.unusedVariables false
structure Cx where
 (ns:List Ex) (d:Nat)
def opE (t:Tk) (op:Int):Ex:=⟨op,0,0,⟨#[]⟩,v0,t.line,t.col⟩
def leafE (t:Tk) (op:Int) (s:List UInt8) (v:Vd):Ex:=⟨op,0,0,⟨s.toArray⟩,v,t.line,t.col⟩
def leafC (t:Tk) (op:Int) (s:List UInt8) (v:Vd):Cx:=⟨[leafE t op s v],1⟩
def z0:Cx:=leafC default 1 [] v0
def peekC (M:List Tk) (p:Pl):Tk:=if p.er=0 then tkAt M p.a else default
def failC (p:Pl) (t:Tk) (e:Nat):Pl:=if p.er=0 then ⟨p.a,e,t.line,t.col,p.op⟩ else p
def overL (p:Pl) (t:Tk) (op:Int) (L:List Cx):Cx × Pl :=
 (⟨(L.map Cx.ns).flatten ++ [opE t op],L.foldl (fun n c=>max n c.d) 0 + 1⟩,if 64 < L.foldl (fun n c=>max n c.d) 0 + 1 then failC p t 13 else p)
def withinC (p:Pl) (t:Tk):Pl:=if 128 < p.op + 1 then failC ⟨p.a,p.er,p.line,p.col,p.op + 1⟩ t 13 else ⟨p.a,p.er,p.line,p.col,p.op + 1⟩
def minusT (b:Bool) (t:List UInt8):List UInt8:=if b=true ∧ t ≠ [48] then 45 :: t else t
def numberC (M:List Tk) (p:Pl) (b:Bool):Vd × Pl :=
 (vInt (pn (minusT b (peekC M p).t)),if pe (minusT b (peekC M p).t)=5 then failC (skipP p) (peekC M p) 5 else skipP p)
def valueC1 (M:List Tk) (p:Pl) (b:Bool):Vd × Pl :=
 if (peekC M p).k=3 then numberC M p b
 else if b=true then (v0,stopP M p 16)
 else if (peekC M p).k=4 then (vStr (peekC M p).t,skipP p)
 else if isP M p kwTrue=true then (vBool true,skipP p)
 else if isP M p kwFalse=true then (vBool false,skipP p)
 else (v0,stopP M p 16)
def valueC (M:List Tk) (p:Pl):Vd × Pl:=if isP M p [45]=true then valueC1 M (skipP p) true else valueC1 M p false
def isNameT (t:Tk):Bool:=t.k == 1 && t.t != [95]
def unaryC (M:List Tk) (p:Pl) (r1 r2:Cx × Pl):Cx × Pl :=
 if isP M p [45]=true ∧ (tkAt M (p.a + 1)).k ≠ 3 then overL (shutP r1.2) (tkAt M p.a) 5 [r1.1]
 else if isP M p [40]=true then (r2.1,wantP M (shutP r2.2) [41])
 else if isNameT (peekC M p)=true then (leafC (peekC M p) 17 (peekC M p).t v0,skipP p)
 else (leafC (peekC M p) 1 [] (valueC M p).1,(valueC M p).2)
def cmpC (M:List Tk) (r1 r2:Cx × Pl):Cx × Pl :=
 if firstOp M r1.2 cmpS=0 then r1
 else if 100 < firstOp M r1.2 cmpS then overL r2.2 (tkAt M r1.2.a) ((firstOp M r1.2 cmpS:Int) - 100) [r2.1,r1.1]
 else overL r2.2 (tkAt M r1.2.a) (firstOp M r1.2 cmpS) [r1.1,r2.1]
def notC (M:List Tk) (p:Pl) (r1 r2:Cx × Pl):Cx × Pl :=
 if isP M p kwNot=true then overL (shutP r1.2) (tkAt M p.a) 4 [r1.1] else r2
def opsL:Nat → List (List UInt8 × Nat)
 | 1=>[(kwOr,7)] | 3=>[(kwAnd,6)] | 7=>plusS | _=>timesS
instance (lv:Nat):Decidable (joinL lv):=by unfold joinL; exact inferInstance
def exprC (M:List Tk):Nat → Nat → Pl → Cx → Cx × Pl
 | 0,_,p,l=>(l,p)
 | n + 1,lv,p,l =>
  if lv=0 ∨ lv=2 ∨ lv=6 ∨ lv=8 then exprC M n (lv + 1) (exprC M n (lv + 2) p z0).2 (exprC M n (lv + 2) p z0).1
  else if joinL lv then
   (if firstOp M p (opsL lv)=0 then (l,p)
   else exprC M n lv (overL (exprC M n (lv + 1) (skipP p) z0).2 (tkAt M p.a) (firstOp M p (opsL lv)) [l,(exprC M n (lv + 1) (skipP p) z0).1]).2 (overL (exprC M n (lv + 1) (skipP p) z0).2 (tkAt M p.a) (firstOp M p (opsL lv)) [l,(exprC M n (lv + 1) (skipP p) z0).1]).1)
  else if lv=4 then notC M p (exprC M n 4 (withinC (skipP p) (tkAt M p.a)) z0) (exprC M n 5 p z0)
  else if lv=5 then cmpC M (exprC M n 6 p z0) (exprC M n 6 (skipP (exprC M n 6 p z0).2) z0)
  else unaryC M p (exprC M n 10 (withinC (skipP p) (tkAt M p.a)) z0) (exprC M n 0 (withinC (skipP p) (tkAt M p.a)) z0)
theorem exprC_up {M:List Tk} {n lv:Nat} {p:Pl} {l:Cx} (h:lv=0 ∨ lv=2 ∨ lv=6 ∨ lv=8):exprC M (n + 1) lv p l=exprC M n (lv + 1) (exprC M n (lv + 2) p z0).2 (exprC M n (lv + 2) p z0).1:=by
 rw [exprC,if_pos h]
theorem not_up {lv:Nat} (h:joinL lv):¬ (lv=0 ∨ lv=2 ∨ lv=6 ∨ lv=8):=by unfold joinL at h; omega
theorem exprC_end {M:List Tk} {n lv:Nat} {p:Pl} {l:Cx} (h:joinL lv) (h0:firstOp M p (opsL lv)=0):exprC M (n + 1) lv p l=(l,p):=by
 rw [exprC,if_neg (not_up h),if_pos h,if_pos h0]
theorem exprC_more {M:List Tk} {n lv:Nat} {p:Pl} {l:Cx} (h:joinL lv) (h0:¬ firstOp M p (opsL lv)=0):exprC M (n + 1) lv p l=exprC M n lv (overL (exprC M n (lv + 1) (skipP p) z0).2 (tkAt M p.a) (firstOp M p (opsL lv)) [l,(exprC M n (lv + 1) (skipP p) z0).1]).2 (overL (exprC M n (lv + 1) (skipP p) z0).2 (tkAt M p.a) (firstOp M p (opsL lv)) [l,(exprC M n (lv + 1) (skipP p) z0).1]).1:=by
 rw [exprC,if_neg (not_up h),if_pos h,if_neg h0]
theorem exprC_4 (M:List Tk) (n:Nat) (p:Pl) (l:Cx):exprC M (n + 1) 4 p l=notC M p (exprC M n 4 (withinC (skipP p) (tkAt M p.a)) z0) (exprC M n 5 p z0):=rfl
theorem exprC_5 (M:List Tk) (n:Nat) (p:Pl) (l:Cx):exprC M (n + 1) 5 p l=cmpC M (exprC M n 6 p z0) (exprC M n 6 (skipP (exprC M n 6 p z0).2) z0):=rfl
theorem exprC_10 (M:List Tk) (n:Nat) (p:Pl) (l:Cx):exprC M (n + 1) 10 p l=unaryC M p (exprC M n 10 (withinC (skipP p) (tkAt M p.a)) z0) (exprC M n 0 (withinC (skipP p) (tkAt M p.a)) z0):=rfl
theorem isP_err {M:List Tk} {p:Pl} {s:List UInt8} (h:p.er ≠ 0):isP M p s=false:=by
 cases e:isP M p s with
 | false=>rfl
 | true=>exact absurd (isP_some e).1 h
theorem first_err {M:List Tk} {p:Pl} (h:p.er ≠ 0):∀ (L:List (List UInt8 × Nat)),firstOp M p L=0
 | []=>rfl
 | (s,o) :: r=>by rw [firstOp,isP_err h,if_neg (by decide)]; exact first_err h r
theorem stop_err {M:List Tk} {p:Pl} {e:Nat} (h:p.er ≠ 0):stopP M p e=p:=by unfold stopP; rw [if_neg h]
theorem fail_err {p:Pl} {t:Tk} {e:Nat} (h:p.er ≠ 0):failC p t e=p:=by unfold failC; rw [if_neg h]
theorem peek_err {M:List Tk} {p:Pl} (h:p.er ≠ 0):peekC M p=default:=by unfold peekC; rw [if_neg h]
theorem valueC_err {M:List Tk} {p:Pl} (h:p.er ≠ 0):valueC M p=(v0,p):=by
 unfold valueC valueC1
 rw [isP_err h,isP_err h,isP_err h,peek_err h,stop_err h,if_neg (by decide),if_neg (by decide),if_neg (by decide),if_neg (by decide),if_neg (by decide),if_neg (by decide)]
theorem unaryC_err {M:List Tk} {p:Pl} {r1 r2:Cx × Pl} (h:p.er ≠ 0):unaryC M p r1 r2=(leafC default 1 [] v0,p):=by
 unfold unaryC
 rw [isP_err h,isP_err h,peek_err h,valueC_err h,if_neg (fun k=>by cases k.1),if_neg (by decide),if_neg (by decide)]
theorem exprC_err (M:List Tk):∀ (n lv:Nat) (p:Pl) (l:Cx),p.er ≠ 0 → (exprC M n lv p l).2=p ∧ (joinL lv → exprC M n lv p l=(l,p)) ∧ (¬ joinL lv → l=z0 → exprC M n lv p l=(z0,p))
 | 0,_,p,l,_=>⟨rfl,fun _=>rfl,fun _ e=>by rw [e]; rfl⟩
 | n + 1,lv,p,l,h=>by
  have X:∀ lv',¬ joinL lv' → exprC M n lv' p z0=(z0,p):=fun lv' hj=>(exprC_err M n lv' p z0 h).2.2 hj rfl
  have key:(joinL lv → exprC M (n + 1) lv p l=(l,p)) ∧ (¬ joinL lv → exprC M (n + 1) lv p l=(z0,p)):=by
   refine ⟨fun hj=>exprC_end hj (first_err h _),fun hj=>?_⟩
   by_cases hu:lv=0 ∨ lv=2 ∨ lv=6 ∨ lv=8
   ·rw [exprC_up hu,X (lv + 2) (by unfold joinL; omega)]
    exact (exprC_err M n (lv + 1) p z0 h).2.1 (by unfold joinL; omega)
   ·rw [exprC,if_neg hu,if_neg hj]
    by_cases h4:lv=4
    ·rw [if_pos h4]
     unfold notC
     rw [isP_err h,if_neg (by decide)]
     exact X 5 (by unfold joinL; omega)
    ·rw [if_neg h4]
     by_cases h5:lv=5
     ·rw [if_pos h5]
      unfold cmpC
      rw [X 6 (by unfold joinL; omega),first_err h,if_pos rfl]
     ·rw [if_neg h5,unaryC_err h]
      rfl
  by_cases hj:joinL lv
  ·rw [key.1 hj]
   exact ⟨rfl,fun _=>rfl,fun k=>absurd hj k⟩
  ·rw [key.2 hj]
   exact ⟨rfl,fun k=>absurd k hj,fun _ _=>rfl⟩
def hgt:List Ex → Nat → Option Nat
 | [],h=>some h
 | x :: r,h=>if x.op=1 ∨ x.op=17 then hgt r (h + 1) else if x.op=4 ∨ x.op=5 then (if h=0 then none else hgt r h) else (if h < 2 then none else hgt r (h - 1))
theorem hgt_app:∀ (xs ys:List Ex) (h:Nat),hgt (xs ++ ys) h=(hgt xs h).bind (hgt ys)
 | [],ys,h=>rfl
 | x :: r,ys,h=>by
  rw [List.cons_append,hgt,hgt]
  split
  ·exact hgt_app r ys _
  ·split
   ·split
    ·rfl
    ·exact hgt_app r ys _
   ·split
    ·rfl
    ·exact hgt_app r ys _
def Net (l:List Ex):Prop:=∀ h,hgt l h=some (h + 1)
theorem net_leaf {x:Ex} (hx:x.op=1 ∨ x.op=17):Net [x]:=fun h=>by rw [hgt,if_pos hx]; rfl
theorem net_one {l:List Ex} {x:Ex} (h:Net l) (hx:x.op=4 ∨ x.op=5):Net (l ++ [x]):=fun k=>by
 rw [hgt_app,h k]
 show hgt [x] (k + 1)=_
 rw [hgt,if_neg (by omega),if_pos hx,if_neg (by omega)]
 rfl
theorem net_two {l m:List Ex} {x:Ex} (h:Net l) (h2:Net m) (hx:6 ≤ x.op ∧ x.op ≤ 16):Net (l ++ m ++ [x]):=fun k=>by
 rw [hgt_app,hgt_app,h k]
 show ((hgt m (k + 1)).bind (hgt [x]))=_
 rw [h2 (k + 1)]
 show hgt [x] (k + 2)=_
 rw [hgt,if_neg (by omega),if_neg (by omega),if_neg (by omega)]
 rfl
structure Cok (M:List Tk) (b:Nat) (p:Pl) (r:Cx × Pl):Prop where
 a1:p.a ≤ r.2.a
 a2:r.2.a ≤ M.length
 op:r.2.op=p.op
 keep:p.er ≠ 0 → r.2=p
 len:r.1.ns.length + p.a ≤ b + r.2.a + 1
 len0:r.2.er=0 → r.1.ns.length + p.a ≤ b + r.2.a
 dep:r.1.d ≤ r.1.ns.length
 net:Net r.1.ns
theorem Cok.er {M:List Tk} {b:Nat} {p:Pl} {r:Cx × Pl} (h:Cok M b p r) (e:r.2.er=0):p.er=0:=by
 by_cases k:p.er=0
 ·exact k
 ·rw [h.keep k] at e; exact absurd e k
theorem Cok.mu {M:List Tk} {b:Nat} {p:Pl} {r:Cx × Pl} (h:Cok M b p r):muP M r.2 ≤ muP M p:=by
 unfold muP
 by_cases e:r.2.er=0
 ·rw [if_pos e,if_pos (h.er e)]
  have:=h.a1
  omega
 ·rw [if_neg e]; exact Nat.zero_le _
theorem over_op (p:Pl) (t:Tk) (op:Int) (L:List Cx):(overL p t op L).2.op=p.op ∧ (overL p t op L).2.a=p.a ∧ ((overL p t op L).2.er=0 → p.er=0) ∧ (p.er ≠ 0 → (overL p t op L).2=p):=by
 unfold overL
 dsimp only
 split
 ·unfold failC
  split
  ·rename_i h
   exact ⟨rfl,rfl,fun _=>h,fun k=>absurd h k⟩
  ·rename_i h
   exact ⟨rfl,rfl,fun k=>absurd k h,fun _=>rfl⟩
 ·exact ⟨rfl,rfl,id,fun _=>rfl⟩
theorem over_two (p:Pl) (t:Tk) (op:Int) (a b:Cx):(overL p t op [a,b]).1=⟨a.ns ++ b.ns ++ [opE t op],max a.d b.d + 1⟩:=by
 unfold overL
 simp
theorem over_one (p:Pl) (t:Tk) (op:Int) (a:Cx):(overL p t op [a]).1=⟨a.ns ++ [opE t op],a.d + 1⟩:=by
 unfold overL
 simp
theorem within_at (p:Pl) (t:Tk):(withinC p t).a=p.a ∧ (withinC p t).op=p.op + 1 ∧ (p.er ≠ 0 → (withinC p t).er ≠ 0) ∧ ((withinC p t).er=0 → p.er=0 ∧ p.op < 128):=by
 unfold withinC failC
 dsimp only
 split
 ·split
  ·rename_i h
   exact ⟨rfl,rfl,fun k=>absurd h k,fun k=>by cases k⟩
  ·rename_i h
   exact ⟨rfl,rfl,fun _=>h,fun k=>absurd k h⟩
 ·exact ⟨rfl,rfl,id,fun k=>⟨k,by omega⟩⟩
theorem stop_at (M:List Tk) (p:Pl) (e:Nat):(stopP M p e).a=p.a ∧ (stopP M p e).op=p.op ∧ (e ≠ 0 → (stopP M p e).er ≠ 0):=by
 refine ⟨?_,?_,fun he=>stop_no M p e he⟩
 ·unfold stopP
  split
  ·split <;> rfl
  ·rfl
 ·unfold stopP
  split
  ·split <;> rfl
  ·rfl
theorem peek_in {M:List Tk} {p:Pl} (h:(peekC M p).k ≠ 0):p.er=0 ∧ p.a < M.length:=by
 unfold peekC at h
 by_cases e:p.er=0
 ·rw [if_pos e] at h
  refine ⟨e,?_⟩
  by_cases k:p.a < M.length
  ·exact k
  ·unfold tkAt at h
   rw [List.getD,List.getElem?_eq_none (by omega)] at h
   exact absurd rfl h
 ·rw [if_neg e] at h
  exact absurd rfl h
theorem valueC_at {M:List Tk} {p:Pl} (hp:p.a ≤ M.length):p.a ≤ (valueC M p).2.a ∧ (valueC M p).2.a ≤ M.length ∧ (valueC M p).2.op=p.op ∧ ((valueC M p).2.er=0 → p.er=0 ∧ p.a + 1 ≤ (valueC M p).2.a):=by
 have key:∀ (q:Pl) (b:Bool),q.a ≤ M.length → q.a ≤ (valueC1 M q b).2.a ∧ (valueC1 M q b).2.a ≤ M.length ∧ (valueC1 M q b).2.op=q.op ∧ ((valueC1 M q b).2.er=0 → q.er=0 ∧ q.a + 1 ≤ (valueC1 M q b).2.a):=fun q b hq=>by
  have hs:∀ (h:(peekC M q).k ≠ 0),q.a ≤ (skipP q).a ∧ (skipP q).a ≤ M.length ∧ (skipP q).op=q.op ∧ ((skipP q).er=0 → q.er=0 ∧ q.a + 1 ≤ (skipP q).a):=fun h=>by
   obtain ⟨h1,h2⟩:=peek_in h
   exact ⟨Nat.le_succ _,h2,rfl,fun _=>⟨h1,Nat.le_refl _⟩⟩
  have hi:∀ s,isP M q s=true → q.a ≤ (skipP q).a ∧ (skipP q).a ≤ M.length ∧ (skipP q).op=q.op ∧ ((skipP q).er=0 → q.er=0 ∧ q.a + 1 ≤ (skipP q).a):=fun s h=>by
   obtain ⟨h1,h2⟩:=isP_some h
   exact ⟨Nat.le_succ _,h2,rfl,fun _=>⟨h1,Nat.le_refl _⟩⟩
  have ht:q.a ≤ (stopP M q 16).a ∧ (stopP M q 16).a ≤ M.length ∧ (stopP M q 16).op=q.op ∧ ((stopP M q 16).er=0 → q.er=0 ∧ q.a + 1 ≤ (stopP M q 16).a):=by
   obtain ⟨h1,h2,h3⟩:=stop_at M q 16
   exact ⟨by omega,by omega,h2,fun k=>absurd k (h3 (by decide))⟩
  unfold valueC1
  split
  ·rename_i h3
   have h4:=hs (by omega)
   unfold numberC
   dsimp only
   split
   ·unfold failC
    split
    ·exact ⟨h4.1,h4.2.1,h4.2.2.1,fun k=>by cases k⟩
    ·exact h4
   ·exact h4
  ·split
   ·exact ht
   ·split
    ·rename_i h4
     exact hs (by omega)
    ·split
     ·rename_i h5
      exact hi _ h5
     ·split
      ·rename_i h6
       exact hi _ h6
      ·exact ht
 unfold valueC
 split
 ·rename_i h
  obtain ⟨h1,h2⟩:=isP_some h
  obtain ⟨k1,k2,k3,k4⟩:=key (skipP p) true h2
  have e:(skipP p).a=p.a + 1:=rfl
  exact ⟨by omega,k2,k3,fun k=>⟨h1,by have:=(k4 k).2; omega⟩⟩
 ·exact key p false hp
theorem leaf_cok {M:List Tk} {p q:Pl} {t:Tk} {op:Int} {s:List UInt8} {v:Vd} (ho:op=1 ∨ op=17) (h1:p.a ≤ q.a) (h2:q.a ≤ M.length) (h3:q.op=p.op) (hk:p.er ≠ 0 → q=p) (h4:q.er=0 → p.a + 1 ≤ q.a):Cok M 0 p (leafC t op s v,q) :=
 ⟨h1,h2,h3,hk,by show 1 + p.a ≤ 0 + q.a + 1; omega,fun e=>by show 1 + p.a ≤ 0 + q.a; have:=h4 e; omega,Nat.le_refl _,net_leaf ho⟩
theorem one_cok {M:List Tk} {p q:Pl} {r:Cx × Pl} {t:Tk} {op:Int} (ho:op=4 ∨ op=5) (h:Cok M 0 q r) (hp:p.er=0) (hq:q.a=p.a + 1) (hop:q.op=p.op + 1):Cok M 0 p (overL (shutP r.2) t op [r.1]):=by
 obtain ⟨o1,o2,o3,o4⟩:=over_op (shutP r.2) t op [r.1]
 have e:(shutP r.2).a=r.2.a:=rfl
 have e2:(shutP r.2).op=r.2.op - 1:=rfl
 have e3:(shutP r.2).er=r.2.er:=rfl
 have a1:=h.a1
 have a2:=h.a2
 have aop:=h.op
 have al:=h.len
 refine ⟨by omega,by omega,by omega,fun k=>absurd hp k,?_,fun k=>?_,?_,?_⟩
 ·rw [over_one,o2]
  simp only [List.length_append,List.length_singleton]
  omega
 ·have:=h.len0 (o3 k)
  rw [over_one,o2]
  simp only [List.length_append,List.length_singleton]
  omega
 ·rw [over_one]
  have:=h.dep
  simp only [List.length_append,List.length_singleton]
  omega
 ·rw [over_one]
  exact net_one h.net ho
theorem two_net {a b:Cx} {t:Tk} {op:Int} {p:Pl} (ho:6 ≤ op ∧ op ≤ 16) (ha:Net a.ns) (hb:Net b.ns) (hd:a.d ≤ a.ns.length) (hd2:b.d ≤ b.ns.length):Net (overL p t op [a,b]).1.ns ∧ (overL p t op [a,b]).1.d ≤ (overL p t op [a,b]).1.ns.length ∧ (overL p t op [a,b]).1.ns.length=a.ns.length + b.ns.length + 1:=by
 rw [over_two]
 refine ⟨net_two ha hb ho,?_,?_⟩
 ·simp only [List.length_append,List.length_singleton]
  omega
 ·simp only [List.length_append,List.length_singleton]
theorem ops_ok {M:List Tk} {p:Pl} {lv:Nat} (hj:joinL lv) (h:¬ firstOp M p (opsL lv)=0):6 ≤ firstOp M p (opsL lv) ∧ firstOp M p (opsL lv) ≤ 16:=by
 have h1:=firstOp_mem (opsL lv) h
 rcases hj with rfl | rfl | rfl | rfl
 ·have h2:firstOp M p (opsL 1) ∈ [7]:=h1
  simp only [List.mem_cons,List.not_mem_nil,or_false] at h2
  omega
 ·have h2:firstOp M p (opsL 3) ∈ [6]:=h1
  simp only [List.mem_cons,List.not_mem_nil,or_false] at h2
  omega
 ·have h2:firstOp M p (opsL 7) ∈ [8,9]:=h1
  simp only [List.mem_cons,List.not_mem_nil,or_false] at h2
  omega
 ·have h2:firstOp M p (opsL 9) ∈ [10,11,12]:=h1
  simp only [List.mem_cons,List.not_mem_nil,or_false] at h2
  omega
theorem mu_within {M:List Tk} {p:Pl} {s:List UInt8} {t:Tk} (h:isP M p s=true):muP M (withinC (skipP p) t) + 1 ≤ muP M p:=by
 obtain ⟨h1,h2⟩:=isP_some h
 obtain ⟨k1,_⟩:=within_at (skipP p) t
 have e:(skipP p).a=p.a + 1:=rfl
 unfold muP
 rw [if_pos h1]
 split <;> omega
theorem expr_cok (M:List Tk):∀ (n lv:Nat) (p:Pl),needP M lv p ≤ n → lv ≤ 10 → p.a ≤ M.length → (¬ joinL lv → Cok M 0 p (exprC M n lv p z0)) ∧ (joinL lv → ∀ l:Cx,Net l.ns → l.d ≤ l.ns.length → Cok M l.ns.length p (exprC M n lv p l)):=by
 intro n
 induction n with
 | zero =>
  intro lv p hn
  have:=rank_pos lv
  unfold needP at hn
  omega
 | succ k ih =>
  intro lv p hn hlv hpa
  have e0:rankP 0=12:=rfl
  have e1:rankP 1=11:=rfl
  have e2:rankP 2=10:=rfl
  have e3:rankP 3=9:=rfl
  have e4:rankP 4=8:=rfl
  have e5:rankP 5=7:=rfl
  have e6:rankP 6=6:=rfl
  have e7:rankP 7=5:=rfl
  have e8:rankP 8=4:=rfl
  have e9:rankP 9=3:=rfl
  have e10:rankP 10=2:=rfl
  have X:∀ (lv':Nat) (p':Pl),needP M lv' p' < needP M lv p → lv' ≤ 10 → p'.a ≤ M.length → ¬ joinL lv' → Cok M 0 p' (exprC M k lv' p' z0):=fun lv' p' h h2 h3 hj=>(ih lv' p' (by omega) h2 h3).1 hj
  have J:∀ (lv':Nat) (p':Pl) (l:Cx),needP M lv' p' < needP M lv p → lv' ≤ 10 → p'.a ≤ M.length → joinL lv' → Net l.ns → l.d ≤ l.ns.length → Cok M l.ns.length p' (exprC M k lv' p' l):=fun lv' p' l h h2 h3 hj hn hd=>(ih lv' p' (by omega) h2 h3).2 hj l hn hd
  have hw:∀ s t,isP M p s=true → ∀ lv',needP M lv' (withinC (skipP p) t) < needP M lv p:=fun s t hs lv'=>by
   have:=mu_within (t:=t) hs
   have:=rank_le lv'
   unfold needP
   omega
  have hsk:∀ s,isP M p s=true → ∀ lv',needP M lv' (skipP p) < needP M lv p:=fun s hs lv'=>by
   have:=mu_skip hs
   have:=rank_le lv'
   unfold needP
   omega
  have hwa:∀ s t,isP M p s=true → (withinC (skipP p) t).a=p.a + 1 ∧ (withinC (skipP p) t).a ≤ M.length ∧ (withinC (skipP p) t).op=p.op + 1:=fun s t hs=>by
   obtain ⟨h1,h2,_⟩:=within_at (skipP p) t
   have h3:=(isP_some hs).2
   have e:(skipP p).a=p.a + 1:=rfl
   have e':(skipP p).op=p.op:=rfl
   exact ⟨by omega,by omega,by omega⟩
  refine ⟨fun hj=>?_,fun hj l hl hd=>?_⟩
  ·by_cases hu:lv=0 ∨ lv=2 ∨ lv=6 ∨ lv=8
   ·rw [exprC_up hu]
    have hr:rankP (lv + 2) < rankP lv ∧ rankP (lv + 1) < rankP lv:=by
     rcases hu with rfl | rfl | rfl | rfl <;> exact ⟨by decide,by decide⟩
    have c1:=X (lv + 2) p (by unfold needP; omega) (by omega) hpa (by unfold joinL; omega)
    have hm:=c1.mu
    have c2:=J (lv + 1) (exprC M k (lv + 2) p z0).2 (exprC M k (lv + 2) p z0).1 (by unfold needP; omega) (by omega) c1.a2 (by unfold joinL; omega) c1.net c1.dep
    refine ⟨Nat.le_trans c1.a1 c2.a1,c2.a2,c2.op.trans c1.op,fun e=>?_,?_,fun e=>?_,c2.dep,c2.net⟩
    ·rw [c2.keep (by rw [c1.keep e]; exact e),c1.keep e]
    ·have h1:=c1.len
     have h2:=c2.len
     have h3:=c1.len0
     by_cases he:(exprC M k (lv + 2) p z0).2.er=0
     ·have:=h3 he; omega
     ·have h4:=c2.keep he
      have h5:=((exprC_err M k (lv + 1) (exprC M k (lv + 2) p z0).2 (exprC M k (lv + 2) p z0).1 he).2.1 (by unfold joinL; omega))
      rw [h5]
      omega
    ·have h1:=c1.len0 (c2.er e)
     have h2:=c2.len0 e
     omega
   ·by_cases h4:lv=4
    ·subst h4
     rw [exprC_4]
     unfold notC
     split
     ·rename_i hs
      obtain ⟨w1,w2,w3⟩:=hwa kwNot (tkAt M p.a) hs
      exact one_cok (.inl rfl) (X 4 _ (hw _ _ hs 4) (by omega) w2 (by unfold joinL; omega)) (isP_some hs).1 w1 w3
     ·exact X 5 p (by unfold needP; omega) (by omega) hpa (by unfold joinL; omega)
    ·by_cases h5:lv=5
     ·subst h5
      rw [exprC_5]
      have c1:=X 6 p (by unfold needP; omega) (by omega) hpa (by unfold joinL; omega)
      have hm:=c1.mu
      unfold cmpC
      by_cases h0:firstOp M (exprC M k 6 p z0).2 cmpS=0
      ·rw [if_pos h0]
       exact c1
      ·rw [if_neg h0]
       obtain ⟨ss,hs⟩:=firstOp_some _ h0
       have hm1:=mu_skip hs
       have hin:=(isP_some hs).2
       have her:=(isP_some hs).1
       have esk:(skipP (exprC M k 6 p z0).2).a=(exprC M k 6 p z0).2.a + 1:=rfl
       have eso:(skipP (exprC M k 6 p z0).2).op=(exprC M k 6 p z0).2.op:=rfl
       have c2:=X 6 (skipP (exprC M k 6 p z0).2) (by unfold needP; omega) (by omega) (by omega) (by unfold joinL; omega)
       have hpe:=c1.er her
       have l1:=c1.len0 her
       have l2:=c2.len
       have b1:=c1.a1
       have b2:=c2.a1
       have b3:=c2.a2
       have p1:=c1.op
       have p2:=c2.op
       have ho:=cmp_op h0
       have fin:∀ (a b:Cx) (t:Tk) (op:Int),6 ≤ op ∧ op ≤ 16 → (a=(exprC M k 6 p z0).1 ∧ b=(exprC M k 6 (skipP (exprC M k 6 p z0).2) z0).1 ∨ b=(exprC M k 6 p z0).1 ∧ a=(exprC M k 6 (skipP (exprC M k 6 p z0).2) z0).1) → Cok M 0 p (overL (exprC M k 6 (skipP (exprC M k 6 p z0).2) z0).2 t op [a,b]):=fun a b t op hop hab=>by
        obtain ⟨o1,o2,o3,o4⟩:=over_op (exprC M k 6 (skipP (exprC M k 6 p z0).2) z0).2 t op [a,b]
        have hna:Net a.ns ∧ Net b.ns ∧ a.d ≤ a.ns.length ∧ b.d ≤ b.ns.length ∧ a.ns.length + b.ns.length=(exprC M k 6 p z0).1.ns.length + (exprC M k 6 (skipP (exprC M k 6 p z0).2) z0).1.ns.length:=by
         rcases hab with ⟨rfl,rfl⟩ | ⟨rfl,rfl⟩
         ·exact ⟨c1.net,c2.net,c1.dep,c2.dep,rfl⟩
         ·exact ⟨c2.net,c1.net,c2.dep,c1.dep,Nat.add_comm _ _⟩
        obtain ⟨n1,n2,n3⟩:=two_net (p:=(exprC M k 6 (skipP (exprC M k 6 p z0).2) z0).2) (t:=t) hop hna.1 hna.2.1 hna.2.2.1 hna.2.2.2.1
        refine ⟨by omega,by omega,by omega,fun e=>absurd hpe e,by omega,fun e=>?_,n2,n1⟩
        have:=c2.len0 (o3 e)
        omega
       split
       ·exact fin _ _ _ _ (by omega) (.inr ⟨rfl,rfl⟩)
       ·exact fin _ _ _ _ (by omega) (.inl ⟨rfl,rfl⟩)
     ·have h10:lv=10:=by unfold joinL at hj; omega
      subst h10
      rw [exprC_10]
      unfold unaryC
      split
      ·rename_i hs
       obtain ⟨w1,w2,w3⟩:=hwa [45] (tkAt M p.a) hs.1
       exact one_cok (.inr rfl) (X 10 _ (hw _ _ hs.1 10) (by omega) w2 (by unfold joinL; omega)) (isP_some hs.1).1 w1 w3
      ·split
       ·rename_i hs
        obtain ⟨w1,w2,w3⟩:=hwa [40] (tkAt M p.a) hs
        have c:=X 0 _ (hw _ (tkAt M p.a) hs 0) (by omega) w2 (by unfold joinL; omega)
        have hp0:=(isP_some hs).1
        generalize exprC M k 0 (withinC (skipP p) (tkAt M p.a)) z0=r at c ⊢
        have b1:=c.a1
        have b2:=c.a2
        have b3:=c.op
        have b4:=c.len
        have es:(shutP r.2).a=r.2.a:=rfl
        have eo:(shutP r.2).op=r.2.op - 1:=rfl
        have ee:(shutP r.2).er=r.2.er:=rfl
        have hwn:r.2.a ≤ (wantP M (shutP r.2) [41]).a ∧ (wantP M (shutP r.2) [41]).a ≤ M.length ∧ (wantP M (shutP r.2) [41]).op=r.2.op - 1 ∧ ((wantP M (shutP r.2) [41]).er=0 → r.2.er=0):=by
         unfold wantP
         split
         ·rename_i hq
          have h2:=(isP_some hq).2
          exact ⟨Nat.le_succ _,h2,rfl,id⟩
         ·obtain ⟨s1,s2,s3⟩:=stop_at M (shutP r.2) 16
          exact ⟨by omega,by omega,by omega,fun e=>absurd e (s3 (by decide))⟩
        obtain ⟨v1,v2,v3,v4⟩:=hwn
        refine ⟨by show p.a ≤ (wantP M (shutP r.2) [41]).a; omega,v2,by show (wantP M (shutP r.2) [41]).op=p.op; omega,fun e=>absurd hp0 e,by show r.1.ns.length + p.a ≤ 0 + (wantP M (shutP r.2) [41]).a + 1; omega,fun e=>?_,c.dep,c.net⟩
        have:=c.len0 (v4 e)
        show r.1.ns.length + p.a ≤ 0 + (wantP M (shutP r.2) [41]).a
        omega
       ·split
        ·rename_i hs
         have hk:(peekC M p).k ≠ 0:=by
          unfold isNameT at hs
          rw [Bool.and_eq_true,beq_iff_eq] at hs
          omega
         obtain ⟨h1,h2⟩:=peek_in hk
         exact leaf_cok (.inr rfl) (Nat.le_succ _) h2 rfl (fun e=>absurd h1 e) (fun _=>Nat.le_refl _)
        ·obtain ⟨h1,h2,h3,h4⟩:=valueC_at hpa
         exact leaf_cok (.inl rfl) h1 h2 h3 (fun e=>by rw [valueC_err e]) (fun e=>(h4 e).2)
  ·by_cases h0:firstOp M p (opsL lv)=0
   ·rw [exprC_end hj h0]
    exact ⟨Nat.le_refl _,hpa,rfl,fun _=>rfl,by show l.ns.length + p.a ≤ l.ns.length + p.a + 1; omega,fun _=>Nat.le_refl _,hd,hl⟩
   ·rw [exprC_more hj h0]
    obtain ⟨ss,hs⟩:=firstOp_some _ h0
    have hin:=(isP_some hs).2
    have her:=(isP_some hs).1
    have esk:(skipP p).a=p.a + 1:=rfl
    have eso:(skipP p).op=p.op:=rfl
    have hm1:=mu_skip hs
    have c1:=X (lv + 1) (skipP p) (hsk ss hs _) (by unfold joinL at hj; omega) (by omega) (by unfold joinL at hj ⊢; omega)
    have hop:=ops_ok hj h0
    generalize exprC M k (lv + 1) (skipP p) z0=r at c1 ⊢
    generalize hv:overL r.2 (tkAt M p.a) (firstOp M p (opsL lv)) [l,r.1]=v
    obtain ⟨o1,o2,o3,o4⟩:=over_op r.2 (tkAt M p.a) (firstOp M p (opsL lv)) [l,r.1]
    obtain ⟨n1,n2,n3⟩:=two_net (p:=r.2) (t:=tkAt M p.a) (op:=firstOp M p (opsL lv)) (by omega) hl c1.net hd c1.dep
    rw [hv] at o1 o2 o3 o4 n1 n2 n3
    have b1:=c1.a1
    have b2:=c1.a2
    have b3:=c1.op
    have b4:=c1.len
    have hmv:muP M v.2 ≤ muP M r.2:=by
     unfold muP
     by_cases e:v.2.er=0
     ·rw [if_pos e,if_pos (o3 e),o2]; exact Nat.le_refl _
     ·rw [if_neg e]; exact Nat.zero_le _
    have hmr:=c1.mu
    have c2:=J lv v.2 v.1 (by unfold needP; omega) hlv (by omega) hj n1 n2
    have d1:=c2.a1
    have d2:=c2.a2
    have d3:=c2.op
    have d4:=c2.len
    refine ⟨by omega,d2,by omega,fun e=>absurd her e,?_,fun e=>?_,c2.dep,c2.net⟩
    ·by_cases he:v.2.er=0
     ·have:=c1.len0 (o3 he)
      omega
     ·rw [(exprC_err M k lv v.2 v.1 he).2.1 hj]
      show v.1.ns.length + p.a ≤ l.ns.length + v.2.a + 1
      omega
    ·have h1:=c2.len0 e
     have h2:=c1.len0 (o3 (c2.er e))
     omega
def bareE (x:Ex):Ex:=⟨x.op,0,0,x.n,x.v,x.l,x.c⟩
def stepL (z:Int) (x:Ex) (k:Int) (st:List Int):Ex × List Int :=
 if x.op=1 ∨ x.op=17 then (x,k :: st)
 else if x.op=4 ∨ x.op=5 then (⟨x.op,st.headD z,x.b,x.n,x.v,x.l,x.c⟩,k :: st.tail)
 else (⟨x.op,st.tail.headD z,st.headD z,x.n,x.v,x.l,x.c⟩,k :: st.tail.tail)
def linkS (z:Int):List Ex → Int → List Int → List Ex × List Int
 | [],_,st=>([],st)
 | x :: r,k,st=>((stepL z x k st).1 :: (linkS z r (k + 1) (stepL z x k st).2).1,(linkS z r (k + 1) (stepL z x k st).2).2)
theorem linkS_app (z:Int):∀ (xs ys:List Ex) (k:Int) (st:List Int),linkS z (xs ++ ys) k st=((linkS z xs k st).1 ++ (linkS z ys (k + xs.length) (linkS z xs k st).2).1,(linkS z ys (k + xs.length) (linkS z xs k st).2).2)
 | [],ys,k,st=>by simp [linkS]
 | x :: r,ys,k,st=>by
  rw [List.cons_append,linkS,linkS_app z r ys (k + 1),linkS]
  rw [show k + 1 + (r.length:Int)=k + ((x :: r).length:Nat) by rw [List.length_cons]; omega]
  rfl
structure Rx (b:Nat) (out:List Ex) (l:Cx):Prop where
 lt:b < out.length
 cl:Cl b out
 ns:l.ns=(out.drop b).map bareE
 dp:l.d=depthT out ((out.length:Int) - 1)
 lk:∀ z st,linkS z l.ns b st=(out.drop b,((out.length:Int) - 1) :: st)
theorem Rx.len {b:Nat} {out:List Ex} {l:Cx} (h:Rx b out l):(l.ns.length:Int)=(out.length:Int) - b:=by
 have:=h.lt
 rw [h.ns,List.length_map,List.length_drop]
 omega
theorem Rx.ops {b:Nat} {out:List Ex} {l:Cx} (h:Rx b out l):∀ x ∈ l.ns,(x.op=1 ∨ x.op=17) ∨ (4 ≤ x.op ∧ x.op ≤ 16):=by
 intro x hx
 rw [h.ns] at hx
 obtain ⟨y,hy,rfl⟩:=List.mem_map.1 hx
 obtain ⟨n,hn⟩:=List.mem_iff_getElem?.1 hy
 rw [List.getElem?_drop] at hn
 rcases h.cl (b + n) y (by omega) hn with k | ⟨k1,k2,_⟩
 ·exact .inl k
 ·exact .inr ⟨k1,k2⟩
def SE (q p:Pl):Prop:=q.er=p.er ∧ q.line=p.line ∧ q.col=p.col
theorem SE.refl (p:Pl):SE p p:=⟨rfl,rfl,rfl⟩
structure Rel (b:Nat) (P:List Ex × Pl) (C:Cx × Pl):Prop where
 ok:P.2.er=0 → C.2=P.2 ∧ Rx b P.1 C.1
 no:P.2.er ≠ 0 → SE C.2 P.2
theorem Rel.er {b:Nat} {P:List Ex × Pl} {C:Cx × Pl} (h:Rel b P C):C.2.er=P.2.er:=by
 by_cases e:P.2.er=0
 ·rw [(h.ok e).1]
 ·exact (h.no e).1
theorem tk_at {M:List Tk} {n:Nat} (h:n < M.length):M[n]? = some (tkAt M n):=by
 unfold tkAt
 rw [List.getD,List.getElem?_eq_getElem h]
 rfl
def NumTk (M:List Tk):Prop:=∀ t ∈ M,t.k=3 → t.t ≠ [] ∧ t.t.all isD=true ∧ (t.t.head? = some 48 → t.t=[48])
theorem isP_at {M:List Tk} {p:Pl} {s:List UInt8} (h:isP M p s=true):((tkAt M p.a).k=2 ∨ (tkAt M p.a).k=5) ∧ (tkAt M p.a).t=s:=by
 have h2:=(isP_some h).2
 unfold isP at h
 rw [tk_at h2] at h
 simp only [Bool.and_eq_true,Bool.or_eq_true,beq_iff_eq] at h
 exact h.2
end Go.Proofs.YtiafhfchjhffhaaGreatDoor
