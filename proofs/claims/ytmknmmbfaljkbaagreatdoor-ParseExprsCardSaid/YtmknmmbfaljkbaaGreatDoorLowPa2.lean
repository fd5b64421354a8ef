/- paclaim: ParC ParLink ParRel -/
import Derived.Test.YtmknmmbfaljkbaaGreatDoorLowPa1
namespace Go.Proofs.YtmknmmbfaljkbaaGreatDoor
set_option linter.unusedVariables false
structure Cx where
 (ns:List Ex) (d:Nat)
def opE (t:Tk) (op:Int):Ex:=⟨op,0,0,⟨#[]⟩,v0,t.line,t.col⟩
def leafE (t:Tk) (op:Int) (s:List UInt8) (v:Vd):Ex:=⟨op,0,0,⟨s.toArray⟩,v,t.line,t.col⟩
def leafC (t:Tk) (op:Int) (s:List UInt8) (v:Vd):Cx:=⟨[leafE t op s v],1⟩
def z0:Cx:=leafC default 1 [] v0
def peekC (M:List Tk) (p:Pl):Tk:=if p.er=0 then tkAt M p.a else default
def failC (p:Pl) (t:Tk) (e:Nat):Pl:=if p.er=0 then ⟨p.a,e,t.line,t.col,p.op⟩ else p
def overL (p:Pl) (t:Tk) (op:Int) (L:List Cx):Cx × Pl :=
 (⟨(L.map Cx.ns).flatten ++ [opE t op],L.foldl (fun n c=>max n c.d) 0 + 1⟩,if 64 < L.foldl (fun n c=>max n c.d) 0 + 1 then failC p t 13 else p)
def withinC (p:Pl) (t:Tk):Pl:=if 128 < p.op + 1 then failC ⟨p.a,p.er,p.line,p.col,p.op + 1⟩ t 13 else ⟨p.a,p.er,p.line,p.col,p.op + 1⟩
def minusT (b:Bool) (t:List UInt8):List UInt8:=if b=true ∧ t ≠ [48] then 45 :: t else t
def numberC (M:List Tk) (p:Pl) (b:Bool):Vd × Pl :=
 (vInt (pn (minusT b (peekC M p).t)),if pe (minusT b (peekC M p).t)=5 then failC (skipP p) (peekC M p) 5 else skipP p)
def valueC1 (M:List Tk) (p:Pl) (b:Bool):Vd × Pl :=
 if (peekC M p).k=3 then numberC M p b
 else if b=true then (v0,stopP M p 16)
 else if (peekC M p).k=4 then (vStr (peekC M p).t,skipP p)
 else if isP M p kwTrue=true then (vBool true,skipP p)
 else if isP M p kwFalse=true then (vBool false,skipP p)
 else (v0,stopP M p 16)
def valueC (M:List Tk) (p:Pl):Vd × Pl:=if isP M p [45]=true then valueC1 M (skipP p) true else valueC1 M p false
def isNameT (t:Tk):Bool:=t.k == 1 && t.t != [95]
def unaryC (M:List Tk) (p:Pl) (r1 r2:Cx × Pl):Cx × Pl :=
 if isP M p [45]=true ∧ (tkAt M (p.a + 1)).k ≠ 3 then overL (shutP r1.2) (tkAt M p.a) 5 [r1.1]
 else if isP M p [40]=true then (r2.1,wantP M (shutP r2.2) [41])
 else if isNameT (peekC M p)=true then (leafC (peekC M p) 17 (peekC M p).t v0,skipP p)
 else (leafC (peekC M p) 1 [] (valueC M p).1,(valueC M p).2)
def cmpC (M:List Tk) (r1 r2:Cx × Pl):Cx × Pl :=
 if firstOp M r1.2 cmpS=0 then r1
 else if 100 < firstOp M r1.2 cmpS then overL r2.2 (tkAt M r1.2.a) ((firstOp M r1.2 cmpS:Int) - 100) [r2.1,r1.1]
 else overL r2.2 (tkAt M r1.2.a) (firstOp M r1.2 cmpS) [r1.1,r2.1]
def notC (M:List Tk) (p:Pl) (r1 r2:Cx × Pl):Cx × Pl :=
 if isP M p kwNot=true then overL (shutP r1.2) (tkAt M p.a) 4 [r1.1] else r2
def opsL:Nat → List (List UInt8 × Nat)
 | 1=>[(kwOr,7)] | 3=>[(kwAnd,6)] | 7=>plusS | _=>timesS
instance (lv:Nat):Decidable (joinL lv):=by unfold joinL; exact inferInstance
def exprC (M:List Tk):Nat → Nat → Pl → Cx → Cx × Pl
 | 0,_,p,l=>(l,p)
 | n + 1,lv,p,l =>
  if lv=0 ∨ lv=2 ∨ lv=6 ∨ lv=8 then exprC M n (lv + 1) (exprC M n (lv + 2) p z0).2 (exprC M n (lv + 2) p z0).1
  else if joinL lv then
   (if firstOp M p (opsL lv)=0 then (l,p)
   else exprC M n lv (overL (exprC M n (lv + 1) (skipP p) z0).2 (tkAt M p.a) (firstOp M p (opsL lv)) [l,(exprC M n (lv + 1) (skipP p) z0).1]).2 (overL (exprC M n (lv + 1) (skipP p) z0).2 (tkAt M p.a) (firstOp M p (opsL lv)) [l,(exprC M n (lv + 1) (skipP p) z0).1]).1)
  else if lv=4 then notC M p (exprC M n 4 (withinC (skipP p) (tkAt M p.a)) z0) (exprC M n 5 p z0)
  else if lv=5 then cmpC M (exprC M n 6 p z0) (exprC M n 6 (skipP (exprC M n 6 p z0).2) z0)
  else unaryC M p (exprC M n 10 (withinC (skipP p) (tkAt M p.a)) z0) (exprC M n 0 (withinC (skipP p) (tkAt M p.a)) z0)
theorem exprC_up {M:List Tk} {n lv:Nat} {p:Pl} {l:Cx} (h:lv=0 ∨ lv=2 ∨ lv=6 ∨ lv=8):exprC M (n + 1) lv p l=exprC M n (lv + 1) (exprC M n (lv + 2) p z0).2 (exprC M n (lv + 2) p z0).1:=by
 rw [exprC,if_pos h]
theorem not_up {lv:Nat} (h:joinL lv):¬ (lv=0 ∨ lv=2 ∨ lv=6 ∨ lv=8):=by unfold joinL at h; omega
theorem exprC_end {M:List Tk} {n lv:Nat} {p:Pl} {l:Cx} (h:joinL lv) (h0:firstOp M p (opsL lv)=0):exprC M (n + 1) lv p l=(l,p):=by
 rw [exprC,if_neg (not_up h),if_pos h,if_pos h0]
theorem exprC_more {M:List Tk} {n lv:Nat} {p:Pl} {l:Cx} (h:joinL lv) (h0:¬ firstOp M p (opsL lv)=0):exprC M (n + 1) lv p l=exprC M n lv (overL (exprC M n (lv + 1) (skipP p) z0).2 (tkAt M p.a) (firstOp M p (opsL lv)) [l,(exprC M n (lv + 1) (skipP p) z0).1]).2 (overL (exprC M n (lv + 1) (skipP p) z0).2 (tkAt M p.a) (firstOp M p (opsL lv)) [l,(exprC M n (lv + 1) (skipP p) z0).1]).1:=by
 rw [exprC,if_neg (not_up h),if_pos h,if_neg h0]
theorem exprC_4 (M:List Tk) (n:Nat) (p:Pl) (l:Cx):exprC M (n + 1) 4 p l=notC M p (exprC M n 4 (withinC (skipP p) (tkAt M p.a)) z0) (exprC M n 5 p z0):=rfl
theorem exprC_5 (M:List Tk) (n:Nat) (p:Pl) (l:Cx):exprC M (n + 1) 5 p l=cmpC M (exprC M n 6 p z0) (exprC M n 6 (skipP (exprC M n 6 p z0).2) z0):=rfl
theorem exprC_10 (M:List Tk) (n:Nat) (p:Pl) (l:Cx):exprC M (n + 1) 10 p l=unaryC M p (exprC M n 10 (withinC (skipP p) (tkAt M p.a)) z0) (exprC M n 0 (withinC (skipP p) (tkAt M p.a)) z0):=rfl
theorem isP_err {M:List Tk} {p:Pl} {s:List UInt8} (h:p.er ≠ 0):isP M p s=false:=by
 cases e:isP M p s with
 | false=>rfl
 | true=>exact absurd (isP_some e).1 h
theorem first_err {M:List Tk} {p:Pl} (h:p.er ≠ 0):∀ (L:List (List UInt8 × Nat)),firstOp M p L=0
 | []=>rfl
 | (s,o) :: r=>by rw [firstOp,isP_err h,if_neg (by decide)]; exact first_err h r
theorem stop_err {M:List Tk} {p:Pl} {e:Nat} (h:p.er ≠ 0):stopP M p e=p:=by unfold stopP; rw [if_neg h]
theorem fail_err {p:Pl} {t:Tk} {e:Nat} (h:p.er ≠ 0):failC p t e=p:=by unfold failC; rw [if_neg h]
theorem peek_err {M:List Tk} {p:Pl} (h:p.er ≠ 0):peekC M p=default:=by unfold peekC; rw [if_neg h]
theorem valueC_err {M:List Tk} {p:Pl} (h:p.er ≠ 0):valueC M p=(v0,p):=by
 unfold valueC valueC1
 rw [isP_err h,isP_err h,isP_err h,peek_err h,stop_err h,if_neg (by decide),if_neg (by decide),if_neg (by decide),if_neg (by decide),if_neg (by decide),if_neg (by decide)]
theorem unaryC_err {M:List Tk} {p:Pl} {r1 r2:Cx × Pl} (h:p.er ≠ 0):unaryC M p r1 r2=(leafC default 1 [] v0,p):=by
 unfold unaryC
 rw [isP_err h,isP_err h,peek_err h,valueC_err h,if_neg (fun k=>by cases k.1),if_neg (by decide),if_neg (by decide)]
theorem exprC_err (M:List Tk):∀ (n lv:Nat) (p:Pl) (l:Cx),p.er ≠ 0 → (exprC M n lv p l).2=p ∧ (joinL lv → exprC M n lv p l=(l,p)) ∧ (¬ joinL lv → l=z0 → exprC M n lv p l=(z0,p))
 | 0,_,p,l,_=>⟨rfl,fun _=>rfl,fun _ e=>by rw [e]; rfl⟩
 | n + 1,lv,p,l,h=>by
  have X:∀ lv',¬ joinL lv' → exprC M n lv' p z0=(z0,p):=fun lv' hj=>(exprC_err M n lv' p z0 h).2.2 hj rfl
  have key:(joinL lv → exprC M (n + 1) lv p l=(l,p)) ∧ (¬ joinL lv → exprC M (n + 1) lv p l=(z0,p)):=by
   refine ⟨fun hj=>exprC_end hj (first_err h _),fun hj=>?_⟩
   by_cases hu:lv=0 ∨ lv=2 ∨ lv=6 ∨ lv=8
   ·rw [exprC_up hu,X (lv + 2) (by unfold joinL; omega)]
    exact (exprC_err M n (lv + 1) p z0 h).2.1 (by unfold joinL; omega)
   ·rw [exprC,if_neg hu,if_neg hj]
    by_cases h4:lv=4
    ·rw [if_pos h4]
     unfold notC
     rw [isP_err h,if_neg (by decide)]
     exact X 5 (by unfold joinL; omega)
    ·rw [if_neg h4]
     by_cases h5:lv=5
     ·rw [if_pos h5]
      unfold cmpC
      rw [X 6 (by unfold joinL; omega),first_err h,if_pos rfl]
     ·rw [if_neg h5,unaryC_err h]
      rfl
  by_cases hj:joinL lv
  ·rw [key.1 hj]
   exact ⟨rfl,fun _=>rfl,fun k=>absurd hj k⟩
  ·rw [key.2 hj]
   exact ⟨rfl,fun k=>absurd k hj,fun _ _=>rfl⟩
theorem exprP_err (M:List Tk):∀ (n lv:Nat) (p:Pl) (out:List Ex),p.er ≠ 0 → exprP M n lv p out=(out,p)
 | 0,_,p,out,_=>rfl
 | n + 1,lv,p,out,h=>by
  have X:∀ lv',exprP M n lv' p out=(out,p):=fun lv'=>exprP_err M n lv' p out h
  have hlv:lv=0 ∨ lv=1 ∨ lv=2 ∨ lv=3 ∨ lv=4 ∨ lv=5 ∨ lv=6 ∨ lv=7 ∨ lv=8 ∨ lv=9 ∨ lv=10 ∨ 11 ≤ lv:=by omega
  rcases hlv with rfl | rfl | rfl | rfl | rfl | rfl | rfl | rfl | rfl | rfl | rfl | h11
  ·rw [exprP_0,X 2,X 1]
  ·rw [exprP_1,isP_err h,if_neg (by decide)]
  ·rw [exprP_2,X 4,X 3]
  ·rw [exprP_3,isP_err h,if_neg (by decide)]
  ·rw [exprP_4,isP_err h,if_neg (by decide),X 5]
  ·rw [exprP_5,X 6,first_err h,if_pos rfl]
  ·rw [exprP_6,X 8,X 7]
  ·rw [exprP_7,first_err h,if_pos rfl]
  ·rw [exprP_8,X 10,X 9]
  ·rw [exprP_9,first_err h,if_pos rfl]
  ·rw [exprP_10,isP_err h,if_neg (by decide),X 11]
  ·obtain ⟨d,rfl⟩:∃ d,lv=d + 11:=⟨lv - 11,by omega⟩
   rw [exprP_11,isP_err h,if_neg (by decide),if_neg (fun k=>h k.1),stop_err h]
   have hv:(valueP M p).2.2=false:=by unfold valueP; rw [if_neg h]
   rw [hv,if_neg (fun k=>by cases k.1)]
def hgt:List Ex → Nat → Option Nat
 | [],h=>some h
 | x :: r,h=>if x.op=1 ∨ x.op=17 then hgt r (h + 1) else if x.op=4 ∨ x.op=5 then (if h=0 then none else hgt r h) else (if h < 2 then none else hgt r (h - 1))
theorem hgt_app:∀ (xs ys:List Ex) (h:Nat),hgt (xs ++ ys) h=(hgt xs h).bind (hgt ys)
 | [],ys,h=>rfl
 | x :: r,ys,h=>by
  rw [List.cons_append,hgt,hgt]
  split
  ·exact hgt_app r ys _
  ·split
   ·split
    ·rfl
    ·exact hgt_app r ys _
   ·split
    ·rfl
    ·exact hgt_app r ys _
def Net (l:List Ex):Prop:=∀ h,hgt l h=some (h + 1)
theorem net_leaf {x:Ex} (hx:x.op=1 ∨ x.op=17):Net [x]:=fun h=>by rw [hgt,if_pos hx]; rfl
theorem net_one {l:List Ex} {x:Ex} (h:Net l) (hx:x.op=4 ∨ x.op=5):Net (l ++ [x]):=fun k=>by
 rw [hgt_app,h k]
 show hgt [x] (k + 1)=_
 rw [hgt,if_neg (by omega),if_pos hx,if_neg (by omega)]
 rfl
theorem net_two {l m:List Ex} {x:Ex} (h:Net l) (h2:Net m) (hx:6 ≤ x.op ∧ x.op ≤ 16):Net (l ++ m ++ [x]):=fun k=>by
 rw [hgt_app,hgt_app,h k]
 show ((hgt m (k + 1)).bind (hgt [x]))=_
 rw [h2 (k + 1)]
 show hgt [x] (k + 2)=_
 rw [hgt,if_neg (by omega),if_neg (by omega),if_neg (by omega)]
 rfl
structure Cok (M:List Tk) (b:Nat) (p:Pl) (r:Cx × Pl):Prop where
 a1:p.a ≤ r.2.a
 a2:r.2.a ≤ M.length
 op:r.2.op=p.op
 keep:p.er ≠ 0 → r.2=p
 len:r.1.ns.length + p.a ≤ b + r.2.a + 1
 len0:r.2.er=0 → r.1.ns.length + p.a ≤ b + r.2.a
 dep:r.1.d ≤ r.1.ns.length
 net:Net r.1.ns
theorem Cok.er {M:List Tk} {b:Nat} {p:Pl} {r:Cx × Pl} (h:Cok M b p r) (e:r.2.er=0):p.er=0:=by
 by_cases k:p.er=0
 ·exact k
 ·rw [h.keep k] at e; exact absurd e k
theorem Cok.mu {M:List Tk} {b:Nat} {p:Pl} {r:Cx × Pl} (h:Cok M b p r):muP M r.2 ≤ muP M p:=by
 unfold muP
 by_cases e:r.2.er=0
 ·rw [if_pos e,if_pos (h.er e)]
  have:=h.a1
  omega
 ·rw [if_neg e]; exact Nat.zero_le _
theorem over_op (p:Pl) (t:Tk) (op:Int) (L:List Cx):(overL p t op L).2.op=p.op ∧ (overL p t op L).2.a=p.a ∧ ((overL p t op L).2.er=0 → p.er=0) ∧ (p.er ≠ 0 → (overL p t op L).2=p):=by
 unfold overL
 dsimp only
 split
 ·unfold failC
  split
  ·rename_i h
   exact ⟨rfl,rfl,fun _=>h,fun k=>absurd h k⟩
  ·rename_i h
   exact ⟨rfl,rfl,fun k=>absurd k h,fun _=>rfl⟩
 ·exact ⟨rfl,rfl,id,fun _=>rfl⟩
theorem over_two (p:Pl) (t:Tk) (op:Int) (a b:Cx):(overL p t op [a,b]).1=⟨a.ns ++ b.ns ++ [opE t op],max a.d b.d + 1⟩:=by
 unfold overL
 simp
theorem over_one (p:Pl) (t:Tk) (op:Int) (a:Cx):(overL p t op [a]).1=⟨a.ns ++ [opE t op],a.d + 1⟩:=by
 unfold overL
 simp
theorem within_at (p:Pl) (t:Tk):(withinC p t).a=p.a ∧ (withinC p t).op=p.op + 1 ∧ (p.er ≠ 0 → (withinC p t).er ≠ 0) ∧ ((withinC p t).er=0 → p.er=0 ∧ p.op < 128):=by
 unfold withinC failC
 dsimp only
 split
 ·split
  ·rename_i h
   exact ⟨rfl,rfl,fun k=>absurd h k,fun k=>by cases k⟩
  ·rename_i h
   exact ⟨rfl,rfl,fun _=>h,fun k=>absurd k h⟩
 ·exact ⟨rfl,rfl,id,fun k=>⟨k,by omega⟩⟩
theorem stop_at (M:List Tk) (p:Pl) (e:Nat):(stopP M p e).a=p.a ∧ (stopP M p e).op=p.op ∧ (e ≠ 0 → (stopP M p e).er ≠ 0):=by
 refine ⟨?_,?_,fun he=>stop_no M p e he⟩
 ·unfold stopP
  split
  ·split <;> rfl
  ·rfl
 ·unfold stopP
  split
  ·split <;> rfl
  ·rfl
theorem peek_in {M:List Tk} {p:Pl} (h:(peekC M p).k ≠ 0):p.er=0 ∧ p.a < M.length:=by
 unfold peekC at h
 by_cases e:p.er=0
 ·rw [if_pos e] at h
  refine ⟨e,?_⟩
  by_cases k:p.a < M.length
  ·exact k
  ·unfold tkAt at h
   rw [List.getD,List.getElem?_eq_none (by omega)] at h
   exact absurd rfl h
 ·rw [if_neg e] at h
  exact absurd rfl h
theorem valueC_at {M:List Tk} {p:Pl} (hp:p.a ≤ M.length):p.a ≤ (valueC M p).2.a ∧ (valueC M p).2.a ≤ M.length ∧ (valueC M p).2.op=p.op ∧ ((valueC M p).2.er=0 → p.er=0 ∧ p.a + 1 ≤ (valueC M p).2.a):=by
 have key:∀ (q:Pl) (b:Bool),q.a ≤ M.length → q.a ≤ (valueC1 M q b).2.a ∧ (valueC1 M q b).2.a ≤ M.length ∧ (valueC1 M q b).2.op=q.op ∧ ((valueC1 M q b).2.er=0 → q.er=0 ∧ q.a + 1 ≤ (valueC1 M q b).2.a):=fun q b hq=>by
  have hs:∀ (h:(peekC M q).k ≠ 0),q.a ≤ (skipP q).a ∧ (skipP q).a ≤ M.length ∧ (skipP q).op=q.op ∧ ((skipP q).er=0 → q.er=0 ∧ q.a + 1 ≤ (skipP q).a):=fun h=>by
   obtain ⟨h1,h2⟩:=peek_in h
   exact ⟨Nat.le_succ _,h2,rfl,fun _=>⟨h1,Nat.le_refl _⟩⟩
  have hi:∀ s,isP M q s=true → q.a ≤ (skipP q).a ∧ (skipP q).a ≤ M.length ∧ (skipP q).op=q.op ∧ ((skipP q).er=0 → q.er=0 ∧ q.a + 1 ≤ (skipP q).a):=fun s h=>by
   obtain ⟨h1,h2⟩:=isP_some h
   exact ⟨Nat.le_succ _,h2,rfl,fun _=>⟨h1,Nat.le_refl _⟩⟩
  have ht:q.a ≤ (stopP M q 16).a ∧ (stopP M q 16).a ≤ M.length ∧ (stopP M q 16).op=q.op ∧ ((stopP M q 16).er=0 → q.er=0 ∧ q.a + 1 ≤ (stopP M q 16).a):=by
   obtain ⟨h1,h2,h3⟩:=stop_at M q 16
   exact ⟨by omega,by omega,h2,fun k=>absurd k (h3 (by decide))⟩
  unfold valueC1
  split
  ·rename_i h3
   have h4:=hs (by omega)
   unfold numberC
   dsimp only
   split
   ·unfold failC
    split
    ·exact ⟨h4.1,h4.2.1,h4.2.2.1,fun k=>by cases k⟩
    ·exact h4
   ·exact h4
  ·split
   ·exact ht
   ·split
    ·rename_i h4
     exact hs (by omega)
    ·split
     ·rename_i h5
      exact hi _ h5
     ·split
      ·rename_i h6
       exact hi _ h6
      ·exact ht
 unfold valueC
 split
 ·rename_i h
  obtain ⟨h1,h2⟩:=isP_some h
  obtain ⟨k1,k2,k3,k4⟩:=key (skipP p) true h2
  have e:(skipP p).a=p.a + 1:=rfl
  exact ⟨by omega,k2,k3,fun k=>⟨h1,by have:=(k4 k).2; omega⟩⟩
 ·exact key p false hp
theorem leaf_cok {M:List Tk} {p q:Pl} {t:Tk} {op:Int} {s:List UInt8} {v:Vd} (ho:op=1 ∨ op=17) (h1:p.a ≤ q.a) (h2:q.a ≤ M.length) (h3:q.op=p.op) (hk:p.er ≠ 0 → q=p) (h4:q.er=0 → p.a + 1 ≤ q.a):Cok M 0 p (leafC t op s v,q) :=
 ⟨h1,h2,h3,hk,by show 1 + p.a ≤ 0 + q.a + 1; omega,fun e=>by show 1 + p.a ≤ 0 + q.a; have:=h4 e; omega,Nat.le_refl _,net_leaf ho⟩
theorem one_cok {M:List Tk} {p q:Pl} {r:Cx × Pl} {t:Tk} {op:Int} (ho:op=4 ∨ op=5) (h:Cok M 0 q r) (hp:p.er=0) (hq:q.a=p.a + 1) (hop:q.op=p.op + 1):Cok M 0 p (overL (shutP r.2) t op [r.1]):=by
 obtain ⟨o1,o2,o3,o4⟩:=over_op (shutP r.2) t op [r.1]
 have e:(shutP r.2).a=r.2.a:=rfl
 have e2:(shutP r.2).op=r.2.op - 1:=rfl
 have e3:(shutP r.2).er=r.2.er:=rfl
 have a1:=h.a1
 have a2:=h.a2
 have aop:=h.op
 have al:=h.len
 refine ⟨by omega,by omega,by omega,fun k=>absurd hp k,?_,fun k=>?_,?_,?_⟩
 ·rw [over_one,o2]
  simp only [List.length_append,List.length_singleton]
  omega
 ·have:=h.len0 (o3 k)
  rw [over_one,o2]
  simp only [List.length_append,List.length_singleton]
  omega
 ·rw [over_one]
  have:=h.dep
  simp only [List.length_append,List.length_singleton]
  omega
 ·rw [over_one]
  exact net_one h.net ho
theorem two_net {a b:Cx} {t:Tk} {op:Int} {p:Pl} (ho:6 ≤ op ∧ op ≤ 16) (ha:Net a.ns) (hb:Net b.ns) (hd:a.d ≤ a.ns.length) (hd2:b.d ≤ b.ns.length):Net (overL p t op [a,b]).1.ns ∧ (overL p t op [a,b]).1.d ≤ (overL p t op [a,b]).1.ns.length ∧ (overL p t op [a,b]).1.ns.length=a.ns.length + b.ns.length + 1:=by
 rw [over_two]
 refine ⟨net_two ha hb ho,?_,?_⟩
 ·simp only [List.length_append,List.length_singleton]
  omega
 ·simp only [List.length_append,List.length_singleton]
theorem ops_ok {M:List Tk} {p:Pl} {lv:Nat} (hj:joinL lv) (h:¬ firstOp M p (opsL lv)=0):6 ≤ firstOp M p (opsL lv) ∧ firstOp M p (opsL lv) ≤ 16:=by
 have h1:=firstOp_mem (opsL lv) h
 rcases hj with rfl | rfl | rfl | rfl
 ·have h2:firstOp M p (opsL 1) ∈ [7]:=h1
  simp only [List.mem_cons,List.not_mem_nil,or_false] at h2
  omega
 ·have h2:firstOp M p (opsL 3) ∈ [6]:=h1
  simp only [List.mem_cons,List.not_mem_nil,or_false] at h2
  omega
 ·have h2:firstOp M p (opsL 7) ∈ [8,9]:=h1
  simp only [List.mem_cons,List.not_mem_nil,or_false] at h2
  omega
 ·have h2:firstOp M p (opsL 9) ∈ [10,11,12]:=h1
  simp only [List.mem_cons,List.not_mem_nil,or_false] at h2
  omega
theorem mu_within {M:List Tk} {p:Pl} {s:List UInt8} {t:Tk} (h:isP M p s=true):muP M (withinC (skipP p) t) + 1 ≤ muP M p:=by
 obtain ⟨h1,h2⟩:=isP_some h
 obtain ⟨k1,_⟩:=within_at (skipP p) t
 have e:(skipP p).a=p.a + 1:=rfl
 unfold muP
 rw [if_pos h1]
 split <;> omega
theorem expr_cok (M:List Tk):∀ (n lv:Nat) (p:Pl),needP M lv p ≤ n → lv ≤ 10 → p.a ≤ M.length → (¬ joinL lv → Cok M 0 p (exprC M n lv p z0)) ∧ (joinL lv → ∀ l:Cx,Net l.ns → l.d ≤ l.ns.length → Cok M l.ns.length p (exprC M n lv p l)):=by
 intro n
 induction n with
 | zero =>
  intro lv p hn
  have:=rank_pos lv
  unfold needP at hn
  omega
 | succ k ih =>
  intro lv p hn hlv hpa
  have e0:rankP 0=12:=rfl
  have e1:rankP 1=11:=rfl
  have e2:rankP 2=10:=rfl
  have e3:rankP 3=9:=rfl
  have e4:rankP 4=8:=rfl
  have e5:rankP 5=7:=rfl
  have e6:rankP 6=6:=rfl
  have e7:rankP 7=5:=rfl
  have e8:rankP 8=4:=rfl
  have e9:rankP 9=3:=rfl
  have e10:rankP 10=2:=rfl
  have X:∀ (lv':Nat) (p':Pl),needP M lv' p' < needP M lv p → lv' ≤ 10 → p'.a ≤ M.length → ¬ joinL lv' → Cok M 0 p' (exprC M k lv' p' z0):=fun lv' p' h h2 h3 hj=>(ih lv' p' (by omega) h2 h3).1 hj
  have J:∀ (lv':Nat) (p':Pl) (l:Cx),needP M lv' p' < needP M lv p → lv' ≤ 10 → p'.a ≤ M.length → joinL lv' → Net l.ns → l.d ≤ l.ns.length → Cok M l.ns.length p' (exprC M k lv' p' l):=fun lv' p' l h h2 h3 hj hn hd=>(ih lv' p' (by omega) h2 h3).2 hj l hn hd
  have hw:∀ s t,isP M p s=true → ∀ lv',needP M lv' (withinC (skipP p) t) < needP M lv p:=fun s t hs lv'=>by
   have:=mu_within (t:=t) hs
   have:=rank_le lv'
   unfold needP
   omega
  have hsk:∀ s,isP M p s=true → ∀ lv',needP M lv' (skipP p) < needP M lv p:=fun s hs lv'=>by
   have:=mu_skip hs
   have:=rank_le lv'
   unfold needP
   omega
  have hwa:∀ s t,isP M p s=true → (withinC (skipP p) t).a=p.a + 1 ∧ (withinC (skipP p) t).a ≤ M.length ∧ (withinC (skipP p) t).op=p.op + 1:=fun s t hs=>by
   obtain ⟨h1,h2,_⟩:=within_at (skipP p) t
   have h3:=(isP_some hs).2
   have e:(skipP p).a=p.a + 1:=rfl
   have e':(skipP p).op=p.op:=rfl
   exact ⟨by omega,by omega,by omega⟩
  refine ⟨fun hj=>?_,fun hj l hl hd=>?_⟩
  ·by_cases hu:lv=0 ∨ lv=2 ∨ lv=6 ∨ lv=8
   ·rw [exprC_up hu]
    have hr:rankP (lv + 2) < rankP lv ∧ rankP (lv + 1) < rankP lv:=by
     rcases hu with rfl | rfl | rfl | rfl <;> exact ⟨by decide,by decide⟩
    have c1:=X (lv + 2) p (by unfold needP; omega) (by omega) hpa (by unfold joinL; omega)
    have hm:=c1.mu
    have c2:=J (lv + 1) (exprC M k (lv + 2) p z0).2 (exprC M k (lv + 2) p z0).1 (by unfold needP; omega) (by omega) c1.a2 (by unfold joinL; omega) c1.net c1.dep
    refine ⟨Nat.le_trans c1.a1 c2.a1,c2.a2,c2.op.trans c1.op,fun e=>?_,?_,fun e=>?_,c2.dep,c2.net⟩
    ·rw [c2.keep (by rw [c1.keep e]; exact e),c1.keep e]
    ·have h1:=c1.len
     have h2:=c2.len
     have h3:=c1.len0
     by_cases he:(exprC M k (lv + 2) p z0).2.er=0
     ·have:=h3 he; omega
     ·have h4:=c2.keep he
      have h5:=((exprC_err M k (lv + 1) (exprC M k (lv + 2) p z0).2 (exprC M k (lv + 2) p z0).1 he).2.1 (by unfold joinL; omega))
      rw [h5]
      omega
    ·have h1:=c1.len0 (c2.er e)
     have h2:=c2.len0 e
     omega
   ·by_cases h4:lv=4
    ·subst h4
     rw [exprC_4]
     unfold notC
     split
     ·rename_i hs
      obtain ⟨w1,w2,w3⟩:=hwa kwNot (tkAt M p.a) hs
      exact one_cok (.inl rfl) (X 4 _ (hw _ _ hs 4) (by omega) w2 (by unfold joinL; omega)) (isP_some hs).1 w1 w3
     ·exact X 5 p (by unfold needP; omega) (by omega) hpa (by unfold joinL; omega)
    ·by_cases h5:lv=5
     ·subst h5
      rw [exprC_5]
      have c1:=X 6 p (by unfold needP; omega) (by omega) hpa (by unfold joinL; omega)
      have hm:=c1.mu
      unfold cmpC
      by_cases h0:firstOp M (exprC M k 6 p z0).2 cmpS=0
      ·rw [if_pos h0]
       exact c1
      ·rw [if_neg h0]
       obtain ⟨ss,hs⟩:=firstOp_some _ h0
       have hm1:=mu_skip hs
       have hin:=(isP_some hs).2
       have her:=(isP_some hs).1
       have esk:(skipP (exprC M k 6 p z0).2).a=(exprC M k 6 p z0).2.a + 1:=rfl
       have eso:(skipP (exprC M k 6 p z0).2).op=(exprC M k 6 p z0).2.op:=rfl
       have c2:=X 6 (skipP (exprC M k 6 p z0).2) (by unfold needP; omega) (by omega) (by omega) (by unfold joinL; omega)
       have hpe:=c1.er her
       have l1:=c1.len0 her
       have l2:=c2.len
       have b1:=c1.a1
       have b2:=c2.a1
       have b3:=c2.a2
       have p1:=c1.op
       have p2:=c2.op
       have ho:=cmp_op h0
       have fin:∀ (a b:Cx) (t:Tk) (op:Int),6 ≤ op ∧ op ≤ 16 → (a=(exprC M k 6 p z0).1 ∧ b=(exprC M k 6 (skipP (exprC M k 6 p z0).2) z0).1 ∨ b=(exprC M k 6 p z0).1 ∧ a=(exprC M k 6 (skipP (exprC M k 6 p z0).2) z0).1) → Cok M 0 p (overL (exprC M k 6 (skipP (exprC M k 6 p z0).2) z0).2 t op [a,b]):=fun a b t op hop hab=>by
        obtain ⟨o1,o2,o3,o4⟩:=over_op (exprC M k 6 (skipP (exprC M k 6 p z0).2) z0).2 t op [a,b]
        have hna:Net a.ns ∧ Net b.ns ∧ a.d ≤ a.ns.length ∧ b.d ≤ b.ns.length ∧ a.ns.length + b.ns.length=(exprC M k 6 p z0).1.ns.length + (exprC M k 6 (skipP (exprC M k 6 p z0).2) z0).1.ns.length:=by
         rcases hab with ⟨rfl,rfl⟩ | ⟨rfl,rfl⟩
         ·exact ⟨c1.net,c2.net,c1.dep,c2.dep,rfl⟩
         ·exact ⟨c2.net,c1.net,c2.dep,c1.dep,Nat.add_comm _ _⟩
        obtain ⟨n1,n2,n3⟩:=two_net (p:=(exprC M k 6 (skipP (exprC M k 6 p z0).2) z0).2) (t:=t) hop hna.1 hna.2.1 hna.2.2.1 hna.2.2.2.1
        refine ⟨by omega,by omega,by omega,fun e=>absurd hpe e,by omega,fun e=>?_,n2,n1⟩
        have:=c2.len0 (o3 e)
        omega
       split
       ·exact fin _ _ _ _ (by omega) (.inr ⟨rfl,rfl⟩)
       ·exact fin _ _ _ _ (by omega) (.inl ⟨rfl,rfl⟩)
     ·have h10:lv=10:=by unfold joinL at hj; omega
      subst h10
      rw [exprC_10]
      unfold unaryC
      split
      ·rename_i hs
       obtain ⟨w1,w2,w3⟩:=hwa [45] (tkAt M p.a) hs.1
       exact one_cok (.inr rfl) (X 10 _ (hw _ _ hs.1 10) (by omega) w2 (by unfold joinL; omega)) (isP_some hs.1).1 w1 w3
      ·split
       ·rename_i hs
        obtain ⟨w1,w2,w3⟩:=hwa [40] (tkAt M p.a) hs
        have c:=X 0 _ (hw _ (tkAt M p.a) hs 0) (by omega) w2 (by unfold joinL; omega)
        have hp0:=(isP_some hs).1
        generalize exprC M k 0 (withinC (skipP p) (tkAt M p.a)) z0=r at c ⊢
        have b1:=c.a1
        have b2:=c.a2
        have b3:=c.op
        have b4:=c.len
        have es:(shutP r.2).a=r.2.a:=rfl
        have eo:(shutP r.2).op=r.2.op - 1:=rfl
        have ee:(shutP r.2).er=r.2.er:=rfl
        have hwn:r.2.a ≤ (wantP M (shutP r.2) [41]).a ∧ (wantP M (shutP r.2) [41]).a ≤ M.length ∧ (wantP M (shutP r.2) [41]).op=r.2.op - 1 ∧ ((wantP M (shutP r.2) [41]).er=0 → r.2.er=0):=by
         unfold wantP
         split
         ·rename_i hq
          have h2:=(isP_some hq).2
          exact ⟨Nat.le_succ _,h2,rfl,id⟩
         ·obtain ⟨s1,s2,s3⟩:=stop_at M (shutP r.2) 16
          exact ⟨by omega,by omega,by omega,fun e=>absurd e (s3 (by decide))⟩
        obtain ⟨v1,v2,v3,v4⟩:=hwn
        refine ⟨by show p.a ≤ (wantP M (shutP r.2) [41]).a; omega,v2,by show (wantP M (shutP r.2) [41]).op=p.op; omega,fun e=>absurd hp0 e,by show r.1.ns.length + p.a ≤ 0 + (wantP M (shutP r.2) [41]).a + 1; omega,fun e=>?_,c.dep,c.net⟩
        have:=c.len0 (v4 e)
        show r.1.ns.length + p.a ≤ 0 + (wantP M (shutP r.2) [41]).a
        omega
       ·split
        ·rename_i hs
         have hk:(peekC M p).k ≠ 0:=by
          unfold isNameT at hs
          rw [Bool.and_eq_true,beq_iff_eq] at hs
          omega
         obtain ⟨h1,h2⟩:=peek_in hk
         exact leaf_cok (.inr rfl) (Nat.le_succ _) h2 rfl (fun e=>absurd h1 e) (fun _=>Nat.le_refl _)
        ·obtain ⟨h1,h2,h3,h4⟩:=valueC_at hpa
         exact leaf_cok (.inl rfl) h1 h2 h3 (fun e=>by rw [valueC_err e]) (fun e=>(h4 e).2)
  ·by_cases h0:firstOp M p (opsL lv)=0
   ·rw [exprC_end hj h0]
    exact ⟨Nat.le_refl _,hpa,rfl,fun _=>rfl,by show l.ns.length + p.a ≤ l.ns.length + p.a + 1; omega,fun _=>Nat.le_refl _,hd,hl⟩
   ·rw [exprC_more hj h0]
    obtain ⟨ss,hs⟩:=firstOp_some _ h0
    have hin:=(isP_some hs).2
    have her:=(isP_some hs).1
    have esk:(skipP p).a=p.a + 1:=rfl
    have eso:(skipP p).op=p.op:=rfl
    have hm1:=mu_skip hs
    have c1:=X (lv + 1) (skipP p) (hsk ss hs _) (by unfold joinL at hj; omega) (by omega) (by unfold joinL at hj ⊢; omega)
    have hop:=ops_ok hj h0
    generalize exprC M k (lv + 1) (skipP p) z0=r at c1 ⊢
    generalize hv:overL r.2 (tkAt M p.a) (firstOp M p (opsL lv)) [l,r.1]=v
    obtain ⟨o1,o2,o3,o4⟩:=over_op r.2 (tkAt M p.a) (firstOp M p (opsL lv)) [l,r.1]
    obtain ⟨n1,n2,n3⟩:=two_net (p:=r.2) (t:=tkAt M p.a) (op:=firstOp M p (opsL lv)) (by omega) hl c1.net hd c1.dep
    rw [hv] at o1 o2 o3 o4 n1 n2 n3
    have b1:=c1.a1
    have b2:=c1.a2
    have b3:=c1.op
    have b4:=c1.len
    have hmv:muP M v.2 ≤ muP M r.2:=by
     unfold muP
     by_cases e:v.2.er=0
     ·rw [if_pos e,if_pos (o3 e),o2]; exact Nat.le_refl _
     ·rw [if_neg e]; exact Nat.zero_le _
    have hmr:=c1.mu
    have c2:=J lv v.2 v.1 (by unfold needP; omega) hlv (by omega) hj n1 n2
    have d1:=c2.a1
    have d2:=c2.a2
    have d3:=c2.op
    have d4:=c2.len
    refine ⟨by omega,d2,by omega,fun e=>absurd her e,?_,fun e=>?_,c2.dep,c2.net⟩
    ·by_cases he:v.2.er=0
     ·have:=c1.len0 (o3 he)
      omega
     ·rw [(exprC_err M k lv v.2 v.1 he).2.1 hj]
      show v.1.ns.length + p.a ≤ l.ns.length + v.2.a + 1
      omega
    ·have h1:=c2.len0 e
     have h2:=c1.len0 (o3 (c2.er e))
     omega
def bareE (x:Ex):Ex:=⟨x.op,0,0,x.n,x.v,x.l,x.c⟩
def stepL (z:Int) (x:Ex) (k:Int) (st:List Int):Ex × List Int :=
 if x.op=1 ∨ x.op=17 then (x,k :: st)
 else if x.op=4 ∨ x.op=5 then (⟨x.op,st.headD z,x.b,x.n,x.v,x.l,x.c⟩,k :: st.tail)
 else (⟨x.op,st.tail.headD z,st.headD z,x.n,x.v,x.l,x.c⟩,k :: st.tail.tail)
def linkS (z:Int):List Ex → Int → List Int → List Ex × List Int
 | [],_,st=>([],st)
 | x :: r,k,st=>((stepL z x k st).1 :: (linkS z r (k + 1) (stepL z x k st).2).1,(linkS z r (k + 1) (stepL z x k st).2).2)
theorem linkS_app (z:Int):∀ (xs ys:List Ex) (k:Int) (st:List Int),linkS z (xs ++ ys) k st=((linkS z xs k st).1 ++ (linkS z ys (k + xs.length) (linkS z xs k st).2).1,(linkS z ys (k + xs.length) (linkS z xs k st).2).2)
 | [],ys,k,st=>by simp [linkS]
 | x :: r,ys,k,st=>by
  rw [List.cons_append,linkS,linkS_app z r ys (k + 1),linkS]
  rw [show k + 1 + (r.length:Int)=k + ((x :: r).length:Nat) by rw [List.length_cons]; omega]
  rfl
theorem headD_map (d z:Int) (st:List Int):(st.map (· + d)).headD (z + d)=st.headD z + d:=by
 cases st <;> rfl
theorem stepL_shift {z d k:Int} {x:Ex} {st:List Int} (hx:(x.op=1 ∨ x.op=17) ∨ (4 ≤ x.op ∧ x.op ≤ 16)):stepL (z + d) x (k + d) (st.map (· + d))=(movedE (stepL z x k st).1 d,(stepL z x k st).2.map (· + d)):=by
 unfold stepL
 by_cases h1:x.op=1 ∨ x.op=17
 ·rw [if_pos h1,if_pos h1]
  unfold movedE
  dsimp only
  rw [if_neg (by omega)]
  rfl
 ·have h2:4 ≤ x.op ∧ x.op ≤ 16:=hx.resolve_left h1
  rw [if_neg h1,if_neg h1]
  by_cases h4:x.op=4 ∨ x.op=5
  ·rw [if_pos h4,if_pos h4]
   unfold movedE
   dsimp only
   rw [if_pos h2,if_neg (show ¬ 5 < x.op by omega),headD_map]
   cases st <;> rfl
  ·rw [if_neg h4,if_neg h4]
   unfold movedE
   dsimp only
   rw [if_pos h2,if_pos (show 5 < x.op by omega),headD_map]
   cases st with
   | nil=>rfl
   | cons a r =>
    show (_,_)=_
    simp only [List.map_cons,List.tail_cons,List.map_tail]
    rw [headD_map]
theorem linkS_shift {z d:Int}:∀ (xs:List Ex) (k:Int) (st:List Int),(∀ x ∈ xs,(x.op=1 ∨ x.op=17) ∨ (4 ≤ x.op ∧ x.op ≤ 16)) → linkS (z + d) xs (k + d) (st.map (· + d))=((linkS z xs k st).1.map (fun x=>movedE x d),(linkS z xs k st).2.map (· + d))
 | [],k,st,_=>rfl
 | x :: r,k,st,h=>by
  rw [linkS,linkS,stepL_shift (h x (by simp)),show k + d + 1=k + 1 + d by omega]
  dsimp only
  rw [linkS_shift r (k + 1) _ (fun y hy=>h y (by simp [hy]))]
  rfl
theorem linkS_at {z d k r:Int} {xs ys:List Ex} (h:∀ z st,linkS z xs k st=(ys,r :: st)) (hx:∀ x ∈ xs,(x.op=1 ∨ x.op=17) ∨ (4 ≤ x.op ∧ x.op ≤ 16)) (st:List Int):linkS z xs (k + d) st=(ys.map (fun x=>movedE x d),(r + d) :: st):=by
 have e:=linkS_shift (z:=z - d) (d:=d) xs k (st.map (· - d)) hx
 rw [h,show z - d + d=z by omega,List.map_map] at e
 have e2:st.map ((fun x=>x + d) ∘ fun x=>x - d)=st:=by
  conv=>rhs; rw [← List.map_id st]
  exact List.map_congr_left (fun a _=>by show a - d + d=a; omega)
 rw [e2] at e
 rw [e]
 show (_,_)=_
 simp only [List.map_cons,List.map_map]
 rw [e2]
theorem depth_app (l m:List Ex) {i:Int} (h:i < l.length):depthT (l ++ m) i=depthT l i:=by
 unfold depthT
 rw [acc_app]
 have h2:=acc_pre nodeD m (accT nodeD l [])
 rw [acc_len,List.length_nil,Nat.zero_add] at h2
 rw [← h2,getS_take (by omega)]
 rw [h2]
theorem depth_eq {l:List Ex} {n:Nat} {x:Ex} (h:l[n]? = some x):depthT l n=nodeD ((accT nodeD l []).take n) x:=by
 rw [← acc_at nodeD h]
 unfold depthT getS
 rw [if_neg (by omega)]; rfl
theorem depth_leaf {l:List Ex} {n:Nat} {x:Ex} (h:l[n]? = some x) (hx:x.op=1 ∨ x.op=17):depthT l n=1:=by
 rw [depth_eq h,nodeD,if_pos hx]
theorem depth_one {l:List Ex} {n:Nat} {x:Ex} (h:l[n]? = some x) (hx:¬ (x.op=1 ∨ x.op=17)) (h5:¬ 5 < x.op) (ha:x.a < n):depthT l n=depthT l x.a + 1:=by
 rw [depth_eq h,nodeD,if_neg hx,if_neg h5,getS_take ha]
 rfl
theorem depth_two {l:List Ex} {n:Nat} {x:Ex} (h:l[n]? = some x) (hx:¬ (x.op=1 ∨ x.op=17)) (h5:5 < x.op) (ha:x.a < n) (hb:x.b < n):depthT l n=max (depthT l x.a) (depthT l x.b) + 1:=by
 rw [depth_eq h,nodeD,if_neg hx,if_pos h5,getS_take ha,getS_take hb]
 rfl
theorem depth_moved {A B v:List Ex} {P Q:List Ex} {d:Int} (hA:A=P ++ v) (hB:B=Q ++ v.map (fun x=>movedE x d)) (hd:(P.length:Int) + d=Q.length) (hc:Cl P.length A) :
  ∀ (i:Nat),i < v.length → depthT B ((Q.length + i:Nat):Int)=depthT A ((P.length + i:Nat):Int):=by
 intro i
 induction i using Nat.strongRecOn with
 | ind i ih =>
  intro hi
  obtain ⟨x,hx⟩:∃ x,v[i]? = some x:=⟨v[i],List.getElem?_eq_getElem hi⟩
  have hxA:A[P.length + i]? = some x:=by rw [hA,List.getElem?_append_right (by omega),Nat.add_sub_cancel_left]; exact hx
  have hxB:B[Q.length + i]? = some (movedE x d):=by rw [hB,List.getElem?_append_right (by omega),Nat.add_sub_cancel_left,List.getElem?_map,hx]; rfl
  have sub:∀ a:Int,(P.length:Int) ≤ a → a < (P.length + i:Nat) → depthT B (a + d)=depthT A a:=fun a h1 h2=>by
   have h3:=ih (a - P.length).toNat (by omega) (by omega)
   rw [show ((Q.length + (a - P.length).toNat:Nat):Int)=a + d by omega,show ((P.length + (a - P.length).toNat:Nat):Int)=a by omega] at h3
   exact h3
  rcases hc (P.length + i) x (by omega) hxA with h | ⟨h1,h2,h3,h4,h5⟩
  ·rw [depth_leaf hxA h,depth_leaf hxB (by rw [moved_op]; exact h)]
  ·have e:movedE x d=⟨x.op,x.a + d,if 5 < x.op then x.b + d else x.b,x.n,x.v,x.l,x.c⟩:=by
    unfold movedE
    rw [if_pos ⟨h1,h2⟩]
   rw [e] at hxB
   by_cases k5:5 < x.op
   ·have h6:=h5 k5
    rw [if_pos k5] at hxB
    rw [depth_two hxA (by omega) k5 h4 h6.2,depth_two hxB (by show ¬ (x.op=1 ∨ x.op=17); omega) k5 (by show x.a + d < _; omega) (by show x.b + d < _; omega)]
    show max (depthT B (x.a + d)) (depthT B (x.b + d)) + 1=_
    rw [sub x.a h3 h4,sub x.b h6.1 h6.2]
   ·rw [depth_one hxA (by omega) k5 h4,depth_one hxB (by show ¬ (x.op=1 ∨ x.op=17); omega) k5 (by show x.a + d < _; omega)]
    show depthT B (x.a + d) + 1=_
    rw [sub x.a h3 h4]
structure Rx (b:Nat) (out:List Ex) (l:Cx):Prop where
 lt:b < out.length
 cl:Cl b out
 ns:l.ns=(out.drop b).map bareE
 dp:l.d=depthT out ((out.length:Int) - 1)
 lk:∀ z st,linkS z l.ns b st=(out.drop b,((out.length:Int) - 1) :: st)
theorem Rx.len {b:Nat} {out:List Ex} {l:Cx} (h:Rx b out l):(l.ns.length:Int)=(out.length:Int) - b:=by
 have:=h.lt
 rw [h.ns,List.length_map,List.length_drop]
 omega
theorem Rx.ops {b:Nat} {out:List Ex} {l:Cx} (h:Rx b out l):∀ x ∈ l.ns,(x.op=1 ∨ x.op=17) ∨ (4 ≤ x.op ∧ x.op ≤ 16):=by
 intro x hx
 rw [h.ns] at hx
 obtain ⟨y,hy,rfl⟩:=List.mem_map.1 hx
 obtain ⟨n,hn⟩:=List.mem_iff_getElem?.1 hy
 rw [List.getElem?_drop] at hn
 rcases h.cl (b + n) y (by omega) hn with k | ⟨k1,k2,_⟩
 ·exact .inl k
 ·exact .inr ⟨k1,k2⟩
theorem last_of (l:List Ex) (x:Ex):(l ++ [x])[l.length]? = some x:=by simp
theorem rx_leaf (out:List Ex) {x:Ex} (hx:x.op=1 ∨ x.op=17) (ha:x.a=0) (hb:x.b=0):Rx out.length (out ++ [x]) ⟨[x],1⟩:=by
 have hbare:bareE x=x:=by
  unfold bareE
  cases x
  simp only at ha hb
  subst ha hb
  rfl
 have hl:(((out ++ [x]).length:Nat):Int) - 1=(out.length:Nat):=by simp
 refine ⟨by simp,(Cl.none out).snoc (.inl hx),?_,?_,fun z st=>?_⟩
 ·rw [List.drop_left]
  show [x]=[bareE x]
  rw [hbare]
 ·rw [hl]
  exact (depth_leaf (last_of out x) hx).symm
 ·rw [hl,List.drop_left]
  show ((stepL z x _ st).1 :: _,_)=_
  unfold stepL
  rw [if_pos hx]
  rfl
theorem rx_one {b:Nat} {out:List Ex} {l:Cx} (h:Rx b out l) {x:Ex} (hx:x.op=4 ∨ x.op=5) (ha:x.a=(out.length:Int) - 1) (hb:x.b=0):Rx b (out ++ [x]) ⟨l.ns ++ [bareE x],l.d + 1⟩:=by
 have hl:(((out ++ [x]).length:Nat):Int) - 1=(out.length:Nat):=by simp
 have hlt:=h.lt
 have hd:(out ++ [x]).drop b=out.drop b ++ [x]:=List.drop_append_of_le_length (by omega)
 refine ⟨by simp; omega,h.cl.snoc (.inr ⟨by omega,by omega,by omega,by omega,fun k=>by omega⟩),?_,?_,fun z st=>?_⟩
 ·rw [hd,List.map_append,h.ns]
  rfl
 ·rw [hl,depth_one (last_of out x) (by omega) (by omega) (by omega),ha,depth_app out [x] (by omega),← h.dp]
 ·rw [hl,hd,linkS_app,h.lk,h.len]
  show (out.drop b ++ [(stepL z (bareE x) (b + ((out.length:Int) - b)) (((out.length:Int) - 1) :: st)).1],(stepL z (bareE x) (b + ((out.length:Int) - b)) (((out.length:Int) - 1) :: st)).2)=_
  unfold stepL bareE
  dsimp only
  rw [if_neg (by omega),if_pos hx]
  dsimp only [List.headD,List.tail]
  rw [show (b:Int) + ((out.length:Int) - b)=out.length by omega]
  cases x
  simp only at ha hb
  subst ha hb
  rfl
theorem rx_two {b:Nat} {out s:List Ex} {l m:Cx} (h:Rx b out l) (k:Rx out.length (out ++ s) m) {x:Ex} (hx:6 ≤ x.op ∧ x.op ≤ 16) (ha:x.a=(out.length:Int) - 1) (hb:x.b=((out ++ s).length:Int) - 1):Rx b ((out ++ s) ++ [x]) ⟨l.ns ++ m.ns ++ [bareE x],max l.d m.d + 1⟩:=by
 have hl:((((out ++ s) ++ [x]).length:Nat):Int) - 1=((out ++ s).length:Nat):=by rw [List.length_append (bs:=[x]),List.length_singleton]; omega
 have hlt:=h.lt
 have hlt2:=k.lt
 have hls:(out ++ s).length=out.length + s.length:=List.length_append
 have hd:((out ++ s) ++ [x]).drop b=out.drop b ++ s ++ [x]:=by
  rw [List.append_assoc,List.drop_append_of_le_length (by omega),List.append_assoc]
 have hds:(out ++ s).drop out.length=s:=List.drop_left
 have hcl:Cl b (out ++ s):=h.cl.join k.cl (List.take_left) (by omega)
 refine ⟨by simp; omega,hcl.snoc (.inr ⟨by omega,by omega,by omega,by omega,fun _=>by omega⟩),?_,?_,fun z st=>?_⟩
 ·rw [hd,List.map_append,List.map_append,h.ns,k.ns,hds]
  rfl
 ·rw [hl,depth_two (last_of (out ++ s) x) (by omega) (by omega) (by omega) (by omega),ha,hb,depth_app (out ++ s) [x] (by omega),depth_app (out ++ s) [x] (by omega),depth_app out s (by omega),← h.dp,← k.dp]
 ·have e1:=h.len
  have e2:=k.len
  rw [hl,hd,linkS_app,linkS_app,h.lk,show (b:Int) + (l.ns.length:Nat)=(out.length:Nat) by omega,k.lk,hds]
  rw [show (b:Int) + ((l.ns ++ m.ns).length:Nat)=((out ++ s).length:Nat) by rw [List.length_append]; omega]
  show (out.drop b ++ s ++ [(stepL z (bareE x) _ (_ :: _ :: st)).1],(stepL z (bareE x) _ (_ :: _ :: st)).2)=_
  unfold stepL bareE
  dsimp only
  rw [if_neg (by omega),if_neg (by omega)]
  dsimp only [List.headD,List.tail]
  cases x
  simp only at ha hb
  subst ha hb
  rfl
theorem drop_three (o a b c:List Ex):(o ++ a ++ b ++ c).drop o.length=a ++ b ++ c:=by simp [List.append_assoc]
theorem rx_turn {o u v:List Ex} {l m:Cx} (h:Rx o.length (o ++ u) l) (k:Rx (o ++ u).length (o ++ u ++ v) m) {x:Ex} (hx:6 ≤ x.op ∧ x.op ≤ 16) (ha:x.a=(o.length:Int) + ((o ++ u ++ v).length:Nat) - ((o ++ u).length:Nat) - 1) (hb:x.b=((o ++ u ++ v).length:Int) - 1) :
  Rx o.length (turnedE (o ++ u ++ v) o.length (o ++ u).length ++ [x]) ⟨m.ns ++ l.ns ++ [bareE x],max m.d l.d + 1⟩:=by
 have h1:=h.lt
 have h2:=k.lt
 have l1:(o ++ u).length=o.length + u.length:=List.length_append
 have l2:(o ++ u ++ v).length=o.length + u.length + v.length:=by rw [List.length_append,l1]
 have hT:turnedE (o ++ u ++ v) o.length (o ++ u).length=o ++ v.map (fun x=>movedE x ((o.length:Int) - (o ++ u).length)) ++ u.map (fun x=>movedE x (((o ++ u ++ v).length:Int) - (o ++ u).length)):=by
  unfold turnedE
  rw [List.drop_left,show (o ++ u ++ v).take o.length=o by rw [List.append_assoc,List.take_left],show (o ++ u ++ v).drop o.length=u ++ v by rw [List.append_assoc,List.drop_left],show (o ++ u).length - o.length=u.length by omega,List.take_left]
 have hcl:=turned_cl (l:=o ++ u ++ v) (f:=o.length) (m:=(o ++ u).length) (by omega) (by omega) (by rw [List.take_left]; exact h.cl) k.cl
 have hlen:=turned_len (l:=o ++ u ++ v) (f:=o.length) (m:=(o ++ u).length) (by omega) (by omega)
 have hl:(((turnedE (o ++ u ++ v) o.length (o ++ u).length ++ [x]).length:Nat):Int) - 1=(turnedE (o ++ u ++ v) o.length (o ++ u).length).length:=by simp
 have hdu:(o ++ u).drop o.length=u:=List.drop_left
 have hdv:(o ++ u ++ v).drop (o ++ u).length=v:=List.drop_left
 have hns1:=h.ns
 have hns2:=k.ns
 rw [hdu] at hns1
 rw [hdv] at hns2
 have hQ:(o ++ v.map (fun x=>movedE x ((o.length:Int) - (o ++ u).length))).length=o.length + v.length:=by rw [List.length_append,List.length_map]
 have bm:∀ (d:Int) (L:List Ex),(L.map (fun x=>movedE x d)).map bareE=L.map bareE:=fun d L=>by
  rw [List.map_map]
  refine List.map_congr_left (fun y _=>?_)
  show bareE (movedE y d)=bareE y
  unfold movedE
  split <;> rfl
 have hd:(turnedE (o ++ u ++ v) o.length (o ++ u).length ++ [x]).drop o.length=v.map (fun x=>movedE x ((o.length:Int) - (o ++ u).length)) ++ u.map (fun x=>movedE x (((o ++ u ++ v).length:Int) - (o ++ u).length)) ++ [x]:=by
  rw [hT]
  exact drop_three _ _ _ _
 refine ⟨by rw [List.length_append,hlen,List.length_singleton]; omega,hcl.snoc (.inr ⟨by omega,by omega,by omega,by omega,fun _=>by omega⟩),?_,?_,fun z st=>?_⟩
 ·rw [hd,List.map_append,List.map_append,bm,bm,hns1,hns2]
  rfl
 ·have hdl:=h.dp
  have hdm:=k.dp
  have D1:=depth_moved (A:=o ++ u ++ v) (B:=o ++ v.map (fun x=>movedE x ((o.length:Int) - (o ++ u).length))) (v:=v) (P:=o ++ u) (Q:=o) (d:=(o.length:Int) - (o ++ u).length) rfl rfl (by omega) k.cl (v.length - 1) (by omega)
  have D2:=depth_moved (A:=o ++ u) (B:=turnedE (o ++ u ++ v) o.length (o ++ u).length) (v:=u) (P:=o) (Q:=o ++ v.map (fun x=>movedE x ((o.length:Int) - (o ++ u).length))) (d:=((o ++ u ++ v).length:Int) - (o ++ u).length) rfl hT (by omega) h.cl (u.length - 1) (by omega)
  rw [show ((o.length + (v.length - 1):Nat):Int)=(o.length:Int) + ((o ++ u ++ v).length:Nat) - ((o ++ u).length:Nat) - 1 by omega,show (((o ++ u).length + (v.length - 1):Nat):Int)=((o ++ u ++ v).length:Int) - 1 by omega,← hdm] at D1
  rw [show (((o ++ v.map (fun x=>movedE x ((o.length:Int) - (o ++ u).length))).length + (u.length - 1):Nat):Int)=((o ++ u ++ v).length:Int) - 1 by omega,show ((o.length + (u.length - 1):Nat):Int)=((o ++ u).length:Int) - 1 by omega,← hdl] at D2
  rw [hl,depth_two (last_of _ x) (by omega) (by omega) (by rw [hlen]; omega) (by rw [hlen]; omega),ha,hb,depth_app _ [x] (by rw [hlen]; omega),depth_app _ [x] (by rw [hlen]; omega),D2]
  rw [hT,depth_app (o ++ v.map (fun x=>movedE x ((o.length:Int) - (o ++ u).length))) _ (by omega),D1]
 ·have e1:=h.len
  have e2:=k.len
  have L1:=fun st=>linkS_at (z:=z) (d:=(o.length:Int) - (o ++ u).length) (fun z st=>k.lk z st) k.ops st
  have L2:=fun st=>linkS_at (z:=z) (d:=((o ++ u ++ v).length:Int) - (o ++ u).length) (fun z st=>h.lk z st) h.ops st
  rw [hdv,show (((o ++ u).length:Nat):Int) + ((o.length:Int) - ((o ++ u).length:Nat))=o.length by omega] at L1
  rw [hdu] at L2
  rw [hl,hd,linkS_app,linkS_app,L1]
  dsimp only
  rw [show (o.length:Int) + (m.ns.length:Nat)=(o.length:Int) + (((o ++ u ++ v).length:Int) - ((o ++ u).length:Nat)) by omega,L2]
  dsimp only
  rw [show (o.length:Int) + ((m.ns ++ l.ns).length:Nat)=((o ++ u ++ v).length:Nat) by rw [List.length_append]; omega,hlen]
  show (_ ++ [(stepL z (bareE x) _ (_ :: _ :: st)).1],(stepL z (bareE x) _ (_ :: _ :: st)).2)=_
  unfold stepL bareE
  dsimp only
  rw [if_neg (by omega),if_neg (by omega)]
  dsimp only [List.headD,List.tail]
  rw [show ((o ++ u ++ v).length:Int) - 1 + ((o.length:Int) - ((o ++ u).length:Nat))=x.a by omega,show ((o ++ u).length:Int) - 1 + (((o ++ u ++ v).length:Int) - ((o ++ u).length:Nat))=x.b by omega]
def SE (q p:Pl):Prop:=q.er=p.er ∧ q.line=p.line ∧ q.col=p.col
theorem SE.refl (p:Pl):SE p p:=⟨rfl,rfl,rfl⟩
structure Rel (b:Nat) (P:List Ex × Pl) (C:Cx × Pl):Prop where
 ok:P.2.er=0 → C.2=P.2 ∧ Rx b P.1 C.1
 no:P.2.er ≠ 0 → SE C.2 P.2
theorem Rel.er {b:Nat} {P:List Ex × Pl} {C:Cx × Pl} (h:Rel b P C):C.2.er=P.2.er:=by
 by_cases e:P.2.er=0
 ·rw [(h.ok e).1]
 ·exact (h.no e).1
theorem Rel.bad {b:Nat} {P:List Ex × Pl} {C:Cx × Pl} (e:P.2.er ≠ 0) (h:SE C.2 P.2):Rel b P C:=⟨fun k=>absurd k e,fun _=>h⟩
theorem rel_then {M:List Tk} {n lv b:Nat} {P:List Ex × Pl} {C:Cx × Pl} (hj:joinL lv) (h:Rel b P C) (k:P.2.er=0 → Rx b P.1 C.1 → Rel b (exprP M n lv P.2 P.1) (exprC M n lv P.2 C.1)):Rel b (exprP M n lv P.2 P.1) (exprC M n lv C.2 C.1):=by
 by_cases e:P.2.er=0
 ·obtain ⟨c,r⟩:=h.ok e
  rw [c]
  exact k e r
 ·rw [exprP_err M n lv P.2 P.1 e,(exprC_err M n lv C.2 C.1 (by rw [h.er]; exact e)).2.1 hj]
  exact .bad e (h.no e)
theorem rel_node {M:List Tk} {p:Pl} {n b:Nat} {out:List Ex} {op a c:Int} {s:List UInt8} {v:Vd} {l:Cx} (hp:p.er=0) (h:Rx b (out ++ [⟨op,a,c,⟨s.toArray⟩,v,(tkAt M n).line,(tkAt M n).col⟩]) l) :
  Rel b (nodeP M p n out op a c s v) (l,if 64 < l.d then failC p (tkAt M n) 13 else p):=by
 have hd:=h.dp
 rw [List.length_append,List.length_singleton,show ((out.length + 1:Nat):Int) - 1=out.length by omega] at hd
 unfold nodeP
 rw [if_pos hp]
 by_cases k:64 < l.d
 ·rw [if_neg (by omega),if_pos k]
  refine .bad (by show ¬ (13:Nat)=0; decide) ?_
  unfold failC
  rw [if_pos hp]
  exact ⟨rfl,rfl,rfl⟩
 ·rw [if_pos (by omega),if_neg k]
  exact ⟨fun _=>⟨rfl,h⟩,fun e=>absurd hp e⟩
theorem node_bad {M:List Tk} {p:Pl} {n:Nat} {out:List Ex} {op a c:Int} {s:List UInt8} {v:Vd} (hp:p.er ≠ 0):nodeP M p n out op a c s v=(out,p):=by
 unfold nodeP
 rw [if_neg hp]
theorem rel_leaf {M:List Tk} {p:Pl} {n:Nat} {out:List Ex} {op:Int} {s:List UInt8} {v:Vd} (ho:op=1 ∨ op=17) (hp:p.er=0):Rel out.length (nodeP M p n out op 0 0 s v) (leafC (tkAt M n) op s v,p) :=
 rel_node (l:=leafC (tkAt M n) op s v) hp (rx_leaf out ho rfl rfl)
theorem rel_one {M:List Tk} {n:Nat} {out:List Ex} {op:Int} {E:List Ex × Pl} {C:Cx × Pl} (ho:op=4 ∨ op=5) (h:Rel out.length E C):Rel out.length (nodeP M (shutP E.2) n E.1 op ((E.1.length:Int) - 1) 0 [] v0) (overL (shutP C.2) (tkAt M n) op [C.1]):=by
 by_cases e:E.2.er=0
 ·obtain ⟨c,r⟩:=h.ok e
  rw [c]
  have h2:=rel_node (M:=M) (p:=shutP E.2) (n:=n) (l:=(overL (shutP E.2) (tkAt M n) op [C.1]).1) e (by rw [over_one]; exact rx_one r (x:=⟨op,(E.1.length:Int) - 1,0,⟨([]:List UInt8).toArray⟩,v0,(tkAt M n).line,(tkAt M n).col⟩) ho rfl rfl)
  exact h2
 ·have e2:(shutP E.2).er ≠ 0:=e
  have e3:(shutP C.2).er ≠ 0:=by show C.2.er ≠ 0; rw [h.er]; exact e
  rw [node_bad e2]
  refine .bad e2 ?_
  rw [(over_op _ _ _ _).2.2.2 e3]
  exact h.no e
theorem rel_two {M:List Tk} {n b:Nat} {out:List Ex} {op:Int} {l:Cx} {E:List Ex × Pl} {C:Cx × Pl} (ho:6 ≤ op ∧ op ≤ 16) (hx:Rx b out l) (h:Rel out.length E C) (ht:E.2.er=0 → E.1.take out.length=out) :
  Rel b (nodeP M E.2 n E.1 op ((out.length:Int) - 1) ((E.1.length:Int) - 1) [] v0) (overL C.2 (tkAt M n) op [l,C.1]):=by
 by_cases e:E.2.er=0
 ·obtain ⟨c,r⟩:=h.ok e
  rw [c]
  obtain ⟨s,hs⟩:∃ s,E.1=out ++ s:=⟨E.1.drop out.length,by conv=>lhs; rw [← List.take_append_drop out.length E.1,ht e]⟩
  rw [hs] at r ⊢
  exact rel_node (M:=M) (p:=E.2) (n:=n) (l:=(overL E.2 (tkAt M n) op [l,C.1]).1) e (by rw [over_two]; exact rx_two hx r (x:=⟨op,(out.length:Int) - 1,((out ++ s).length:Int) - 1,⟨([]:List UInt8).toArray⟩,v0,(tkAt M n).line,(tkAt M n).col⟩) ho rfl rfl)
 ·have e3:C.2.er ≠ 0:=by rw [h.er]; exact e
  rw [node_bad e]
  refine .bad e ?_
  rw [(over_op _ _ _ _).2.2.2 e3]
  exact h.no e
theorem tk_at {M:List Tk} {n:Nat} (h:n < M.length):M[n]? = some (tkAt M n):=by
 unfold tkAt
 rw [List.getD,List.getElem?_eq_getElem h]
 rfl
theorem rel_open {M:List Tk} {p:Pl} {s:List UInt8} (h:isP M p s=true):openP M p=withinC (skipP p) (tkAt M p.a) ∨ ((openP M p).er ≠ 0 ∧ SE (withinC (skipP p) (tkAt M p.a)) (openP M p)):=by
 obtain ⟨h1,h2⟩:=isP_some h
 unfold openP withinC
 by_cases k:128 ≤ p.op
 ·refine .inr ⟨by rw [if_pos k]; exact stop_no M p 13 (by decide),?_⟩
  have e1:(skipP p).op=p.op:=rfl
  rw [if_pos k,if_pos (by omega)]
  unfold stopP failC
  dsimp only
  rw [if_pos h1,Nat.min_eq_left (by omega),tk_at h2,if_pos (show (skipP p).er=0 from h1)]
  exact ⟨rfl,rfl,rfl⟩
 ·refine .inl ?_
  have e1:(skipP p).op=p.op:=rfl
  rw [if_neg k,if_neg (by omega)]
  rfl
def NumTk (M:List Tk):Prop:=∀ t ∈ M,t.k=3 → t.t ≠ [] ∧ t.t.all isD=true ∧ (t.t.head? = some 48 → t.t=[48])
theorem num_pe {t:List UInt8} {b:Bool} (h:t ≠ [] ∧ t.all isD=true ∧ (t.head? = some 48 → t=[48])):(minusT b t=signed b t ∨ (t=[48] ∧ minusT b t=[48])) ∧ (pe (minusT b t)=0 ∨ pe (minusT b t)=5):=by
 obtain ⟨h1,h2,h3⟩:=h
 have hne:t.head? ≠ some 45:=fun k=>by
  cases t with
  | nil=>cases k
  | cons c r =>
   cases k
   rw [List.all_cons,Bool.and_eq_true] at h2
   exact absurd h2.1 (by decide)
 have hpe:∀ l,formB l=true → pe l=0 ∨ pe l=5:=fun l hl=>by
  unfold pe
  rw [if_pos hl]
  split
  ·exact .inl rfl
  ·exact .inr rfl
 have hf:∀ l:List UInt8,mag l=t → (t.head? = some 48 → l=[48]) → formB l=true:=fun l hm h0=>by
  unfold formB
  rw [hm]
  have:t.isEmpty=false:=by cases t with | nil=>exact absurd rfl h1 | cons c r=>rfl
  rw [this]
  by_cases k:t.head? = some 48
  ·rw [if_pos k,h0 k]; rfl
  ·rw [if_neg k,h2]; rfl
 cases b with
 | false =>
  have e:minusT false t=t:=by unfold minusT; rw [if_neg (fun k=>by cases k.1)]
  rw [e]
  refine ⟨.inl (by unfold signed; rfl),hpe _ (hf t ?_ h3)⟩
  unfold mag
  rw [if_neg hne]
 | true =>
  by_cases k:t=[48]
  ·have e:minusT true t=[48]:=by unfold minusT; rw [if_neg (fun j=>j.2 k),k]
   rw [e]
   exact ⟨.inr ⟨k,rfl⟩,hpe _ (by decide)⟩
  ·have e:minusT true t=45 :: t:=by unfold minusT; rw [if_pos ⟨rfl,k⟩]
   rw [e]
   exact ⟨.inl rfl,hpe _ (hf _ rfl (fun j=>absurd (h3 j) k))⟩
theorem pn_48:pn [48]=0:=by decide
theorem pe_48:pe [48]=0:=by decide
theorem num_rel {M:List Tk} (hM:NumTk M) {p q:Pl} {b:Bool} (hq:q.er=0) (hk:(tkAt M q.a).k=3) :
  (numP M p q b).2.2=true ∧ ((numP M p q b).2.1.er=0 → numberC M q b=((numP M p q b).1,(numP M p q b).2.1)) ∧ ((numP M p q b).2.1.er ≠ 0 → SE (numberC M q b).2 (numP M p q b).2.1):=by
 have hlt:q.a < M.length:=(peek_in (M:=M) (p:=q) (by unfold peekC; rw [if_pos hq]; omega)).2
 have hpk:peekC M q=tkAt M q.a:=by unfold peekC; rw [if_pos hq]
 have hm:tkAt M q.a ∈ M:=List.mem_of_getElem? (tk_at hlt)
 obtain ⟨k1,k2⟩:=num_pe (b:=b) (hM _ hm hk)
 unfold numP numberC
 rw [tk_at hlt,hpk]
 dsimp only
 rw [if_pos hk]
 by_cases k0:(tkAt M q.a).t=[48]
 ·rw [if_pos k0]
  have e:minusT b (tkAt M q.a).t=[48]:=by
   rw [k0]; unfold minusT; rw [if_neg (fun j=>j.2 rfl)]
  rw [e,pn_48,pe_48,if_neg (by decide)]
  exact ⟨rfl,fun _=>rfl,fun j=>absurd hq j⟩
 ·rw [if_neg k0]
  have e:minusT b (tkAt M q.a).t=signed b (tkAt M q.a).t:=k1.resolve_right (fun j=>k0 j.1)
  rw [e] at k2 ⊢
  by_cases k5:pe (signed b (tkAt M q.a).t)=0
  ·rw [if_pos k5,k5,if_neg (by decide)]
   exact ⟨rfl,fun _=>rfl,fun j=>absurd hq j⟩
  ·have k6:=k2.resolve_left k5
   rw [if_neg k5,if_pos k6]
   refine ⟨rfl,fun j=>absurd j (stop_no M q 5 (by decide)),fun _=>?_⟩
   unfold stopP failC
   rw [if_pos hq,Nat.min_eq_left (by omega),tk_at hlt,if_pos (show (skipP q).er=0 from hq)]
   exact ⟨rfl,rfl,rfl⟩
theorem isP_at {M:List Tk} {p:Pl} {s:List UInt8} (h:isP M p s=true):((tkAt M p.a).k=2 ∨ (tkAt M p.a).k=5) ∧ (tkAt M p.a).t=s:=by
 have h2:=(isP_some h).2
 unfold isP at h
 rw [tk_at h2] at h
 simp only [Bool.and_eq_true,Bool.or_eq_true,beq_iff_eq] at h
 exact h.2
theorem value_rel {M:List Tk} (hM:NumTk M) {p:Pl} (hp:p.er=0) :
  ((valueP M p).2.2=true → ((valueP M p).2.1.er=0 → valueC M p=((valueP M p).1,(valueP M p).2.1)) ∧ ((valueP M p).2.1.er ≠ 0 → SE (valueC M p).2 (valueP M p).2.1)) ∧
  ((valueP M p).2.2=false → isP M p [45]=false → (valueC M p).2=stopP M p 16):=by
 have hpk:peekC M p=tkAt M p.a:=by unfold peekC; rw [if_pos hp]
 unfold valueP
 rw [if_pos hp]
 by_cases hlt:p.a < M.length
 ·rw [tk_at hlt]
  dsimp only
  by_cases k4:(tkAt M p.a).k=4
  ·rw [if_pos k4]
   have hm:isP M p [45]=false:=by
    cases e:isP M p [45] with
    | false=>rfl
    | true=>have:=(isP_at e).1; omega
   have e:valueC M p=(vStr (tkAt M p.a).t,skipP p):=by
    unfold valueC valueC1
    rw [hm,if_neg (by decide),hpk,if_neg (by omega),if_neg (by decide),if_pos k4]
   exact ⟨fun _=>⟨fun _=>e,fun j=>absurd hp j⟩,fun j=>by cases j⟩
  ·rw [if_neg k4]
   by_cases kb:isP M p kwTrue=true ∨ isP M p kwFalse=true
   ·rw [if_pos kb]
    have hk:((tkAt M p.a).k=2 ∨ (tkAt M p.a).k=5) ∧ (tkAt M p.a).t ≠ [45]:=by
     rcases kb with k | k
     ·obtain ⟨a,b⟩:=isP_at k
      exact ⟨a,by rw [b]; decide⟩
     ·obtain ⟨a,b⟩:=isP_at k
      exact ⟨a,by rw [b]; decide⟩
    have hm:isP M p [45]=false:=by
     cases e:isP M p [45] with
     | false=>rfl
     | true=>exact absurd (isP_at e).2 hk.2
    have e:valueC M p=(vBool ((tkAt M p.a).t == kwTrue),skipP p):=by
     unfold valueC valueC1
     rw [hm,if_neg (by decide),hpk,if_neg (by omega),if_neg (by decide),if_neg k4]
     by_cases kt:isP M p kwTrue=true
     ·rw [if_pos kt,(isP_at kt).2]; rfl
     ·have kf:=kb.resolve_left kt
      rw [if_neg kt,if_pos kf,(isP_at kf).2]; rfl
    exact ⟨fun _=>⟨fun _=>e,fun j=>absurd hp j⟩,fun j=>by cases j⟩
   ·rw [if_neg kb]
    by_cases km:isP M p [45]=true
    ·rw [if_pos km]
     have hv:valueC M p=valueC1 M (skipP p) true:=by unfold valueC; rw [if_pos km]
     by_cases k3:(tkAt M (p.a + 1)).k=3
     ·have hpk2:peekC M (skipP p)=tkAt M (p.a + 1):=by unfold peekC; rw [if_pos (show (skipP p).er=0 from hp)]; rfl
      obtain ⟨n1,n2,n3⟩:=num_rel hM (p:=p) (q:=skipP p) (b:=true) hp k3
      have e2:valueC M p=numberC M (skipP p) true:=by rw [hv]; unfold valueC1; rw [hpk2,if_pos k3]
      rw [e2]
      exact ⟨fun _=>⟨n2,n3⟩,fun j=>by rw [n1] at j; cases j⟩
     ·have hn:(numP M p (skipP p) true).2.2=false:=by
       unfold numP
       show (match M[p.a + 1]? with | none=>(v0,p,false) | some u=>_).2.2=false
       by_cases hl:p.a + 1 < M.length
       ·rw [tk_at hl]
        dsimp only
        rw [if_neg k3]
       ·rw [List.getElem?_eq_none (by omega)]
      rw [hn]
      exact ⟨(fun j=>by cases j),fun _ j=>by rw [km] at j; cases j⟩
    ·rw [if_neg km]
     have hv:valueC M p=valueC1 M p false:=by unfold valueC; rw [if_neg km]
     by_cases k3:(tkAt M p.a).k=3
     ·obtain ⟨n1,n2,n3⟩:=num_rel hM (p:=p) (q:=p) (b:=false) hp k3
      have e2:valueC M p=numberC M p false:=by rw [hv]; unfold valueC1; rw [hpk,if_pos k3]
      rw [e2]
      exact ⟨fun _=>⟨n2,n3⟩,fun j=>by rw [n1] at j; cases j⟩
     ·have hn:(numP M p p false).2.2=false:=by
       unfold numP
       rw [tk_at hlt]
       dsimp only
       rw [if_neg k3]
      rw [hn]
      refine ⟨(fun j=>by cases j),fun _ _=>?_⟩
      rw [hv]
      unfold valueC1
      rw [hpk,if_neg k3,if_neg (by decide),if_neg k4,if_neg (fun j=>kb (.inl j)),if_neg (fun j=>kb (.inr j))]
 ·rw [List.getElem?_eq_none (by omega)]
  refine ⟨(fun j=>by cases j),fun _ hm=>?_⟩
  have hd:tkAt M p.a=default:=by unfold tkAt; rw [List.getD,List.getElem?_eq_none (by omega)]; rfl
  have hno:∀ s,isP M p s=false:=fun s=>by
   cases e:isP M p s with
   | false=>rfl
   | true=>exact absurd (isP_some e).2 hlt
  unfold valueC valueC1
  rw [hm,if_neg (by decide),hpk,hd,hno,hno,if_neg (by decide),if_neg (by decide),if_neg (by decide),if_neg (by decide),if_neg (by decide)]
theorem minus_value {M:List Tk} {p:Pl} (km:isP M p [45]=true):(valueP M p).2.2=decide ((tkAt M (p.a + 1)).k=3):=by
 obtain ⟨h1,h2⟩:=isP_some km
 obtain ⟨h3,h4⟩:=isP_at km
 unfold valueP
 rw [if_pos h1,tk_at h2]
 dsimp only
 have kb:¬ (isP M p kwTrue=true ∨ isP M p kwFalse=true):=fun k=>by
  rcases k with k | k
  ·have:=(isP_at k).2; rw [h4] at this; exact absurd this (by decide)
  ·have:=(isP_at k).2; rw [h4] at this; exact absurd this (by decide)
 rw [if_neg (by omega),if_neg kb,if_pos km]
 unfold numP
 show (match M[p.a + 1]? with | none=>(v0,p,false) | some u=>_).2.2=_
 by_cases hl:p.a + 1 < M.length
 ·rw [tk_at hl]
  dsimp only
  by_cases k3:(tkAt M (p.a + 1)).k=3
  ·rw [if_pos k3]
   simp only [k3,decide_true]
   split
   ·rfl
   ·split <;> rfl
  ·rw [if_neg k3]
   simp only [k3,decide_false]
 ·rw [List.getElem?_eq_none (by omega)]
  have hd:tkAt M (p.a + 1)=default:=by unfold tkAt; rw [List.getD,List.getElem?_eq_none (by omega)]; rfl
  rw [hd]
  rfl
theorem name_rel {M:List Tk} {p:Pl} (hp:p.er=0):(p.er=0 ∧ (M[p.a]?.map fun t=>t.k == 1 && t.t != [95])=some true) ↔ isNameT (peekC M p)=true:=by
 have hpk:peekC M p=tkAt M p.a:=by unfold peekC; rw [if_pos hp]
 rw [hpk]
 by_cases hl:p.a < M.length
 ·rw [tk_at hl]
  unfold isNameT
  constructor
  ·intro h
   exact Option.some.inj h.2
  ·intro h
   exact ⟨hp,congrArg some h⟩
 ·have hd:tkAt M p.a=default:=by unfold tkAt; rw [List.getD,List.getElem?_eq_none (by omega)]; rfl
  rw [hd,List.getElem?_eq_none (by omega)]
  constructor
  ·intro h
   cases h.2
  ·intro h
   cases h
theorem expr_rel (M:List Tk) (hM:NumTk M):∀ (n lv:Nat) (p:Pl) (out:List Ex),needP M lv p ≤ n → lv ≤ 10 → (¬ joinL lv → Rel out.length (exprP M n lv p out) (exprC M n lv p z0)) ∧ (joinL lv → p.er=0 → ∀ (b:Nat) (l:Cx),Rx b out l → Rel b (exprP M n lv p out) (exprC M n lv p l)):=by
 intro n
 induction n with
 | zero =>
  intro lv p out hn
  have:=rank_pos lv
  unfold needP at hn
  omega
 | succ k ih =>
  intro lv p out hn hlv
  have e0:rankP 0=12:=rfl
  have e1:rankP 1=11:=rfl
  have e2:rankP 2=10:=rfl
  have e3:rankP 3=9:=rfl
  have e4:rankP 4=8:=rfl
  have e5:rankP 5=7:=rfl
  have e6:rankP 6=6:=rfl
  have e7:rankP 7=5:=rfl
  have e8:rankP 8=4:=rfl
  have e9:rankP 9=3:=rfl
  have e10:rankP 10=2:=rfl
  have e11:rankP 11=1:=rfl
  have X:∀ (lv':Nat) (p':Pl) (o:List Ex),needP M lv' p' < needP M lv p → lv' ≤ 10 → ¬ joinL lv' → Rel o.length (exprP M k lv' p' o) (exprC M k lv' p' z0):=fun lv' p' o h h2 hj=>(ih lv' p' o (by omega) h2).1 hj
  have J:∀ (lv':Nat) (p':Pl) (o:List Ex),needP M lv' p' < needP M lv p → lv' ≤ 10 → joinL lv' → p'.er=0 → ∀ (b:Nat) (l:Cx),Rx b o l → Rel b (exprP M k lv' p' o) (exprC M k lv' p' l):=fun lv' p' o h h2 hj=>(ih lv' p' o (by omega) h2).2 hj
  have T:∀ (lv':Nat) (p':Pl) (o:List Ex),needP M lv' p' < needP M lv p → ¬ joinL lv' → (exprP M k lv' p' o).2.er=0 → Okx o p' (exprP M k lv' p' o):=fun lv' p' o h hj e=>(expr_ok M k lv' p' o (by omega) e).2 hj
  have L:∀ (lv':Nat) (p':Pl) (o:List Ex),needP M lv' p' < needP M lv p → muP M (exprP M k lv' p' o).2 ≤ muP M p':=fun lv' p' o h=>(fuel_enough M k lv' p' o (by omega)).1
  have hsk:∀ s,isP M p s=true → ∀ lv',needP M lv' (skipP p) < needP M lv p:=fun s hs lv'=>by
   have:=mu_skip hs
   have:=rank_le lv'
   unfold needP
   omega
  have hop:∀ s,isP M p s=true → ∀ lv',needP M lv' (openP M p) < needP M lv p:=fun s hs lv'=>by
   have:=mu_open hs
   have:=rank_le lv'
   unfold needP
   omega
  -- behind a token that opens something
  have hin:∀ s lv',isP M p s=true → lv' ≤ 10 → ¬ joinL lv' → Rel out.length (exprP M k lv' (openP M p) out) (exprC M k lv' (withinC (skipP p) (tkAt M p.a)) z0):=fun s lv' hs h2 hj=>by
   rcases rel_open hs with h | ⟨h,h3⟩
   ·rw [← h]
    exact X lv' _ out (hop s hs lv') h2 hj
   ·rw [exprP_err M k lv' _ out h,((exprC_err M k lv' _ z0 (by rw [h3.1]; exact h)).2.2 hj rfl)]
    exact .bad h h3
  -- a line that joins
  have up:∀ d,joinL (d + 1) → d + 2 ≤ 10 → rankP (d + 2) < rankP lv → rankP (d + 1) < rankP lv → ¬ joinL (d + 2) → Rel out.length (exprP M k (d + 1) (exprP M k (d + 2) p out).2 (exprP M k (d + 2) p out).1) (exprC M k (d + 1) (exprC M k (d + 2) p z0).2 (exprC M k (d + 2) p z0).1):=fun d hd h10 hr1 hr2 hj=>by
   refine rel_then hd (X (d + 2) p out (by unfold needP; omega) h10 hj) (fun e hx=>?_)
   have:=L (d + 2) p out (by unfold needP; omega)
   exact J (d + 1) _ _ (by unfold needP; omega) (by omega) hd e _ _ hx
  have join:∀ (b:Nat) (l:Cx) (op:Nat),joinL lv → p.er=0 → Rx b out l → ¬ joinL (lv + 1) → (∃ s,isP M p s=true) → firstOp M p (opsL lv)=op → 6 ≤ op ∧ op ≤ 16 →
    Rel b (exprP M k lv (nodeP M (exprP M k (lv + 1) (skipP p) out).2 p.a (exprP M k (lv + 1) (skipP p) out).1 op ((out.length:Int) - 1) (((exprP M k (lv + 1) (skipP p) out).1.length:Int) - 1) [] v0).2 (nodeP M (exprP M k (lv + 1) (skipP p) out).2 p.a (exprP M k (lv + 1) (skipP p) out).1 op ((out.length:Int) - 1) (((exprP M k (lv + 1) (skipP p) out).1.length:Int) - 1) [] v0).1) (exprC M (k + 1) lv p l):=fun b l op hj hp hx hj2 hs ho hr=>by
   obtain ⟨s,hs⟩:=hs
   rw [exprC_more hj (by omega),ho]
   have h1:=X (lv + 1) (skipP p) out (hsk s hs _) (by unfold joinL at hj; omega) hj2
   have h2:=rel_two (M:=M) (n:=p.a) (op:=(op:Int)) (by omega) hx h1 (fun e=>(T (lv + 1) (skipP p) out (hsk s hs _) hj2 e).2.1)
   refine rel_then hj h2 (fun e hx2=>?_)
   have m1:=L (lv + 1) (skipP p) out (hsk s hs _)
   have m2:=mu_node M (exprP M k (lv + 1) (skipP p) out).2 p.a (exprP M k (lv + 1) (skipP p) out).1 op ((out.length:Int) - 1) (((exprP M k (lv + 1) (skipP p) out).1.length:Int) - 1) [] v0
   have m3:=mu_skip hs
   exact J lv _ _ (by unfold needP; omega) hlv hj e _ _ hx2
  have hcases:lv=0 ∨ lv=1 ∨ lv=2 ∨ lv=3 ∨ lv=4 ∨ lv=5 ∨ lv=6 ∨ lv=7 ∨ lv=8 ∨ lv=9 ∨ lv=10:=by omega
  have single:∀ s o,(firstOp M p [(s,o)]=if isP M p s=true then o else 0):=fun s o=>rfl
  rcases hcases with rfl | rfl | rfl | rfl | rfl | rfl | rfl | rfl | rfl | rfl | rfl
  ·refine ⟨fun _=>?_,fun h=>absurd h (by unfold joinL; omega)⟩
   rw [exprP_0,exprC_up (.inl rfl)]
   exact up 0 (by unfold joinL; omega) (by omega) (by decide) (by decide) (by unfold joinL; omega)
  ·refine ⟨fun h=>absurd (show joinL 1 by unfold joinL; omega) h,fun hj hp b l hx=>?_⟩
   have h0:=single kwOr 7
   by_cases hs:isP M p kwOr=true
   ·rw [exprP_1,if_pos hs]
    rw [if_pos hs] at h0
    exact join b l 7 hj hp hx (by unfold joinL; omega) ⟨_,hs⟩ h0 (by omega)
   ·rw [exprP_1,if_neg hs,exprC_end hj (by rw [if_neg hs] at h0; exact h0)]
    exact ⟨fun _=>⟨rfl,hx⟩,fun e=>absurd hp e⟩
  ·refine ⟨fun _=>?_,fun h=>absurd h (by unfold joinL; omega)⟩
   rw [exprP_2,exprC_up (.inr (.inl rfl))]
   exact up 2 (by unfold joinL; omega) (by omega) (by decide) (by decide) (by unfold joinL; omega)
  ·refine ⟨fun h=>absurd (show joinL 3 by unfold joinL; omega) h,fun hj hp b l hx=>?_⟩
   have h0:=single kwAnd 6
   by_cases hs:isP M p kwAnd=true
   ·rw [exprP_3,if_pos hs]
    rw [if_pos hs] at h0
    exact join b l 6 hj hp hx (by unfold joinL; omega) ⟨_,hs⟩ h0 (by omega)
   ·rw [exprP_3,if_neg hs,exprC_end hj (by rw [if_neg hs] at h0; exact h0)]
    exact ⟨fun _=>⟨rfl,hx⟩,fun e=>absurd hp e⟩
  ·refine ⟨fun _=>?_,fun h=>absurd h (by unfold joinL; omega)⟩
   rw [exprP_4,exprC_4]
   unfold notC
   by_cases hs:isP M p kwNot=true
   ·rw [if_pos hs,if_pos hs]
    exact rel_one (.inl rfl) (hin _ 4 hs (by omega) (by unfold joinL; omega))
   ·rw [if_neg hs,if_neg hs]
    exact X 5 p out (by unfold needP; omega) (by omega) (by unfold joinL; omega)
  ·refine ⟨fun _=>?_,fun h=>absurd h (by unfold joinL; omega)⟩
   rw [exprP_5,exprC_5]
   have h1:=X 6 p out (by unfold needP; omega) (by omega) (by unfold joinL; omega)
   have m1:=L 6 p out (by unfold needP; omega)
   have t1:=T 6 p out (by unfold needP; omega) (by unfold joinL; omega)
   unfold cmpC
   by_cases e:(exprP M k 6 p out).2.er=0
   ·obtain ⟨c,r⟩:=h1.ok e
    rw [c]
    by_cases h0:firstOp M (exprP M k 6 p out).2 cmpS=0
    ·rw [if_pos h0,if_pos h0]
     exact h1
    ·rw [if_neg h0,if_neg h0]
     obtain ⟨ss,hs⟩:=firstOp_some _ h0
     have hm1:=mu_skip hs
     have h2:=X 6 (skipP (exprP M k 6 p out).2) (exprP M k 6 p out).1 (by unfold needP; omega) (by omega) (by unfold joinL; omega)
     have t2:=T 6 (skipP (exprP M k 6 p out).2) (exprP M k 6 p out).1 (by unfold needP; omega) (by unfold joinL; omega)
     have hopr:=cmp_op h0
     have hout:=(t1 e).2.1
     generalize firstOp M (exprP M k 6 p out).2 cmpS=op at hopr h0 ⊢
     generalize hE1:exprP M k 6 p out=E1 at *
     generalize hE2:exprP M k 6 (skipP E1.2) E1.1=E2 at *
     generalize exprC M k 6 p z0=C1 at *
     generalize exprC M k 6 (skipP E1.2) z0=C2 at *
     unfold cmpP
     by_cases e2:E2.2.er=0
     ·obtain ⟨c2,r2⟩:=h2.ok e2
      have hout2:=(t2 e2).2.1
      rw [if_pos e2,c2]
      by_cases hg:100 < op
      ·rw [if_pos hg,if_pos hg]
       obtain ⟨u,hu⟩:∃ u,E1.1=out ++ u:=⟨E1.1.drop out.length,by conv=>lhs; rw [← List.take_append_drop out.length E1.1,hout]⟩
       obtain ⟨v,hv⟩:∃ v,E2.1=E1.1 ++ v:=⟨E2.1.drop E1.1.length,by conv=>lhs; rw [← List.take_append_drop E1.1.length E2.1,hout2]⟩
       rw [hv] at r2 ⊢
       rw [hu] at r r2 ⊢
       refine rel_node (M:=M) (p:=E2.2) (n:=E1.2.a) (l:=(overL E2.2 (tkAt M E1.2.a) ((op:Int) - 100) [C2.1,C1.1]).1) e2 ?_
       rw [over_two]
       exact rx_turn r r2 (x:=⟨(op:Int) - 100,(out.length:Int) + ((out ++ u ++ v).length:Nat) - ((out ++ u).length:Nat) - 1,((out ++ u ++ v).length:Int) - 1,⟨([]:List UInt8).toArray⟩,v0,(tkAt M E1.2.a).line,(tkAt M E1.2.a).col⟩) (by show 6 ≤ (op:Int) - 100 ∧ (op:Int) - 100 ≤ 16; omega) rfl rfl
      ·rw [if_neg hg,if_neg hg]
       have h3:=rel_two (M:=M) (n:=E1.2.a) (op:=(op:Int)) (b:=out.length) (by omega) r h2 (fun _=>hout2)
       rw [c2] at h3
       exact h3
     ·have e3:C2.2.er ≠ 0:=by rw [h2.er]; exact e2
      rw [if_neg e2]
      refine .bad e2 ?_
      split
      ·rw [(over_op _ _ _ _).2.2.2 e3]
       exact h2.no e2
      ·rw [(over_op _ _ _ _).2.2.2 e3]
       exact h2.no e2
   ·have e':(exprC M k 6 p z0).2.er ≠ 0:=by rw [h1.er]; exact e
    rw [first_err e,first_err e',if_pos rfl,if_pos rfl]
    exact h1
  ·refine ⟨fun _=>?_,fun h=>absurd h (by unfold joinL; omega)⟩
   rw [exprP_6,exprC_up (.inr (.inr (.inl rfl)))]
   exact up 6 (by unfold joinL; omega) (by omega) (by decide) (by decide) (by unfold joinL; omega)
  ·refine ⟨fun h=>absurd (show joinL 7 by unfold joinL; omega) h,fun hj hp b l hx=>?_⟩
   by_cases hs:firstOp M p plusS=0
   ·rw [exprP_7,if_pos hs,exprC_end hj hs]
    exact ⟨fun _=>⟨rfl,hx⟩,fun e=>absurd hp e⟩
   ·rw [exprP_7,if_neg hs]
    have:=plus_op hs
    exact join b l (firstOp M p plusS) hj hp hx (by unfold joinL; omega) (firstOp_some _ hs) rfl (by omega)
  ·refine ⟨fun _=>?_,fun h=>absurd h (by unfold joinL; omega)⟩
   rw [exprP_8,exprC_up (.inr (.inr (.inr rfl)))]
   exact up 8 (by unfold joinL; omega) (by omega) (by decide) (by decide) (by unfold joinL; omega)
  ·refine ⟨fun h=>absurd (show joinL 9 by unfold joinL; omega) h,fun hj hp b l hx=>?_⟩
   by_cases hs:firstOp M p timesS=0
   ·rw [exprP_9,if_pos hs,exprC_end hj hs]
    exact ⟨fun _=>⟨rfl,hx⟩,fun e=>absurd hp e⟩
   ·rw [exprP_9,if_neg hs]
    have:=times_op hs
    exact join b l (firstOp M p timesS) hj hp hx (by unfold joinL; omega) (firstOp_some _ hs) rfl (by omega)
  ·refine ⟨fun _=>?_,fun h=>absurd h (by unfold joinL; omega)⟩
   rw [exprP_10,exprC_10]
   unfold unaryC
   by_cases hp:p.er=0
   ·have hpk:peekC M p=tkAt M p.a:=by unfold peekC; rw [if_pos hp]
    obtain ⟨V1,V2⟩:=value_rel hM hp
    by_cases km:isP M p [45]=true
    ·rw [if_pos km]
     have hmv:=minus_value km
     by_cases k3:(tkAt M (p.a + 1)).k=3
     ·have hv:(valueP M p).2.2=true:=by rw [hmv]; simp [k3]
      have h40:isP M p [40]=false:=by
       cases e:isP M p [40] with
       | false=>rfl
       | true=>have h1:=(isP_at e).2; rw [(isP_at km).2] at h1; exact absurd h1 (by decide)
      have hnm:isNameT (peekC M p)=false:=by
       rw [hpk]
       unfold isNameT
       have:=(isP_at km).1
       have h1:((tkAt M p.a).k == 1)=false:=by rw [beq_eq_false_iff_ne]; omega
       rw [h1]; rfl
      rw [if_pos hv,if_neg (fun j=>j.2 k3),h40,if_neg (by decide),hnm,if_neg (by decide),hpk]
      obtain ⟨W1,W2⟩:=V1 hv
      by_cases e:(valueP M p).2.1.er=0
      ·rw [W1 e]
       exact rel_leaf (.inl rfl) e
      ·rw [node_bad e]
       exact .bad e (W2 e)
     ·have hv:(valueP M p).2.2=false:=by rw [hmv]; simp [k3]
      rw [hv,if_neg (by decide),if_pos ⟨km,k3⟩]
      exact rel_one (.inr rfl) (hin _ 10 km (by omega) (by unfold joinL; omega))
    ·rw [if_neg km,if_neg (fun j=>km j.1)]
     have km':isP M p [45]=false:=by simpa using km
     obtain ⟨j,rfl⟩:∃ j,k=j + 1:=⟨k - 1,by unfold needP at hn; omega⟩
     rw [show (11:Nat)=0 + 11 from rfl,exprP_11]
     by_cases k40:isP M p [40]=true
     ·rw [if_pos k40,if_pos k40]
      have hf:=(fuel_enough M j 0 (openP M p) out (by have:=hop _ k40 0; unfold needP at this hn ⊢; have:=mu_open k40; omega)).2 (j + 1) (by have:=hop _ k40 0; omega)
      rw [← hf]
      have h1:=hin _ 0 k40 (by omega) (by unfold joinL; omega)
      generalize exprP M (j + 1) 0 (openP M p) out=E at h1 ⊢
      generalize exprC M (j + 1) 0 (withinC (skipP p) (tkAt M p.a)) z0=C at h1 ⊢
      have hw:∀ q:Pl,shutP (wantP M q [41])=wantP M (shutP q) [41]:=fun q=>by
       have hi:isP M (shutP q) [41]=isP M q [41]:=rfl
       unfold wantP
       rw [hi]
       split
       ·rfl
       ·unfold stopP
        by_cases eq:q.er=0
        ·rw [if_pos eq,if_pos (show (shutP q).er=0 from eq)]
         show shutP (match M[min q.a (M.length - 1)]? with | some t=>_ | none=>_)=match M[min q.a (M.length - 1)]? with | some t=>_ | none=>_
         split <;> rfl
        ·rw [if_neg eq,if_neg (show ¬ (shutP q).er=0 from eq)]
      rw [hw]
      by_cases e:E.2.er=0
      ·obtain ⟨c,r⟩:=h1.ok e
       rw [c]
       exact ⟨fun _=>⟨rfl,r⟩,fun _=>SE.refl _⟩
      ·have e':C.2.er ≠ 0:=by rw [h1.er]; exact e
       have n1:wantP M (shutP E.2) [41]=shutP E.2:=by
        unfold wantP
        rw [isP_err (show (shutP E.2).er ≠ 0 from e),if_neg (by decide),stop_err (show (shutP E.2).er ≠ 0 from e)]
       have n2:wantP M (shutP C.2) [41]=shutP C.2:=by
        unfold wantP
        rw [isP_err (show (shutP C.2).er ≠ 0 from e'),if_neg (by decide),stop_err (show (shutP C.2).er ≠ 0 from e')]
       rw [n1,n2]
       exact .bad e (h1.no e)
     ·rw [if_neg k40,if_neg k40]
      by_cases kn:isNameT (peekC M p)=true
      ·rw [if_pos ((name_rel hp).2 kn),if_pos kn,hpk]
       exact rel_leaf (.inr rfl) hp
      ·rw [if_neg (fun h=>kn ((name_rel hp).1 h)),if_neg kn]
       by_cases hv:(valueP M p).2.2=true
       ·rw [if_pos ⟨hv,km'⟩,hpk]
        obtain ⟨W1,W2⟩:=V1 hv
        by_cases e:(valueP M p).2.1.er=0
        ·rw [W1 e]
         exact rel_leaf (.inl rfl) e
        ·rw [node_bad e]
         exact .bad e (W2 e)
       ·rw [if_neg (fun h=>hv h.1)]
        have h1:=V2 (by simpa using hv) km'
        refine .bad (stop_no M p 16 (by decide)) ?_
        show SE (valueC M p).2 _
        rw [h1]
        exact SE.refl _
   ·rw [isP_err hp,isP_err hp,if_neg (by decide),if_neg (fun j=>by cases j.1),if_neg (by decide),peek_err hp,valueC_err hp,exprP_err M k 11 p out hp,if_neg (by decide)]
    exact .bad hp (SE.refl _)
end Go.Proofs.YtmknmmbfaljkbaaGreatDoor
