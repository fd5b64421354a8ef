/- paclaim: ParMath ParInv ParCl ParOk ParExpr -/
import Derived.Test.YtmknmmbfaljkbaaGreatDoorLowMath
import Derived.Test.YtmknmmbfaljkbaaGreatDoorLowVal
namespace Go.Proofs.YtmknmmbfaljkbaaGreatDoor
set_option linter.unusedVariables false
structure Pl where
 (a er line col:Nat) (op:Int)
def pl0:Pl:=⟨0,0,0,0,0⟩
def kwOr:List UInt8:=[111,114]
def kwAnd:List UInt8:=[97,110,100]
def kwNot:List UInt8:=[110,111,116]
def kwTrue:List UInt8:=[116,114,117,101]
def kwFalse:List UInt8:=[102,97,108,115,101]
def isP (M:List Tk) (p:Pl) (s:List UInt8):Bool :=
 p.er == 0 && (match M[p.a]? with | some t=>(t.k == 2 || t.k == 5) && t.t == s | none=>false)
def stopP (M:List Tk) (p:Pl) (e:Nat):Pl :=
 if p.er=0 then
  match M[min p.a (M.length - 1)]? with
  | some t=>⟨p.a,e,t.line,t.col,p.op⟩
  | none=>⟨p.a,e,1,1,p.op⟩
 else p
def skipP (p:Pl):Pl:=⟨p.a + 1,p.er,p.line,p.col,p.op⟩
def wantP (M:List Tk) (p:Pl) (s:List UInt8):Pl:=if isP M p s=true then skipP p else stopP M p 16
def openP (M:List Tk) (p:Pl):Pl:=if 128 ≤ p.op then stopP M p 13 else ⟨p.a + 1,p.er,p.line,p.col,p.op + 1⟩
def shutP (p:Pl):Pl:=⟨p.a,p.er,p.line,p.col,p.op - 1⟩
def vStr (t:List UInt8):Vd:=⟨2,0,⟨t.toArray⟩,false⟩
def vInt (n:Int):Vd:=⟨1,n,⟨#[]⟩,false⟩
def vBool (b:Bool):Vd:=⟨3,0,⟨#[]⟩,b⟩
def signed (b:Bool) (t:List UInt8):List UInt8:=(if b then [45] else []) ++ t
def numP (M:List Tk) (p q:Pl) (neg:Bool):Vd × Pl × Bool :=
 match M[q.a]? with
 | none=>(v0,p,false)
 | some u =>
  if u.k=3 then
   (if u.t=[48] then (vInt 0,skipP q,true)
   else if pe (signed neg u.t)=0 then (vInt (pn (signed neg u.t)),skipP q,true)
   else (v0,stopP M q 5,true))
  else (v0,p,false)
def valueP (M:List Tk) (p:Pl):Vd × Pl × Bool :=
 if p.er=0 then
  match M[p.a]? with
  | none=>(v0,p,false)
  | some t =>
   if t.k=4 then (vStr t.t,skipP p,true)
   else if isP M p kwTrue=true ∨ isP M p kwFalse=true then (vBool (t.t == kwTrue),skipP p,true)
   else if isP M p [45]=true then numP M p (skipP p) true
   else numP M p p false
 else (v0,p,false)
def tkAt (M:List Tk) (n:Nat):Tk:=M.getD n default
def nodeP (M:List Tk) (p:Pl) (n:Nat) (out:List Ex) (op a b:Int) (s:List UInt8) (v:Vd):List Ex × Pl :=
 if p.er=0 then
  (if depthT (out ++ [⟨op,a,b,⟨s.toArray⟩,v,(tkAt M n).line,(tkAt M n).col⟩]) (out.length:Int) ≤ 64 then (out ++ [⟨op,a,b,⟨s.toArray⟩,v,(tkAt M n).line,(tkAt M n).col⟩],p)
  else (out ++ [⟨op,a,b,⟨s.toArray⟩,v,(tkAt M n).line,(tkAt M n).col⟩],⟨p.a,13,(tkAt M n).line,(tkAt M n).col,p.op⟩))
 else (out,p)
def firstOp (M:List Tk) (p:Pl):List (List UInt8 × Nat) → Nat
 | []=>0
 | (s,o) :: r=>if isP M p s=true then o else firstOp M p r
def timesS:List (List UInt8 × Nat):=[([42],10),([47],11),([37],12)]
def plusS:List (List UInt8 × Nat):=[([43],8),([45],9)]
def cmpS:List (List UInt8 × Nat):=[([61,61],13),([33,61],14),([60],15),([60,61],16),([62],115),([62,61],116)]
def movedE (x:Ex) (by':Int):Ex :=
 if 4 ≤ x.op ∧ x.op ≤ 16 then ⟨x.op,x.a + by',if 5 < x.op then x.b + by' else x.b,x.n,x.v,x.l,x.c⟩ else x
def turnedE (out:List Ex) (f m:Nat):List Ex :=
 out.take f ++ (out.drop m).map (fun x=>movedE x ((f:Int) - m)) ++ ((out.drop f).take (m - f)).map (fun x=>movedE x ((out.length:Int) - m))
def cmpP (M:List Tk) (p1:Pl) (f m op:Nat) (r:List Ex × Pl):List Ex × Pl :=
 if r.2.er=0 then
  (if 100 < op then nodeP M r.2 p1.a (turnedE r.1 f m) ((op:Int) - 100) ((f:Int) + r.1.length - m - 1) ((r.1.length:Int) - 1) [] v0
  else nodeP M r.2 p1.a r.1 op ((m:Int) - 1) ((r.1.length:Int) - 1) [] v0)
 else r
def exprP (M:List Tk):Nat → Nat → Pl → List Ex → List Ex × Pl
 | 0,_,p,out=>(out,p)
 | n + 1,0,p,out=>exprP M n 1 (exprP M n 2 p out).2 (exprP M n 2 p out).1
 | n + 1,1,p,out =>
  if isP M p kwOr=true then
   exprP M n 1 (nodeP M (exprP M n 2 (skipP p) out).2 p.a (exprP M n 2 (skipP p) out).1 7 ((out.length:Int) - 1) (((exprP M n 2 (skipP p) out).1.length:Int) - 1) [] v0).2 (nodeP M (exprP M n 2 (skipP p) out).2 p.a (exprP M n 2 (skipP p) out).1 7 ((out.length:Int) - 1) (((exprP M n 2 (skipP p) out).1.length:Int) - 1) [] v0).1
  else (out,p)
 | n + 1,2,p,out=>exprP M n 3 (exprP M n 4 p out).2 (exprP M n 4 p out).1
 | n + 1,3,p,out =>
  if isP M p kwAnd=true then
   exprP M n 3 (nodeP M (exprP M n 4 (skipP p) out).2 p.a (exprP M n 4 (skipP p) out).1 6 ((out.length:Int) - 1) (((exprP M n 4 (skipP p) out).1.length:Int) - 1) [] v0).2 (nodeP M (exprP M n 4 (skipP p) out).2 p.a (exprP M n 4 (skipP p) out).1 6 ((out.length:Int) - 1) (((exprP M n 4 (skipP p) out).1.length:Int) - 1) [] v0).1
  else (out,p)
 | n + 1,4,p,out =>
  if isP M p kwNot=true then nodeP M (shutP (exprP M n 4 (openP M p) out).2) p.a (exprP M n 4 (openP M p) out).1 4 (((exprP M n 4 (openP M p) out).1.length:Int) - 1) 0 [] v0
  else exprP M n 5 p out
 | n + 1,5,p,out =>
  if firstOp M (exprP M n 6 p out).2 cmpS=0 then exprP M n 6 p out
  else cmpP M (exprP M n 6 p out).2 out.length (exprP M n 6 p out).1.length (firstOp M (exprP M n 6 p out).2 cmpS) (exprP M n 6 (skipP (exprP M n 6 p out).2) (exprP M n 6 p out).1)
 | n + 1,6,p,out=>exprP M n 7 (exprP M n 8 p out).2 (exprP M n 8 p out).1
 | n + 1,7,p,out =>
  if firstOp M p plusS=0 then (out,p)
  else exprP M n 7 (nodeP M (exprP M n 8 (skipP p) out).2 p.a (exprP M n 8 (skipP p) out).1 (firstOp M p plusS) ((out.length:Int) - 1) (((exprP M n 8 (skipP p) out).1.length:Int) - 1) [] v0).2 (nodeP M (exprP M n 8 (skipP p) out).2 p.a (exprP M n 8 (skipP p) out).1 (firstOp M p plusS) ((out.length:Int) - 1) (((exprP M n 8 (skipP p) out).1.length:Int) - 1) [] v0).1
 | n + 1,8,p,out=>exprP M n 9 (exprP M n 10 p out).2 (exprP M n 10 p out).1
 | n + 1,9,p,out =>
  if firstOp M p timesS=0 then (out,p)
  else exprP M n 9 (nodeP M (exprP M n 10 (skipP p) out).2 p.a (exprP M n 10 (skipP p) out).1 (firstOp M p timesS) ((out.length:Int) - 1) (((exprP M n 10 (skipP p) out).1.length:Int) - 1) [] v0).2 (nodeP M (exprP M n 10 (skipP p) out).2 p.a (exprP M n 10 (skipP p) out).1 (firstOp M p timesS) ((out.length:Int) - 1) (((exprP M n 10 (skipP p) out).1.length:Int) - 1) [] v0).1
 | n + 1,10,p,out =>
  if isP M p [45]=true then
   (if (valueP M p).2.2=true then nodeP M (valueP M p).2.1 p.a out 1 0 0 [] (valueP M p).1
   else nodeP M (shutP (exprP M n 10 (openP M p) out).2) p.a (exprP M n 10 (openP M p) out).1 5 (((exprP M n 10 (openP M p) out).1.length:Int) - 1) 0 [] v0)
  else exprP M n 11 p out
 | n + 1,_,p,out =>
  if isP M p [40]=true then ((exprP M n 0 (openP M p) out).1,shutP (wantP M (exprP M n 0 (openP M p) out).2 [41]))
  else if p.er=0 ∧ (M[p.a]?.map fun t=>t.k == 1 && t.t != [95])=some true then nodeP M (skipP p) p.a out 17 0 0 (tkAt M p.a).t v0
  else if (valueP M p).2.2=true ∧ isP M p [45]=false then nodeP M (valueP M p).2.1 p.a out 1 0 0 [] (valueP M p).1
  else (out,stopP M p 16)
def muP (M:List Tk) (p:Pl):Nat:=if p.er=0 then M.length - p.a else 0
theorem isP_some {M:List Tk} {p:Pl} {s:List UInt8} (h:isP M p s=true):p.er=0 ∧ p.a < M.length:=by
 unfold isP at h
 rw [Bool.and_eq_true,beq_iff_eq] at h
 refine ⟨h.1,?_⟩
 cases e:M[p.a]? with
 | none=>rw [e] at h; cases h.2
 | some t=>exact (List.getElem?_eq_some_iff.1 e).1
theorem mu_skip {M:List Tk} {p:Pl} {s:List UInt8} (h:isP M p s=true):muP M (skipP p) + 1 ≤ muP M p:=by
 obtain ⟨h1,h2⟩:=isP_some h
 unfold muP skipP
 rw [if_pos h1,if_pos h1]
 show M.length - (p.a + 1) + 1 ≤ _
 omega
theorem mu_stop (M:List Tk) (p:Pl) (e:Nat) (he:e ≠ 0):muP M (stopP M p e)=0:=by
 unfold stopP
 split
 ·split <;> (unfold muP; rw [if_neg he])
 ·rename_i h
  unfold muP
  rw [if_neg h]
theorem mu_open {M:List Tk} {p:Pl} {s:List UInt8} (h:isP M p s=true):muP M (openP M p) + 1 ≤ muP M p:=by
 obtain ⟨h1,h2⟩:=isP_some h
 unfold openP
 split
 ·rw [mu_stop M p 13 (by decide)]
  unfold muP
  rw [if_pos h1]
  omega
 ·unfold muP
  rw [if_pos h1,if_pos h1]
  show M.length - (p.a + 1) + 1 ≤ _
  omega
theorem mu_shut (M:List Tk) (p:Pl):muP M (shutP p)=muP M p:=rfl
theorem mu_skip_le (M:List Tk) (p:Pl):muP M (skipP p) ≤ muP M p:=by
 unfold muP skipP
 by_cases h:p.er=0
 ·rw [if_pos h,if_pos h]
  show M.length - (p.a + 1) ≤ _
  omega
 ·rw [if_neg h,if_neg h]
  exact Nat.le_refl _
theorem mu_want (M:List Tk) (p:Pl) (s:List UInt8):muP M (wantP M p s) ≤ muP M p:=by
 unfold wantP
 split
 ·exact mu_skip_le M p
 ·rw [mu_stop M p 16 (by decide)]; exact Nat.zero_le _
theorem mu_node (M:List Tk) (p:Pl) (n:Nat) (out:List Ex) (op a b:Int) (s:List UInt8) (v:Vd):muP M (nodeP M p n out op a b s v).2 ≤ muP M p:=by
 unfold nodeP
 split
 ·split
  ·exact Nat.le_refl _
  ·unfold muP
   rw [if_neg (show ¬ (13:Nat)=0 by decide)]
   exact Nat.zero_le _
 ·exact Nat.le_refl _
theorem mu_num (M:List Tk) (p q:Pl) (b:Bool) (h:muP M q ≤ muP M p):muP M (numP M p q b).2.1 ≤ muP M p:=by
 unfold numP
 split
 ·exact Nat.le_refl _
 ·split
  ·split
   ·exact Nat.le_trans (mu_skip_le M q) h
   ·split
    ·exact Nat.le_trans (mu_skip_le M q) h
    ·show muP M (stopP M q 5) ≤ _
     rw [mu_stop M q 5 (by decide)]; exact Nat.zero_le _
  ·exact Nat.le_refl _
theorem mu_value (M:List Tk) (p:Pl):muP M (valueP M p).2.1 ≤ muP M p:=by
 unfold valueP
 split
 ·split
  ·exact Nat.le_refl _
  ·split
   ·exact mu_skip_le M p
   ·split
    ·exact mu_skip_le M p
    ·split
     ·exact mu_num M p _ _ (mu_skip_le M p)
     ·exact mu_num M p p _ (Nat.le_refl _)
 ·exact Nat.le_refl _
theorem firstOp_some {M:List Tk} {p:Pl}:∀ (L:List (List UInt8 × Nat)),firstOp M p L ≠ 0 → ∃ s,isP M p s=true
 | [],h=>absurd rfl h
 | (s,o) :: r,h=>by
  unfold firstOp at h
  by_cases k:isP M p s=true
  ·exact ⟨s,k⟩
  ·rw [if_neg k] at h
   exact firstOp_some r h
theorem mu_cmp (M:List Tk) (p1:Pl) (f m op:Nat) (r:List Ex × Pl):muP M (cmpP M p1 f m op r).2 ≤ muP M r.2:=by
 unfold cmpP
 split
 ·split <;> exact mu_node M _ _ _ _ _ _ _ _
 ·exact Nat.le_refl _
def rankP:Nat → Nat
 | 0=>12 | 1=>11 | 2=>10 | 3=>9 | 4=>8 | 5=>7 | 6=>6 | 7=>5 | 8=>4 | 9=>3 | 10=>2 | _=>1
def needP (M:List Tk) (lv:Nat) (p:Pl):Nat:=13 * muP M p + rankP lv
theorem rank_le (lv:Nat):rankP lv ≤ 12:=by
 unfold rankP
 split <;> omega
theorem rank_pos (lv:Nat):1 ≤ rankP lv:=by
 unfold rankP
 split <;> omega
theorem fuel_enough (M:List Tk):∀ (n lv:Nat) (p:Pl) (out:List Ex),needP M lv p ≤ n → muP M (exprP M n lv p out).2 ≤ muP M p ∧ ∀ m,needP M lv p ≤ m → exprP M m lv p out=exprP M n lv p out:=by
 intro n
 induction n using Nat.strongRecOn with
 | ind n ih =>
  intro lv p out hn
  have h1:=rank_pos lv
  obtain ⟨k,rfl⟩:∃ k,n=k + 1:=⟨n - 1,by unfold needP at hn; omega⟩
  -- what a smaller need gives
  have H:∀ (lv':Nat) (p':Pl) (o:List Ex),needP M lv' p' < needP M lv p → muP M (exprP M k lv' p' o).2 ≤ muP M p' ∧ ∀ m,needP M lv p ≤ m + 1 → exprP M m lv' p' o=exprP M k lv' p' o:=fun lv' p' o hlt=>by
   obtain ⟨a,b⟩:=ih k (by omega) lv' p' o (by omega)
   exact ⟨a,fun m hm=>b m (by omega)⟩
  have hsk:∀ s,isP M p s=true → ∀ lv',needP M lv' (skipP p) < needP M lv p:=fun s hs lv'=>by
   have:=mu_skip hs
   have:=rank_le lv'
   unfold needP
   omega
  have hop:∀ s,isP M p s=true → ∀ lv',needP M lv' (openP M p) < needP M lv p:=fun s hs lv'=>by
   have:=mu_open hs
   have:=rank_le lv'
   unfold needP
   omega
  have e0:rankP 0=12:=rfl
  have e1:rankP 1=11:=rfl
  have e2:rankP 2=10:=rfl
  have e3:rankP 3=9:=rfl
  have e4:rankP 4=8:=rfl
  have e5:rankP 5=7:=rfl
  have e6:rankP 6=6:=rfl
  have e7:rankP 7=5:=rfl
  have e8:rankP 8=4:=rfl
  have e9:rankP 9=3:=rfl
  have e10:rankP 10=2:=rfl
  have e11:rankP 11=1:=rfl
  have hlv:lv=0 ∨ lv=1 ∨ lv=2 ∨ lv=3 ∨ lv=4 ∨ lv=5 ∨ lv=6 ∨ lv=7 ∨ lv=8 ∨ lv=9 ∨ lv=10 ∨ 11 ≤ lv:=by omega
  rcases hlv with rfl | rfl | rfl | rfl | rfl | rfl | rfl | rfl | rfl | rfl | rfl | h11
  ·obtain ⟨a1,b1⟩:=H 2 p out (by unfold needP; omega)
   obtain ⟨a2,b2⟩:=H 1 (exprP M k 2 p out).2 (exprP M k 2 p out).1 (by unfold needP; omega)
   refine ⟨Nat.le_trans a2 a1,fun m hm=>?_⟩
   obtain ⟨j,rfl⟩:∃ j,m=j + 1:=⟨m - 1,by unfold needP at hm; omega⟩
   show exprP M j 1 (exprP M j 2 p out).2 (exprP M j 2 p out).1=exprP M k 1 (exprP M k 2 p out).2 (exprP M k 2 p out).1
   rw [b1 j hm,b2 j hm]
  ·by_cases h:isP M p kwOr=true
   ·obtain ⟨ss,hs⟩:∃ ss,isP M p ss=true:=⟨_,h⟩
    obtain ⟨a1,b1⟩:=H 2 (skipP p) out (hsk ss hs 2)
    have hm1:=mu_skip hs
    have hm2:=mu_node M (exprP M k 2 (skipP p) out).2 p.a (exprP M k 2 (skipP p) out).1 7 ((out.length:Int) - 1) (((exprP M k 2 (skipP p) out).1.length:Int) - 1) [] v0
    obtain ⟨a2,b2⟩:=H 1 (nodeP M (exprP M k 2 (skipP p) out).2 p.a (exprP M k 2 (skipP p) out).1 7 ((out.length:Int) - 1) (((exprP M k 2 (skipP p) out).1.length:Int) - 1) [] v0).2 (nodeP M (exprP M k 2 (skipP p) out).2 p.a (exprP M k 2 (skipP p) out).1 7 ((out.length:Int) - 1) (((exprP M k 2 (skipP p) out).1.length:Int) - 1) [] v0).1 (by unfold needP; omega)
    refine ⟨?_,fun m hm=>?_⟩
    ·show muP M (if isP M p kwOr=true then exprP M k 1 (nodeP M (exprP M k 2 (skipP p) out).2 p.a (exprP M k 2 (skipP p) out).1 7 ((out.length:Int) - 1) (((exprP M k 2 (skipP p) out).1.length:Int) - 1) [] v0).2 (nodeP M (exprP M k 2 (skipP p) out).2 p.a (exprP M k 2 (skipP p) out).1 7 ((out.length:Int) - 1) (((exprP M k 2 (skipP p) out).1.length:Int) - 1) [] v0).1 else (out,p)).2 ≤ _
     rw [if_pos h]
     omega
    ·obtain ⟨j,rfl⟩:∃ j,m=j + 1:=⟨m - 1,by unfold needP at hm; omega⟩
     show (if isP M p kwOr=true then exprP M j 1 (nodeP M (exprP M j 2 (skipP p) out).2 p.a (exprP M j 2 (skipP p) out).1 7 ((out.length:Int) - 1) (((exprP M j 2 (skipP p) out).1.length:Int) - 1) [] v0).2 (nodeP M (exprP M j 2 (skipP p) out).2 p.a (exprP M j 2 (skipP p) out).1 7 ((out.length:Int) - 1) (((exprP M j 2 (skipP p) out).1.length:Int) - 1) [] v0).1 else (out,p))=(if isP M p kwOr=true then exprP M k 1 (nodeP M (exprP M k 2 (skipP p) out).2 p.a (exprP M k 2 (skipP p) out).1 7 ((out.length:Int) - 1) (((exprP M k 2 (skipP p) out).1.length:Int) - 1) [] v0).2 (nodeP M (exprP M k 2 (skipP p) out).2 p.a (exprP M k 2 (skipP p) out).1 7 ((out.length:Int) - 1) (((exprP M k 2 (skipP p) out).1.length:Int) - 1) [] v0).1 else (out,p))
     rw [if_pos h,if_pos h,b1 j hm,b2 j hm]
   ·refine ⟨?_,fun m hm=>?_⟩
    ·show muP M (if isP M p kwOr=true then exprP M k 1 (nodeP M (exprP M k 2 (skipP p) out).2 p.a (exprP M k 2 (skipP p) out).1 7 ((out.length:Int) - 1) (((exprP M k 2 (skipP p) out).1.length:Int) - 1) [] v0).2 (nodeP M (exprP M k 2 (skipP p) out).2 p.a (exprP M k 2 (skipP p) out).1 7 ((out.length:Int) - 1) (((exprP M k 2 (skipP p) out).1.length:Int) - 1) [] v0).1 else (out,p)).2 ≤ _
     rw [if_neg h]
     exact Nat.le_refl _
    ·obtain ⟨j,rfl⟩:∃ j,m=j + 1:=⟨m - 1,by unfold needP at hm; omega⟩
     show (if isP M p kwOr=true then exprP M j 1 (nodeP M (exprP M j 2 (skipP p) out).2 p.a (exprP M j 2 (skipP p) out).1 7 ((out.length:Int) - 1) (((exprP M j 2 (skipP p) out).1.length:Int) - 1) [] v0).2 (nodeP M (exprP M j 2 (skipP p) out).2 p.a (exprP M j 2 (skipP p) out).1 7 ((out.length:Int) - 1) (((exprP M j 2 (skipP p) out).1.length:Int) - 1) [] v0).1 else (out,p))=(if isP M p kwOr=true then exprP M k 1 (nodeP M (exprP M k 2 (skipP p) out).2 p.a (exprP M k 2 (skipP p) out).1 7 ((out.length:Int) - 1) (((exprP M k 2 (skipP p) out).1.length:Int) - 1) [] v0).2 (nodeP M (exprP M k 2 (skipP p) out).2 p.a (exprP M k 2 (skipP p) out).1 7 ((out.length:Int) - 1) (((exprP M k 2 (skipP p) out).1.length:Int) - 1) [] v0).1 else (out,p))
     rw [if_neg h,if_neg h]
  ·obtain ⟨a1,b1⟩:=H 4 p out (by unfold needP; omega)
   obtain ⟨a2,b2⟩:=H 3 (exprP M k 4 p out).2 (exprP M k 4 p out).1 (by unfold needP; omega)
   refine ⟨Nat.le_trans a2 a1,fun m hm=>?_⟩
   obtain ⟨j,rfl⟩:∃ j,m=j + 1:=⟨m - 1,by unfold needP at hm; omega⟩
   show exprP M j 3 (exprP M j 4 p out).2 (exprP M j 4 p out).1=exprP M k 3 (exprP M k 4 p out).2 (exprP M k 4 p out).1
   rw [b1 j hm,b2 j hm]
  ·by_cases h:isP M p kwAnd=true
   ·obtain ⟨ss,hs⟩:∃ ss,isP M p ss=true:=⟨_,h⟩
    obtain ⟨a1,b1⟩:=H 4 (skipP p) out (hsk ss hs 4)
    have hm1:=mu_skip hs
    have hm2:=mu_node M (exprP M k 4 (skipP p) out).2 p.a (exprP M k 4 (skipP p) out).1 6 ((out.length:Int) - 1) (((exprP M k 4 (skipP p) out).1.length:Int) - 1) [] v0
    obtain ⟨a2,b2⟩:=H 3 (nodeP M (exprP M k 4 (skipP p) out).2 p.a (exprP M k 4 (skipP p) out).1 6 ((out.length:Int) - 1) (((exprP M k 4 (skipP p) out).1.length:Int) - 1) [] v0).2 (nodeP M (exprP M k 4 (skipP p) out).2 p.a (exprP M k 4 (skipP p) out).1 6 ((out.length:Int) - 1) (((exprP M k 4 (skipP p) out).1.length:Int) - 1) [] v0).1 (by unfold needP; omega)
    refine ⟨?_,fun m hm=>?_⟩
    ·show muP M (if isP M p kwAnd=true then exprP M k 3 (nodeP M (exprP M k 4 (skipP p) out).2 p.a (exprP M k 4 (skipP p) out).1 6 ((out.length:Int) - 1) (((exprP M k 4 (skipP p) out).1.length:Int) - 1) [] v0).2 (nodeP M (exprP M k 4 (skipP p) out).2 p.a (exprP M k 4 (skipP p) out).1 6 ((out.length:Int) - 1) (((exprP M k 4 (skipP p) out).1.length:Int) - 1) [] v0).1 else (out,p)).2 ≤ _
     rw [if_pos h]
     omega
    ·obtain ⟨j,rfl⟩:∃ j,m=j + 1:=⟨m - 1,by unfold needP at hm; omega⟩
     show (if isP M p kwAnd=true then exprP M j 3 (nodeP M (exprP M j 4 (skipP p) out).2 p.a (exprP M j 4 (skipP p) out).1 6 ((out.length:Int) - 1) (((exprP M j 4 (skipP p) out).1.length:Int) - 1) [] v0).2 (nodeP M (exprP M j 4 (skipP p) out).2 p.a (exprP M j 4 (skipP p) out).1 6 ((out.length:Int) - 1) (((exprP M j 4 (skipP p) out).1.length:Int) - 1) [] v0).1 else (out,p))=(if isP M p kwAnd=true then exprP M k 3 (nodeP M (exprP M k 4 (skipP p) out).2 p.a (exprP M k 4 (skipP p) out).1 6 ((out.length:Int) - 1) (((exprP M k 4 (skipP p) out).1.length:Int) - 1) [] v0).2 (nodeP M (exprP M k 4 (skipP p) out).2 p.a (exprP M k 4 (skipP p) out).1 6 ((out.length:Int) - 1) (((exprP M k 4 (skipP p) out).1.length:Int) - 1) [] v0).1 else (out,p))
     rw [if_pos h,if_pos h,b1 j hm,b2 j hm]
   ·refine ⟨?_,fun m hm=>?_⟩
    ·show muP M (if isP M p kwAnd=true then exprP M k 3 (nodeP M (exprP M k 4 (skipP p) out).2 p.a (exprP M k 4 (skipP p) out).1 6 ((out.length:Int) - 1) (((exprP M k 4 (skipP p) out).1.length:Int) - 1) [] v0).2 (nodeP M (exprP M k 4 (skipP p) out).2 p.a (exprP M k 4 (skipP p) out).1 6 ((out.length:Int) - 1) (((exprP M k 4 (skipP p) out).1.length:Int) - 1) [] v0).1 else (out,p)).2 ≤ _
     rw [if_neg h]
     exact Nat.le_refl _
    ·obtain ⟨j,rfl⟩:∃ j,m=j + 1:=⟨m - 1,by unfold needP at hm; omega⟩
     show (if isP M p kwAnd=true then exprP M j 3 (nodeP M (exprP M j 4 (skipP p) out).2 p.a (exprP M j 4 (skipP p) out).1 6 ((out.length:Int) - 1) (((exprP M j 4 (skipP p) out).1.length:Int) - 1) [] v0).2 (nodeP M (exprP M j 4 (skipP p) out).2 p.a (exprP M j 4 (skipP p) out).1 6 ((out.length:Int) - 1) (((exprP M j 4 (skipP p) out).1.length:Int) - 1) [] v0).1 else (out,p))=(if isP M p kwAnd=true then exprP M k 3 (nodeP M (exprP M k 4 (skipP p) out).2 p.a (exprP M k 4 (skipP p) out).1 6 ((out.length:Int) - 1) (((exprP M k 4 (skipP p) out).1.length:Int) - 1) [] v0).2 (nodeP M (exprP M k 4 (skipP p) out).2 p.a (exprP M k 4 (skipP p) out).1 6 ((out.length:Int) - 1) (((exprP M k 4 (skipP p) out).1.length:Int) - 1) [] v0).1 else (out,p))
     rw [if_neg h,if_neg h]
  ·by_cases h:isP M p kwNot=true
   ·obtain ⟨a1,b1⟩:=H 4 (openP M p) out (hop _ h 4)
    have hm1:=mu_open h
    have hm2:=mu_node M (shutP (exprP M k 4 (openP M p) out).2) p.a (exprP M k 4 (openP M p) out).1 4 (((exprP M k 4 (openP M p) out).1.length:Int) - 1) 0 [] v0
    rw [mu_shut] at hm2
    refine ⟨?_,fun m hm=>?_⟩
    ·show muP M (if isP M p kwNot=true then (nodeP M (shutP (exprP M k 4 (openP M p) out).2) p.a (exprP M k 4 (openP M p) out).1 4 (((exprP M k 4 (openP M p) out).1.length:Int) - 1) 0 [] v0) else exprP M k 5 p out).2 ≤ _
     rw [if_pos h]
     omega
    ·obtain ⟨j,rfl⟩:∃ j,m=j + 1:=⟨m - 1,by unfold needP at hm; omega⟩
     show (if isP M p kwNot=true then (nodeP M (shutP (exprP M j 4 (openP M p) out).2) p.a (exprP M j 4 (openP M p) out).1 4 (((exprP M j 4 (openP M p) out).1.length:Int) - 1) 0 [] v0) else exprP M j 5 p out)=(if isP M p kwNot=true then (nodeP M (shutP (exprP M k 4 (openP M p) out).2) p.a (exprP M k 4 (openP M p) out).1 4 (((exprP M k 4 (openP M p) out).1.length:Int) - 1) 0 [] v0) else exprP M k 5 p out)
     rw [if_pos h,if_pos h,b1 j hm]
   ·obtain ⟨a1,b1⟩:=H 5 p out (by unfold needP; omega)
    refine ⟨?_,fun m hm=>?_⟩
    ·show muP M (if isP M p kwNot=true then (nodeP M (shutP (exprP M k 4 (openP M p) out).2) p.a (exprP M k 4 (openP M p) out).1 4 (((exprP M k 4 (openP M p) out).1.length:Int) - 1) 0 [] v0) else exprP M k 5 p out).2 ≤ _
     rw [if_neg h]
     exact a1
    ·obtain ⟨j,rfl⟩:∃ j,m=j + 1:=⟨m - 1,by unfold needP at hm; omega⟩
     show (if isP M p kwNot=true then (nodeP M (shutP (exprP M j 4 (openP M p) out).2) p.a (exprP M j 4 (openP M p) out).1 4 (((exprP M j 4 (openP M p) out).1.length:Int) - 1) 0 [] v0) else exprP M j 5 p out)=(if isP M p kwNot=true then (nodeP M (shutP (exprP M k 4 (openP M p) out).2) p.a (exprP M k 4 (openP M p) out).1 4 (((exprP M k 4 (openP M p) out).1.length:Int) - 1) 0 [] v0) else exprP M k 5 p out)
     rw [if_neg h,if_neg h,b1 j hm]
  ·obtain ⟨a1,b1⟩:=H 6 p out (by unfold needP; omega)
   by_cases h:firstOp M (exprP M k 6 p out).2 cmpS=0
   ·refine ⟨?_,fun m hm=>?_⟩
    ·show muP M (if firstOp M (exprP M k 6 p out).2 cmpS=0 then exprP M k 6 p out else cmpP M (exprP M k 6 p out).2 out.length (exprP M k 6 p out).1.length (firstOp M (exprP M k 6 p out).2 cmpS) (exprP M k 6 (skipP (exprP M k 6 p out).2) (exprP M k 6 p out).1)).2 ≤ _
     rw [if_pos h]
     exact a1
    ·obtain ⟨j,rfl⟩:∃ j,m=j + 1:=⟨m - 1,by unfold needP at hm; omega⟩
     show (if firstOp M (exprP M j 6 p out).2 cmpS=0 then exprP M j 6 p out else cmpP M (exprP M j 6 p out).2 out.length (exprP M j 6 p out).1.length (firstOp M (exprP M j 6 p out).2 cmpS) (exprP M j 6 (skipP (exprP M j 6 p out).2) (exprP M j 6 p out).1))=(if firstOp M (exprP M k 6 p out).2 cmpS=0 then exprP M k 6 p out else cmpP M (exprP M k 6 p out).2 out.length (exprP M k 6 p out).1.length (firstOp M (exprP M k 6 p out).2 cmpS) (exprP M k 6 (skipP (exprP M k 6 p out).2) (exprP M k 6 p out).1))
     rw [b1 j hm,if_pos h,if_pos h]
   ·obtain ⟨ss,hs⟩:=firstOp_some _ h
    have hm1:=mu_skip hs
    obtain ⟨a2,b2⟩:=H 6 (skipP (exprP M k 6 p out).2) (exprP M k 6 p out).1 (by unfold needP; omega)
    have hm2:=mu_cmp M (exprP M k 6 p out).2 out.length (exprP M k 6 p out).1.length (firstOp M (exprP M k 6 p out).2 cmpS) (exprP M k 6 (skipP (exprP M k 6 p out).2) (exprP M k 6 p out).1)
    refine ⟨?_,fun m hm=>?_⟩
    ·show muP M (if firstOp M (exprP M k 6 p out).2 cmpS=0 then exprP M k 6 p out else cmpP M (exprP M k 6 p out).2 out.length (exprP M k 6 p out).1.length (firstOp M (exprP M k 6 p out).2 cmpS) (exprP M k 6 (skipP (exprP M k 6 p out).2) (exprP M k 6 p out).1)).2 ≤ _
     rw [if_neg h]
     omega
    ·obtain ⟨j,rfl⟩:∃ j,m=j + 1:=⟨m - 1,by unfold needP at hm; omega⟩
     show (if firstOp M (exprP M j 6 p out).2 cmpS=0 then exprP M j 6 p out else cmpP M (exprP M j 6 p out).2 out.length (exprP M j 6 p out).1.length (firstOp M (exprP M j 6 p out).2 cmpS) (exprP M j 6 (skipP (exprP M j 6 p out).2) (exprP M j 6 p out).1))=(if firstOp M (exprP M k 6 p out).2 cmpS=0 then exprP M k 6 p out else cmpP M (exprP M k 6 p out).2 out.length (exprP M k 6 p out).1.length (firstOp M (exprP M k 6 p out).2 cmpS) (exprP M k 6 (skipP (exprP M k 6 p out).2) (exprP M k 6 p out).1))
     rw [b1 j hm,if_neg h,if_neg h,b2 j hm]
  ·obtain ⟨a1,b1⟩:=H 8 p out (by unfold needP; omega)
   obtain ⟨a2,b2⟩:=H 7 (exprP M k 8 p out).2 (exprP M k 8 p out).1 (by unfold needP; omega)
   refine ⟨Nat.le_trans a2 a1,fun m hm=>?_⟩
   obtain ⟨j,rfl⟩:∃ j,m=j + 1:=⟨m - 1,by unfold needP at hm; omega⟩
   show exprP M j 7 (exprP M j 8 p out).2 (exprP M j 8 p out).1=exprP M k 7 (exprP M k 8 p out).2 (exprP M k 8 p out).1
   rw [b1 j hm,b2 j hm]
  ·by_cases h:¬ firstOp M p plusS=0
   ·obtain ⟨ss,hs⟩:=firstOp_some _ h
    obtain ⟨a1,b1⟩:=H 8 (skipP p) out (hsk ss hs 8)
    have hm1:=mu_skip hs
    have hm2:=mu_node M (exprP M k 8 (skipP p) out).2 p.a (exprP M k 8 (skipP p) out).1 (firstOp M p plusS) ((out.length:Int) - 1) (((exprP M k 8 (skipP p) out).1.length:Int) - 1) [] v0
    obtain ⟨a2,b2⟩:=H 7 (nodeP M (exprP M k 8 (skipP p) out).2 p.a (exprP M k 8 (skipP p) out).1 (firstOp M p plusS) ((out.length:Int) - 1) (((exprP M k 8 (skipP p) out).1.length:Int) - 1) [] v0).2 (nodeP M (exprP M k 8 (skipP p) out).2 p.a (exprP M k 8 (skipP p) out).1 (firstOp M p plusS) ((out.length:Int) - 1) (((exprP M k 8 (skipP p) out).1.length:Int) - 1) [] v0).1 (by unfold needP; omega)
    refine ⟨?_,fun m hm=>?_⟩
    ·show muP M (if firstOp M p plusS=0 then (out,p) else exprP M k 7 (nodeP M (exprP M k 8 (skipP p) out).2 p.a (exprP M k 8 (skipP p) out).1 (firstOp M p plusS) ((out.length:Int) - 1) (((exprP M k 8 (skipP p) out).1.length:Int) - 1) [] v0).2 (nodeP M (exprP M k 8 (skipP p) out).2 p.a (exprP M k 8 (skipP p) out).1 (firstOp M p plusS) ((out.length:Int) - 1) (((exprP M k 8 (skipP p) out).1.length:Int) - 1) [] v0).1).2 ≤ _
     rw [if_neg h]
     omega
    ·obtain ⟨j,rfl⟩:∃ j,m=j + 1:=⟨m - 1,by unfold needP at hm; omega⟩
     show (if firstOp M p plusS=0 then (out,p) else exprP M j 7 (nodeP M (exprP M j 8 (skipP p) out).2 p.a (exprP M j 8 (skipP p) out).1 (firstOp M p plusS) ((out.length:Int) - 1) (((exprP M j 8 (skipP p) out).1.length:Int) - 1) [] v0).2 (nodeP M (exprP M j 8 (skipP p) out).2 p.a (exprP M j 8 (skipP p) out).1 (firstOp M p plusS) ((out.length:Int) - 1) (((exprP M j 8 (skipP p) out).1.length:Int) - 1) [] v0).1)=(if firstOp M p plusS=0 then (out,p) else exprP M k 7 (nodeP M (exprP M k 8 (skipP p) out).2 p.a (exprP M k 8 (skipP p) out).1 (firstOp M p plusS) ((out.length:Int) - 1) (((exprP M k 8 (skipP p) out).1.length:Int) - 1) [] v0).2 (nodeP M (exprP M k 8 (skipP p) out).2 p.a (exprP M k 8 (skipP p) out).1 (firstOp M p plusS) ((out.length:Int) - 1) (((exprP M k 8 (skipP p) out).1.length:Int) - 1) [] v0).1)
     rw [if_neg h,if_neg h,b1 j hm,b2 j hm]
   ·refine ⟨?_,fun m hm=>?_⟩
    ·show muP M (if firstOp M p plusS=0 then (out,p) else exprP M k 7 (nodeP M (exprP M k 8 (skipP p) out).2 p.a (exprP M k 8 (skipP p) out).1 (firstOp M p plusS) ((out.length:Int) - 1) (((exprP M k 8 (skipP p) out).1.length:Int) - 1) [] v0).2 (nodeP M (exprP M k 8 (skipP p) out).2 p.a (exprP M k 8 (skipP p) out).1 (firstOp M p plusS) ((out.length:Int) - 1) (((exprP M k 8 (skipP p) out).1.length:Int) - 1) [] v0).1).2 ≤ _
     rw [if_pos (Decidable.not_not.1 h)]
     exact Nat.le_refl _
    ·obtain ⟨j,rfl⟩:∃ j,m=j + 1:=⟨m - 1,by unfold needP at hm; omega⟩
     show (if firstOp M p plusS=0 then (out,p) else exprP M j 7 (nodeP M (exprP M j 8 (skipP p) out).2 p.a (exprP M j 8 (skipP p) out).1 (firstOp M p plusS) ((out.length:Int) - 1) (((exprP M j 8 (skipP p) out).1.length:Int) - 1) [] v0).2 (nodeP M (exprP M j 8 (skipP p) out).2 p.a (exprP M j 8 (skipP p) out).1 (firstOp M p plusS) ((out.length:Int) - 1) (((exprP M j 8 (skipP p) out).1.length:Int) - 1) [] v0).1)=(if firstOp M p plusS=0 then (out,p) else exprP M k 7 (nodeP M (exprP M k 8 (skipP p) out).2 p.a (exprP M k 8 (skipP p) out).1 (firstOp M p plusS) ((out.length:Int) - 1) (((exprP M k 8 (skipP p) out).1.length:Int) - 1) [] v0).2 (nodeP M (exprP M k 8 (skipP p) out).2 p.a (exprP M k 8 (skipP p) out).1 (firstOp M p plusS) ((out.length:Int) - 1) (((exprP M k 8 (skipP p) out).1.length:Int) - 1) [] v0).1)
     rw [if_pos (Decidable.not_not.1 h),if_pos (Decidable.not_not.1 h)]
  ·obtain ⟨a1,b1⟩:=H 10 p out (by unfold needP; omega)
   obtain ⟨a2,b2⟩:=H 9 (exprP M k 10 p out).2 (exprP M k 10 p out).1 (by unfold needP; omega)
   refine ⟨Nat.le_trans a2 a1,fun m hm=>?_⟩
   obtain ⟨j,rfl⟩:∃ j,m=j + 1:=⟨m - 1,by unfold needP at hm; omega⟩
   show exprP M j 9 (exprP M j 10 p out).2 (exprP M j 10 p out).1=exprP M k 9 (exprP M k 10 p out).2 (exprP M k 10 p out).1
   rw [b1 j hm,b2 j hm]
  ·by_cases h:¬ firstOp M p timesS=0
   ·obtain ⟨ss,hs⟩:=firstOp_some _ h
    obtain ⟨a1,b1⟩:=H 10 (skipP p) out (hsk ss hs 10)
    have hm1:=mu_skip hs
    have hm2:=mu_node M (exprP M k 10 (skipP p) out).2 p.a (exprP M k 10 (skipP p) out).1 (firstOp M p timesS) ((out.length:Int) - 1) (((exprP M k 10 (skipP p) out).1.length:Int) - 1) [] v0
    obtain ⟨a2,b2⟩:=H 9 (nodeP M (exprP M k 10 (skipP p) out).2 p.a (exprP M k 10 (skipP p) out).1 (firstOp M p timesS) ((out.length:Int) - 1) (((exprP M k 10 (skipP p) out).1.length:Int) - 1) [] v0).2 (nodeP M (exprP M k 10 (skipP p) out).2 p.a (exprP M k 10 (skipP p) out).1 (firstOp M p timesS) ((out.length:Int) - 1) (((exprP M k 10 (skipP p) out).1.length:Int) - 1) [] v0).1 (by unfold needP; omega)
    refine ⟨?_,fun m hm=>?_⟩
    ·show muP M (if firstOp M p timesS=0 then (out,p) else exprP M k 9 (nodeP M (exprP M k 10 (skipP p) out).2 p.a (exprP M k 10 (skipP p) out).1 (firstOp M p timesS) ((out.length:Int) - 1) (((exprP M k 10 (skipP p) out).1.length:Int) - 1) [] v0).2 (nodeP M (exprP M k 10 (skipP p) out).2 p.a (exprP M k 10 (skipP p) out).1 (firstOp M p timesS) ((out.length:Int) - 1) (((exprP M k 10 (skipP p) out).1.length:Int) - 1) [] v0).1).2 ≤ _
     rw [if_neg h]
     omega
    ·obtain ⟨j,rfl⟩:∃ j,m=j + 1:=⟨m - 1,by unfold needP at hm; omega⟩
     show (if firstOp M p timesS=0 then (out,p) else exprP M j 9 (nodeP M (exprP M j 10 (skipP p) out).2 p.a (exprP M j 10 (skipP p) out).1 (firstOp M p timesS) ((out.length:Int) - 1) (((exprP M j 10 (skipP p) out).1.length:Int) - 1) [] v0).2 (nodeP M (exprP M j 10 (skipP p) out).2 p.a (exprP M j 10 (skipP p) out).1 (firstOp M p timesS) ((out.length:Int) - 1) (((exprP M j 10 (skipP p) out).1.length:Int) - 1) [] v0).1)=(if firstOp M p timesS=0 then (out,p) else exprP M k 9 (nodeP M (exprP M k 10 (skipP p) out).2 p.a (exprP M k 10 (skipP p) out).1 (firstOp M p timesS) ((out.length:Int) - 1) (((exprP M k 10 (skipP p) out).1.length:Int) - 1) [] v0).2 (nodeP M (exprP M k 10 (skipP p) out).2 p.a (exprP M k 10 (skipP p) out).1 (firstOp M p timesS) ((out.length:Int) - 1) (((exprP M k 10 (skipP p) out).1.length:Int) - 1) [] v0).1)
     rw [if_neg h,if_neg h,b1 j hm,b2 j hm]
   ·refine ⟨?_,fun m hm=>?_⟩
    ·show muP M (if firstOp M p timesS=0 then (out,p) else exprP M k 9 (nodeP M (exprP M k 10 (skipP p) out).2 p.a (exprP M k 10 (skipP p) out).1 (firstOp M p timesS) ((out.length:Int) - 1) (((exprP M k 10 (skipP p) out).1.length:Int) - 1) [] v0).2 (nodeP M (exprP M k 10 (skipP p) out).2 p.a (exprP M k 10 (skipP p) out).1 (firstOp M p timesS) ((out.length:Int) - 1) (((exprP M k 10 (skipP p) out).1.length:Int) - 1) [] v0).1).2 ≤ _
     rw [if_pos (Decidable.not_not.1 h)]
     exact Nat.le_refl _
    ·obtain ⟨j,rfl⟩:∃ j,m=j + 1:=⟨m - 1,by unfold needP at hm; omega⟩
     show (if firstOp M p timesS=0 then (out,p) else exprP M j 9 (nodeP M (exprP M j 10 (skipP p) out).2 p.a (exprP M j 10 (skipP p) out).1 (firstOp M p timesS) ((out.length:Int) - 1) (((exprP M j 10 (skipP p) out).1.length:Int) - 1) [] v0).2 (nodeP M (exprP M j 10 (skipP p) out).2 p.a (exprP M j 10 (skipP p) out).1 (firstOp M p timesS) ((out.length:Int) - 1) (((exprP M j 10 (skipP p) out).1.length:Int) - 1) [] v0).1)=(if firstOp M p timesS=0 then (out,p) else exprP M k 9 (nodeP M (exprP M k 10 (skipP p) out).2 p.a (exprP M k 10 (skipP p) out).1 (firstOp M p timesS) ((out.length:Int) - 1) (((exprP M k 10 (skipP p) out).1.length:Int) - 1) [] v0).2 (nodeP M (exprP M k 10 (skipP p) out).2 p.a (exprP M k 10 (skipP p) out).1 (firstOp M p timesS) ((out.length:Int) - 1) (((exprP M k 10 (skipP p) out).1.length:Int) - 1) [] v0).1)
     rw [if_pos (Decidable.not_not.1 h),if_pos (Decidable.not_not.1 h)]
  ·by_cases h:isP M p [45]=true
   ·obtain ⟨a1,b1⟩:=H 10 (openP M p) out (hop _ h 10)
    have hm1:=mu_open h
    have hm2:=mu_node M (shutP (exprP M k 10 (openP M p) out).2) p.a (exprP M k 10 (openP M p) out).1 5 (((exprP M k 10 (openP M p) out).1.length:Int) - 1) 0 [] v0
    rw [mu_shut] at hm2
    have hm3:=mu_node M (valueP M p).2.1 p.a out 1 0 0 [] (valueP M p).1
    have hm4:=mu_value M p
    refine ⟨?_,fun m hm=>?_⟩
    ·show muP M (if isP M p [45]=true then (if (valueP M p).2.2=true then nodeP M (valueP M p).2.1 p.a out 1 0 0 [] (valueP M p).1 else (nodeP M (shutP (exprP M k 10 (openP M p) out).2) p.a (exprP M k 10 (openP M p) out).1 5 (((exprP M k 10 (openP M p) out).1.length:Int) - 1) 0 [] v0)) else exprP M k 11 p out).2 ≤ _
     rw [if_pos h]
     split <;> omega
    ·obtain ⟨j,rfl⟩:∃ j,m=j + 1:=⟨m - 1,by unfold needP at hm; omega⟩
     show (if isP M p [45]=true then (if (valueP M p).2.2=true then nodeP M (valueP M p).2.1 p.a out 1 0 0 [] (valueP M p).1 else (nodeP M (shutP (exprP M j 10 (openP M p) out).2) p.a (exprP M j 10 (openP M p) out).1 5 (((exprP M j 10 (openP M p) out).1.length:Int) - 1) 0 [] v0)) else exprP M j 11 p out)=(if isP M p [45]=true then (if (valueP M p).2.2=true then nodeP M (valueP M p).2.1 p.a out 1 0 0 [] (valueP M p).1 else (nodeP M (shutP (exprP M k 10 (openP M p) out).2) p.a (exprP M k 10 (openP M p) out).1 5 (((exprP M k 10 (openP M p) out).1.length:Int) - 1) 0 [] v0)) else exprP M k 11 p out)
     rw [if_pos h,if_pos h,b1 j hm]
   ·obtain ⟨a1,b1⟩:=H 11 p out (by unfold needP; omega)
    refine ⟨?_,fun m hm=>?_⟩
    ·show muP M (if isP M p [45]=true then (if (valueP M p).2.2=true then nodeP M (valueP M p).2.1 p.a out 1 0 0 [] (valueP M p).1 else (nodeP M (shutP (exprP M k 10 (openP M p) out).2) p.a (exprP M k 10 (openP M p) out).1 5 (((exprP M k 10 (openP M p) out).1.length:Int) - 1) 0 [] v0)) else exprP M k 11 p out).2 ≤ _
     rw [if_neg h]
     exact a1
    ·obtain ⟨j,rfl⟩:∃ j,m=j + 1:=⟨m - 1,by unfold needP at hm; omega⟩
     show (if isP M p [45]=true then (if (valueP M p).2.2=true then nodeP M (valueP M p).2.1 p.a out 1 0 0 [] (valueP M p).1 else (nodeP M (shutP (exprP M j 10 (openP M p) out).2) p.a (exprP M j 10 (openP M p) out).1 5 (((exprP M j 10 (openP M p) out).1.length:Int) - 1) 0 [] v0)) else exprP M j 11 p out)=(if isP M p [45]=true then (if (valueP M p).2.2=true then nodeP M (valueP M p).2.1 p.a out 1 0 0 [] (valueP M p).1 else (nodeP M (shutP (exprP M k 10 (openP M p) out).2) p.a (exprP M k 10 (openP M p) out).1 5 (((exprP M k 10 (openP M p) out).1.length:Int) - 1) 0 [] v0)) else exprP M k 11 p out)
     rw [if_neg h,if_neg h,b1 j hm]
  ·obtain ⟨d,rfl⟩:∃ d,lv=d + 11:=⟨lv - 11,by omega⟩
   have hx:∀ n,exprP M (n + 1) (d + 11) p out=(if isP M p [40]=true then ((exprP M n 0 (openP M p) out).1,shutP (wantP M (exprP M n 0 (openP M p) out).2 [41])) else if p.er=0 ∧ (M[p.a]?.map fun t=>t.k == 1 && t.t != [95])=some true then nodeP M (skipP p) p.a out 17 0 0 (tkAt M p.a).t v0 else if (valueP M p).2.2=true ∧ isP M p [45]=false then nodeP M (valueP M p).2.1 p.a out 1 0 0 [] (valueP M p).1 else (out,stopP M p 16)):=fun n=>rfl
   have hm3:=mu_node M (valueP M p).2.1 p.a out 1 0 0 [] (valueP M p).1
   have hm4:=mu_value M p
   have hm5:=mu_node M (skipP p) p.a out 17 0 0 (tkAt M p.a).t v0
   have hm6:=mu_skip_le M p
   by_cases h:isP M p [40]=true
   ·obtain ⟨a1,b1⟩:=H 0 (openP M p) out (hop _ h 0)
    have hm1:=mu_open h
    have hm2:=mu_want M (exprP M k 0 (openP M p) out).2 [41]
    refine ⟨?_,fun m hm=>?_⟩
    ·rw [hx,if_pos h]
     show muP M (shutP _) ≤ _
     rw [mu_shut]
     omega
    ·obtain ⟨j,rfl⟩:∃ j,m=j + 1:=⟨m - 1,by have:=rank_pos (d + 11); unfold needP at hm; omega⟩
     rw [hx,hx,if_pos h,if_pos h,b1 j hm]
   ·refine ⟨?_,fun m hm=>?_⟩
    ·rw [hx,if_neg h]
     split
     ·omega
     ·split
      ·omega
      ·show muP M (stopP M p 16) ≤ _
       rw [mu_stop M p 16 (by decide)]
       exact Nat.zero_le _
    ·obtain ⟨j,rfl⟩:∃ j,m=j + 1:=⟨m - 1,by have:=rank_pos (d + 11); unfold needP at hm; omega⟩
     rw [hx,hx,if_neg h,if_neg h]
theorem exprP_0 (M:List Tk) (n:Nat) (p:Pl) (out:List Ex):exprP M (n + 1) 0 p out=(exprP M n 1 (exprP M n 2 p out).2 (exprP M n 2 p out).1):=rfl
theorem exprP_1 (M:List Tk) (n:Nat) (p:Pl) (out:List Ex):exprP M (n + 1) 1 p out=(if isP M p kwOr=true then exprP M n 1 (nodeP M (exprP M n 2 (skipP p) out).2 p.a (exprP M n 2 (skipP p) out).1 7 ((out.length:Int) - 1) (((exprP M n 2 (skipP p) out).1.length:Int) - 1) [] v0).2 (nodeP M (exprP M n 2 (skipP p) out).2 p.a (exprP M n 2 (skipP p) out).1 7 ((out.length:Int) - 1) (((exprP M n 2 (skipP p) out).1.length:Int) - 1) [] v0).1 else (out,p)):=rfl
theorem exprP_2 (M:List Tk) (n:Nat) (p:Pl) (out:List Ex):exprP M (n + 1) 2 p out=(exprP M n 3 (exprP M n 4 p out).2 (exprP M n 4 p out).1):=rfl
theorem exprP_3 (M:List Tk) (n:Nat) (p:Pl) (out:List Ex):exprP M (n + 1) 3 p out=(if isP M p kwAnd=true then exprP M n 3 (nodeP M (exprP M n 4 (skipP p) out).2 p.a (exprP M n 4 (skipP p) out).1 6 ((out.length:Int) - 1) (((exprP M n 4 (skipP p) out).1.length:Int) - 1) [] v0).2 (nodeP M (exprP M n 4 (skipP p) out).2 p.a (exprP M n 4 (skipP p) out).1 6 ((out.length:Int) - 1) (((exprP M n 4 (skipP p) out).1.length:Int) - 1) [] v0).1 else (out,p)):=rfl
theorem exprP_4 (M:List Tk) (n:Nat) (p:Pl) (out:List Ex):exprP M (n + 1) 4 p out=(if isP M p kwNot=true then nodeP M (shutP (exprP M n 4 (openP M p) out).2) p.a (exprP M n 4 (openP M p) out).1 4 (((exprP M n 4 (openP M p) out).1.length:Int) - 1) 0 [] v0 else exprP M n 5 p out):=rfl
theorem exprP_5 (M:List Tk) (n:Nat) (p:Pl) (out:List Ex):exprP M (n + 1) 5 p out=(if firstOp M (exprP M n 6 p out).2 cmpS=0 then exprP M n 6 p out else cmpP M (exprP M n 6 p out).2 out.length (exprP M n 6 p out).1.length (firstOp M (exprP M n 6 p out).2 cmpS) (exprP M n 6 (skipP (exprP M n 6 p out).2) (exprP M n 6 p out).1)):=rfl
theorem exprP_6 (M:List Tk) (n:Nat) (p:Pl) (out:List Ex):exprP M (n + 1) 6 p out=(exprP M n 7 (exprP M n 8 p out).2 (exprP M n 8 p out).1):=rfl
theorem exprP_7 (M:List Tk) (n:Nat) (p:Pl) (out:List Ex):exprP M (n + 1) 7 p out=(if firstOp M p plusS=0 then (out,p) else exprP M n 7 (nodeP M (exprP M n 8 (skipP p) out).2 p.a (exprP M n 8 (skipP p) out).1 (firstOp M p plusS) ((out.length:Int) - 1) (((exprP M n 8 (skipP p) out).1.length:Int) - 1) [] v0).2 (nodeP M (exprP M n 8 (skipP p) out).2 p.a (exprP M n 8 (skipP p) out).1 (firstOp M p plusS) ((out.length:Int) - 1) (((exprP M n 8 (skipP p) out).1.length:Int) - 1) [] v0).1):=rfl
theorem exprP_8 (M:List Tk) (n:Nat) (p:Pl) (out:List Ex):exprP M (n + 1) 8 p out=(exprP M n 9 (exprP M n 10 p out).2 (exprP M n 10 p out).1):=rfl
theorem exprP_9 (M:List Tk) (n:Nat) (p:Pl) (out:List Ex):exprP M (n + 1) 9 p out=(if firstOp M p timesS=0 then (out,p) else exprP M n 9 (nodeP M (exprP M n 10 (skipP p) out).2 p.a (exprP M n 10 (skipP p) out).1 (firstOp M p timesS) ((out.length:Int) - 1) (((exprP M n 10 (skipP p) out).1.length:Int) - 1) [] v0).2 (nodeP M (exprP M n 10 (skipP p) out).2 p.a (exprP M n 10 (skipP p) out).1 (firstOp M p timesS) ((out.length:Int) - 1) (((exprP M n 10 (skipP p) out).1.length:Int) - 1) [] v0).1):=rfl
theorem exprP_10 (M:List Tk) (n:Nat) (p:Pl) (out:List Ex):exprP M (n + 1) 10 p out=(if isP M p [45]=true then (if (valueP M p).2.2=true then nodeP M (valueP M p).2.1 p.a out 1 0 0 [] (valueP M p).1 else nodeP M (shutP (exprP M n 10 (openP M p) out).2) p.a (exprP M n 10 (openP M p) out).1 5 (((exprP M n 10 (openP M p) out).1.length:Int) - 1) 0 [] v0) else exprP M n 11 p out):=rfl
theorem exprP_11 (M:List Tk) (n d:Nat) (p:Pl) (out:List Ex):exprP M (n + 1) (d + 11) p out=(if isP M p [40]=true then ((exprP M n 0 (openP M p) out).1,shutP (wantP M (exprP M n 0 (openP M p) out).2 [41])) else if p.er=0 ∧ (M[p.a]?.map fun t=>t.k == 1 && t.t != [95])=some true then nodeP M (skipP p) p.a out 17 0 0 (tkAt M p.a).t v0 else if (valueP M p).2.2=true ∧ isP M p [45]=false then nodeP M (valueP M p).2.1 p.a out 1 0 0 [] (valueP M p).1 else (out,stopP M p 16)):=rfl
def Ge (p q:Pl):Prop:=p.a ≤ q.a ∧ (q.er=0 → p.er=0)
theorem Ge.refl (p:Pl):Ge p p:=⟨Nat.le_refl _,id⟩
theorem Ge.trans {p q r:Pl} (h:Ge p q) (k:Ge q r):Ge p r:=⟨Nat.le_trans h.1 k.1,fun e=>h.2 (k.2 e)⟩
theorem ge_skip (p:Pl):Ge p (skipP p):=⟨Nat.le_succ _,id⟩
theorem ge_stop (M:List Tk) (p:Pl) (e:Nat):Ge p (stopP M p e):=by
 unfold stopP
 by_cases h:p.er=0
 ·rw [if_pos h]
  split <;> exact ⟨Nat.le_refl _,fun _=>h⟩
 ·rw [if_neg h]
  exact Ge.refl p
theorem ge_want (M:List Tk) (p:Pl) (s:List UInt8):Ge p (wantP M p s):=by
 unfold wantP
 split
 ·exact ge_skip p
 ·exact ge_stop M p 16
theorem ge_open (M:List Tk) (p:Pl):Ge p (openP M p):=by
 unfold openP
 split
 ·exact ge_stop M p 13
 ·exact ⟨Nat.le_succ _,id⟩
theorem ge_shut (p:Pl):Ge p (shutP p):=⟨Nat.le_refl _,id⟩
theorem ge_num (M:List Tk) (p q:Pl) (b:Bool) (h:Ge p q):Ge p (numP M p q b).2.1:=by
 unfold numP
 split
 ·exact Ge.refl p
 ·split
  ·split
   ·exact h.trans (ge_skip q)
   ·split
    ·exact h.trans (ge_skip q)
    ·exact h.trans (ge_stop M q 5)
  ·exact Ge.refl p
theorem ge_value (M:List Tk) (p:Pl):Ge p (valueP M p).2.1:=by
 unfold valueP
 split
 ·split
  ·exact Ge.refl p
  ·split
   ·exact ge_skip p
   ·split
    ·exact ge_skip p
    ·split
     ·exact ge_num M p _ _ (ge_skip p)
     ·exact ge_num M p p _ (Ge.refl p)
 ·exact Ge.refl p
theorem ge_node (M:List Tk) (p:Pl) (n:Nat) (out:List Ex) (op a b:Int) (s:List UInt8) (v:Vd):Ge p (nodeP M p n out op a b s v).2:=by
 unfold nodeP
 by_cases h:p.er=0
 ·rw [if_pos h]
  split
  ·exact Ge.refl p
  ·exact ⟨Nat.le_refl _,fun _=>h⟩
 ·rw [if_neg h]
  exact Ge.refl p
theorem ge_cmp (M:List Tk) (p1:Pl) (f m op:Nat) (r:List Ex × Pl):Ge r.2 (cmpP M p1 f m op r).2:=by
 unfold cmpP
 split
 ·split <;> exact ge_node M _ _ _ _ _ _ _ _
 ·exact Ge.refl _
theorem ge_expr (M:List Tk):∀ (n lv:Nat) (p:Pl) (out:List Ex),Ge p (exprP M n lv p out).2
 | 0,_,p,_=>Ge.refl p
 | n + 1,lv,p,out=>by
  have ih:=ge_expr M n
  have hlv:lv=0 ∨ lv=1 ∨ lv=2 ∨ lv=3 ∨ lv=4 ∨ lv=5 ∨ lv=6 ∨ lv=7 ∨ lv=8 ∨ lv=9 ∨ lv=10 ∨ 11 ≤ lv:=by omega
  rcases hlv with rfl | rfl | rfl | rfl | rfl | rfl | rfl | rfl | rfl | rfl | rfl | h11
  ·exact (ih 2 p out).trans (ih 1 _ _)
  ·rw [exprP_1]
   split
   ·exact (ge_skip p).trans ((ih 2 _ _).trans ((ge_node M _ _ _ _ _ _ _ _).trans (ih 1 _ _)))
   ·exact Ge.refl p
  ·exact (ih 4 p out).trans (ih 3 _ _)
  ·rw [exprP_3]
   split
   ·exact (ge_skip p).trans ((ih 4 _ _).trans ((ge_node M _ _ _ _ _ _ _ _).trans (ih 3 _ _)))
   ·exact Ge.refl p
  ·rw [exprP_4]
   split
   ·exact (ge_open M p).trans ((ih 4 _ _).trans ((ge_shut _).trans (ge_node M _ _ _ _ _ _ _ _)))
   ·exact ih 5 p out
  ·rw [exprP_5]
   split
   ·exact ih 6 p out
   ·exact (ih 6 p out).trans ((ge_skip _).trans ((ih 6 _ _).trans (ge_cmp M _ _ _ _ _)))
  ·exact (ih 8 p out).trans (ih 7 _ _)
  ·rw [exprP_7]
   split
   ·exact Ge.refl p
   ·exact (ge_skip p).trans ((ih 8 _ _).trans ((ge_node M _ _ _ _ _ _ _ _).trans (ih 7 _ _)))
  ·exact (ih 10 p out).trans (ih 9 _ _)
  ·rw [exprP_9]
   split
   ·exact Ge.refl p
   ·exact (ge_skip p).trans ((ih 10 _ _).trans ((ge_node M _ _ _ _ _ _ _ _).trans (ih 9 _ _)))
  ·rw [exprP_10]
   split
   ·split
    ·exact (ge_value M p).trans (ge_node M _ _ _ _ _ _ _ _)
    ·exact (ge_open M p).trans ((ih 10 _ _).trans ((ge_shut _).trans (ge_node M _ _ _ _ _ _ _ _)))
   ·exact ih 11 p out
  ·obtain ⟨d,rfl⟩:∃ d,lv=d + 11:=⟨lv - 11,by omega⟩
   rw [exprP_11]
   split
   ·exact (ge_open M p).trans ((ih 0 _ _).trans ((ge_want M _ _).trans (ge_shut _)))
   ·split
    ·exact (ge_skip p).trans (ge_node M _ _ _ _ _ _ _ _)
    ·split
     ·exact (ge_value M p).trans (ge_node M _ _ _ _ _ _ _ _)
     ·exact ge_stop M p 16
def Cl (f:Nat) (l:List Ex):Prop:=∀ (n:Nat) (x:Ex),f ≤ n → l[n]? = some x → (x.op=1 ∨ x.op=17) ∨ (4 ≤ x.op ∧ x.op ≤ 16 ∧ (f:Int) ≤ x.a ∧ x.a < n ∧ (5 < x.op → (f:Int) ≤ x.b ∧ x.b < n))
theorem Cl.none (l:List Ex):Cl l.length l:=fun n x hn hx=>by
 have:=(List.getElem?_eq_some_iff.1 hx).1
 omega
theorem Cl.snoc {f:Nat} {l:List Ex} {x:Ex} (h:Cl f l) (hx:(x.op=1 ∨ x.op=17) ∨ (4 ≤ x.op ∧ x.op ≤ 16 ∧ (f:Int) ≤ x.a ∧ x.a < l.length ∧ (5 < x.op → (f:Int) ≤ x.b ∧ x.b < l.length))):Cl f (l ++ [x]):=fun n y hn hy=>by
 by_cases hl:n < l.length
 ·rw [List.getElem?_append_left hl] at hy
  exact h n y hn hy
 ·have h2:=(List.getElem?_eq_some_iff.1 hy).1
  rw [List.length_append,List.length_singleton] at h2
  obtain rfl:n=l.length:=by omega
  rw [List.getElem?_append_right (Nat.le_refl _),Nat.sub_self] at hy
  cases hy
  exact hx
theorem Cl.join {f:Nat} {o r:List Ex} (h1:Cl f o) (h2:Cl o.length r) (ht:r.take o.length=o) (hf:f ≤ o.length):Cl f r:=fun n x hn hx=>by
 by_cases hl:n < o.length
 ·have e:o[n]? = some x:=by rw [← ht,List.getElem?_take,if_pos hl]; exact hx
  exact h1 n x hn e
 ·rcases h2 n x (by omega) hx with k | ⟨a,b,c,d,e⟩
  ·exact .inl k
  ·exact .inr ⟨a,b,by omega,d,fun k=>⟨by have:=(e k).1; omega,(e k).2⟩⟩
theorem node_ok {M:List Tk} {p:Pl} {n:Nat} {out:List Ex} {op a b:Int} {s:List UInt8} {v:Vd} (h:(nodeP M p n out op a b s v).2.er=0) :
  p.er=0 ∧ ∃ x:Ex,x.op=op ∧ x.a=a ∧ x.b=b ∧ nodeP M p n out op a b s v=(out ++ [x],p) ∧ depthT (out ++ [x]) (out.length:Int) ≤ 64:=by
 have h0:=(ge_node M p n out op a b s v).2 h
 refine ⟨h0,⟨op,a,b,⟨s.toArray⟩,v,(tkAt M n).line,(tkAt M n).col⟩,rfl,rfl,rfl,?_⟩
 unfold nodeP at h ⊢
 rw [if_pos h0] at h ⊢
 split at h
 ·rename_i hd
  rw [if_pos hd]
  exact ⟨rfl,hd⟩
 ·exact absurd h (by show ¬ (13:Nat)=0; decide)
theorem stop_no (M:List Tk) (p:Pl) (e:Nat) (he:e ≠ 0):(stopP M p e).er ≠ 0:=by
 unfold stopP
 by_cases h:p.er=0
 ·rw [if_pos h]
  split <;> exact he
 ·rw [if_neg h]
  exact h
theorem open_ok {M:List Tk} {p:Pl} (h:(openP M p).er=0):(openP M p).a=p.a + 1:=by
 unfold openP at h ⊢
 split at h
 ·exact absurd h (stop_no M p 13 (by decide))
 ·rename_i k
  rw [if_neg k]
theorem num_ok {M:List Tk} {p q:Pl} {b:Bool} (h:(numP M p q b).2.2=true) (h2:(numP M p q b).2.1.er=0):q.a + 1 ≤ (numP M p q b).2.1.a:=by
 unfold numP at h h2 ⊢
 split
 ·rename_i e
  rw [e] at h
  cases h
 ·rename_i u e
  rw [e] at h h2
  by_cases k:u.k=3
  ·rw [if_pos k]
   simp only [if_pos k] at h h2
   by_cases k0:u.t=[48]
   ·rw [if_pos k0]
    exact Nat.le_refl _
   ·rw [if_neg k0]
    simp only [if_neg k0] at h h2
    by_cases k1:pe (signed b u.t)=0
    ·rw [if_pos k1]
     exact Nat.le_refl _
    ·simp only [if_neg k1] at h2
     exact absurd h2 (stop_no M q 5 (by decide))
  ·simp only [if_neg k] at h
   cases h
theorem value_ok {M:List Tk} {p:Pl} (h:(valueP M p).2.2=true) (h2:(valueP M p).2.1.er=0):p.a + 1 ≤ (valueP M p).2.1.a:=by
 unfold valueP at h h2 ⊢
 by_cases hp:p.er=0
 ·simp only [if_pos hp] at h h2 ⊢
  split
  ·rename_i e
   rw [e] at h
   cases h
  ·rename_i t e
   rw [e] at h h2
   simp only at h h2
   by_cases k4:t.k=4
   ·rw [if_pos k4]
    exact Nat.le_refl _
   ·rw [if_neg k4]
    simp only [if_neg k4] at h h2
    by_cases kb:isP M p kwTrue=true ∨ isP M p kwFalse=true
    ·rw [if_pos kb]
     exact Nat.le_refl _
    ·rw [if_neg kb]
     simp only [if_neg kb] at h h2
     by_cases km:isP M p [45]=true
     ·rw [if_pos km]
      simp only [if_pos km] at h h2
      have:=num_ok h h2
      have e2:(skipP p).a=p.a + 1:=rfl
      omega
     ·rw [if_neg km]
      simp only [if_neg km] at h h2
      exact num_ok h h2
 ·simp only [if_neg hp] at h
  cases h
def Okx (out:List Ex) (p:Pl) (r:List Ex × Pl):Prop:=out.length < r.1.length ∧ r.1.take out.length=out ∧ Cl out.length r.1 ∧ r.1.length + p.a ≤ out.length + r.2.a
def Okl (b:Nat) (out:List Ex) (p:Pl) (r:List Ex × Pl):Prop:=out.length ≤ r.1.length ∧ r.1.take b=out.take b ∧ Cl b r.1 ∧ r.1.length + p.a ≤ out.length + r.2.a
theorem okx_leaf {out:List Ex} {p q:Pl} {x:Ex} (hx:x.op=1 ∨ x.op=17) (h:p.a + 1 ≤ q.a):Okx out p (out ++ [x],q) :=
 ⟨by simp,by simp,(Cl.none out).snoc (.inl hx),by simp; omega⟩
theorem okx_one {out:List Ex} {p q q':Pl} {e:List Ex × Pl} {x:Ex} (h:Okx out q e) (hq:p.a + 1 ≤ q.a) (hq':e.2.a ≤ q'.a) (hx:x.op=4 ∨ x.op=5) (ha:x.a=(e.1.length:Int) - 1):Okx out p (e.1 ++ [x],q'):=by
 obtain ⟨h1,h2,h3,h4⟩:=h
 refine ⟨by simp; omega,?_,h3.snoc (.inr ⟨by omega,by omega,by omega,by omega,fun k=>by omega⟩),by simp; omega⟩
 rw [List.take_append_of_le_length (by omega)]
 exact h2
theorem okl_two {b:Nat} {out:List Ex} {p q:Pl} {e:List Ex × Pl} {x:Ex} (hb:b < out.length) (hc:Cl b out) (h:Okx out q e) (hq:p.a + 1 ≤ q.a) (hx:6 ≤ x.op ∧ x.op ≤ 16) (ha:x.a=(out.length:Int) - 1) (hbx:x.b=(e.1.length:Int) - 1):Okl b out p (e.1 ++ [x],e.2):=by
 obtain ⟨h1,h2,h3,h4⟩:=h
 refine ⟨by simp; omega,?_,(hc.join h3 h2 (by omega)).snoc (.inr ⟨by omega,by omega,by omega,by omega,fun k=>by omega⟩),by simp; omega⟩
 rw [List.take_append_of_le_length (by omega)]
 have h5:=congrArg (List.take b) h2
 rw [List.take_take,Nat.min_eq_left (by omega)] at h5
 exact h5
theorem okl_trans {b:Nat} {out:List Ex} {p:Pl} {r s:List Ex × Pl} (h:Okl b out p r) (k:Okl b r.1 r.2 s):Okl b out p s :=
 ⟨Nat.le_trans h.1 k.1,k.2.1.trans h.2.1,k.2.2.1,by have:=h.2.2.2; have:=k.2.2.2; omega⟩
theorem okx_okl {out:List Ex} {p:Pl} {r s:List Ex × Pl} (h:Okx out p r) (k:Okl out.length r.1 r.2 s):Okx out p s :=
 ⟨Nat.lt_of_lt_of_le h.1 k.1,k.2.1.trans h.2.1,k.2.2.1,by have:=h.2.2.2; have:=k.2.2.2; omega⟩
theorem moved_op (x:Ex) (d:Int):(movedE x d).op=x.op:=by
 unfold movedE
 split <;> rfl
theorem turned_len {l:List Ex} {f m:Nat} (hf:f ≤ m) (hm:m ≤ l.length):(turnedE l f m).length=l.length:=by
 unfold turnedE
 simp only [List.length_append,List.length_take,List.length_map,List.length_drop]
 omega
theorem turned_take {l:List Ex} {f m:Nat} (hf:f ≤ m) (hm:m ≤ l.length):(turnedE l f m).take f=l.take f:=by
 unfold turnedE
 rw [List.append_assoc,List.take_append_of_le_length (by rw [List.length_take]; omega),List.take_take,Nat.min_self]
theorem turned_lo {l:List Ex} {f m n:Nat} (hf:f ≤ m) (hm:m ≤ l.length) (hn:f ≤ n) (h2:n < f + (l.length - m)):(turnedE l f m)[n]? = (l[n + (m - f)]?).map (fun x=>movedE x ((f:Int) - m)):=by
 unfold turnedE
 have h0:(l.take f).length=f:=by rw [List.length_take]; omega
 have h1:(l.take f ++ (l.drop m).map (fun x=>movedE x ((f:Int) - m))).length=f + (l.length - m):=by
  rw [List.length_append,h0,List.length_map,List.length_drop]
 rw [List.getElem?_append_left (by rw [h1]; exact h2),List.getElem?_append_right (by rw [h0]; exact hn),h0,List.getElem?_map,List.getElem?_drop,show m + (n - f)=n + (m - f) by omega]
theorem turned_hi {l:List Ex} {f m n:Nat} (hf:f ≤ m) (hm:m ≤ l.length) (h1:f + (l.length - m) ≤ n) (h2:n < l.length):(turnedE l f m)[n]? = (l[n - (l.length - m)]?).map (fun x=>movedE x ((l.length:Int) - m)):=by
 unfold turnedE
 have h0:(l.take f).length=f:=by rw [List.length_take]; omega
 have h3:(l.take f ++ (l.drop m).map (fun x=>movedE x ((f:Int) - m))).length=f + (l.length - m):=by
  rw [List.length_append,h0,List.length_map,List.length_drop]
 rw [List.getElem?_append_right (by rw [h3]; exact h1),h3,List.getElem?_map,List.getElem?_take,if_pos (by omega),List.getElem?_drop,show f + (n - (f + (l.length - m)))=n - (l.length - m) by omega]
theorem moved_cl {f g n:Nat} {d:Int} {x:Ex} (hd:(g:Int) + d=f) (h:(x.op=1 ∨ x.op=17) ∨ (4 ≤ x.op ∧ x.op ≤ 16 ∧ (g:Int) ≤ x.a ∧ x.a < n ∧ (5 < x.op → (g:Int) ≤ x.b ∧ x.b < n))) {k:Nat} (hk:(n:Int) + d=k) :
  ((movedE x d).op=1 ∨ (movedE x d).op=17) ∨ (4 ≤ (movedE x d).op ∧ (movedE x d).op ≤ 16 ∧ (f:Int) ≤ (movedE x d).a ∧ (movedE x d).a < k ∧ (5 < (movedE x d).op → (f:Int) ≤ (movedE x d).b ∧ (movedE x d).b < k)):=by
 rw [moved_op]
 rcases h with h | ⟨h1,h2,h3,h4,h5⟩
 ·exact .inl h
 ·have e:movedE x d=⟨x.op,x.a + d,if 5 < x.op then x.b + d else x.b,x.n,x.v,x.l,x.c⟩:=by
   unfold movedE
   rw [if_pos ⟨h1,h2⟩]
  rw [e]
  refine .inr ⟨h1,h2,by show (f:Int) ≤ x.a + d; omega,by show x.a + d < k; omega,fun k5=>?_⟩
  show (f:Int) ≤ (if 5 < x.op then x.b + d else x.b) ∧ (if 5 < x.op then x.b + d else x.b) < k
  rw [if_pos k5]
  have:=h5 k5
  omega
theorem turned_cl {l:List Ex} {f m:Nat} (hf:f ≤ m) (hm:m ≤ l.length) (h1:Cl f (l.take m)) (h2:Cl m l):Cl f (turnedE l f m):=fun n x hn hx=>by
 have hl:=(List.getElem?_eq_some_iff.1 hx).1
 rw [turned_len hf hm] at hl
 by_cases k:n < f + (l.length - m)
 ·rw [turned_lo hf hm hn k] at hx
  obtain ⟨y,hy,rfl⟩:=Option.map_eq_some_iff.1 hx
  exact moved_cl (by omega) (h2 (n + (m - f)) y (by omega) hy) (by omega)
 ·rw [turned_hi hf hm (by omega) hl] at hx
  obtain ⟨y,hy,rfl⟩:=Option.map_eq_some_iff.1 hx
  have hy2:(l.take m)[n - (l.length - m)]? = some y:=by rw [List.getElem?_take,if_pos (by omega)]; exact hy
  rcases h1 (n - (l.length - m)) y (by omega) hy2 with c | ⟨c1,c2,c3,c4,c5⟩
  ·exact .inl (by rw [moved_op]; exact c)
  ·have e:movedE y ((l.length:Int) - m)=⟨y.op,y.a + ((l.length:Int) - m),if 5 < y.op then y.b + ((l.length:Int) - m) else y.b,y.n,y.v,y.l,y.c⟩:=by
    unfold movedE
    rw [if_pos ⟨c1,c2⟩]
   rw [e]
   refine .inr ⟨c1,c2,by show (f:Int) ≤ y.a + _; omega,by show y.a + _ < (n:Int); omega,fun k5=>?_⟩
   show (f:Int) ≤ (if 5 < y.op then y.b + ((l.length:Int) - m) else y.b) ∧ (if 5 < y.op then y.b + ((l.length:Int) - m) else y.b) < n
   rw [if_pos k5]
   have:=c5 k5
   omega
theorem cmp_ok {M:List Tk} {out:List Ex} {p:Pl} {e1 e2:List Ex × Pl} {op:Nat} (h1:Okx out p e1) (h2:Okx e1.1 (skipP e1.2) e2) (hop:(6 ≤ op ∧ op ≤ 16) ∨ (106 ≤ op ∧ op ≤ 116)) (he:(cmpP M e1.2 out.length e1.1.length op e2).2.er=0) :
  Okx out p (cmpP M e1.2 out.length e1.1.length op e2):=by
 obtain ⟨a1,a2,a3,a4⟩:=h1
 obtain ⟨b1,b2,b3,b4⟩:=h2
 have hsk:(skipP e1.2).a=e1.2.a + 1:=rfl
 unfold cmpP at he ⊢
 have hr:e2.2.er=0:=by
  by_cases k:e2.2.er=0
  ·exact k
  ·rw [if_neg k] at he
   exact he
 rw [if_pos hr] at he ⊢
 have ht:e2.1.take out.length=out:=by
  have h5:=congrArg (List.take out.length) b2
  rw [List.take_take,Nat.min_eq_left (by omega)] at h5
  rw [h5]
  exact a2
 have hcl:Cl out.length e2.1:=a3.join b3 b2 (by omega)
 by_cases hg:100 < op
 ·rw [if_pos hg] at he ⊢
  obtain ⟨_,x,x1,x2,x3,e,_⟩:=node_ok he
  rw [e]
  have hl:=turned_len (l:=e2.1) (f:=out.length) (m:=e1.1.length) (by omega) (by omega)
  have hc:=turned_cl (l:=e2.1) (f:=out.length) (m:=e1.1.length) (by omega) (by omega) (by rw [b2]; exact a3) b3
  have hk:=turned_take (l:=e2.1) (f:=out.length) (m:=e1.1.length) (by omega) (by omega)
  refine ⟨by simp [hl]; omega,?_,hc.snoc (.inr ⟨by omega,by omega,by rw [x2]; omega,by rw [x2,hl]; omega,fun _=>by rw [x3,hl]; omega⟩),by simp [hl]; omega⟩
  show (turnedE e2.1 out.length e1.1.length ++ [x]).take out.length=out
  rw [List.take_append_of_le_length (by rw [hl]; omega),hk,ht]
 ·rw [if_neg hg] at he ⊢
  obtain ⟨_,x,x1,x2,x3,e,_⟩:=node_ok he
  rw [e]
  refine ⟨by simp; omega,?_,hcl.snoc (.inr ⟨by omega,by omega,by omega,by omega,fun _=>by omega⟩),by simp; omega⟩
  show (e2.1 ++ [x]).take out.length=out
  rw [List.take_append_of_le_length (by omega),ht]
theorem firstOp_mem {M:List Tk} {p:Pl}:∀ (L:List (List UInt8 × Nat)),firstOp M p L ≠ 0 → firstOp M p L ∈ L.map Prod.snd
 | [],h=>absurd rfl h
 | (s,o) :: r,h=>by
  unfold firstOp at h ⊢
  by_cases k:isP M p s=true
  ·rw [if_pos k]
   simp
  ·rw [if_neg k] at h ⊢
   exact List.mem_cons_of_mem _ (firstOp_mem r h)
theorem plus_op {M:List Tk} {p:Pl} (h:firstOp M p plusS ≠ 0):firstOp M p plusS=8 ∨ firstOp M p plusS=9:=by
 have:=firstOp_mem _ h
 simpa [plusS] using this
theorem times_op {M:List Tk} {p:Pl} (h:firstOp M p timesS ≠ 0):firstOp M p timesS=10 ∨ firstOp M p timesS=11 ∨ firstOp M p timesS=12:=by
 have:=firstOp_mem _ h
 simpa [timesS] using this
theorem cmp_op {M:List Tk} {p:Pl} (h:firstOp M p cmpS ≠ 0):(6 ≤ firstOp M p cmpS ∧ firstOp M p cmpS ≤ 16) ∨ (106 ≤ firstOp M p cmpS ∧ firstOp M p cmpS ≤ 116):=by
 have h2:firstOp M p cmpS ∈ [13,14,15,16,115,116]:=firstOp_mem _ h
 simp only [List.mem_cons,List.not_mem_nil,or_false] at h2
 omega
def joinL (lv:Nat):Prop:=lv=1 ∨ lv=3 ∨ lv=7 ∨ lv=9
def OkP (lv:Nat) (out:List Ex) (p:Pl) (r:List Ex × Pl):Prop:=(joinL lv → ∀ b,b < out.length → Cl b out → Okl b out p r) ∧ (¬ joinL lv → Okx out p r)
theorem okl_refl {b:Nat} {out:List Ex} {p:Pl} (hc:Cl b out):Okl b out p (out,p):=⟨Nat.le_refl _,rfl,hc,Nat.le_refl _⟩
theorem expr_ok (M:List Tk):∀ (n lv:Nat) (p:Pl) (out:List Ex),needP M lv p ≤ n → (exprP M n lv p out).2.er=0 → OkP lv out p (exprP M n lv p out):=by
 intro n
 induction n with
 | zero =>
  intro lv p out hn
  have:=rank_pos lv
  unfold needP at hn
  omega
 | succ k ih =>
  intro lv p out hn he
  have h1:=rank_pos lv
  have L:∀ (lv':Nat) (p':Pl) (o:List Ex),needP M lv' p' < needP M lv p → muP M (exprP M k lv' p' o).2 ≤ muP M p':=fun lv' p' o h=>(fuel_enough M k lv' p' o (by omega)).1
  have X:∀ (lv':Nat) (p':Pl) (o:List Ex),needP M lv' p' < needP M lv p → ¬ joinL lv' → (exprP M k lv' p' o).2.er=0 → Okx o p' (exprP M k lv' p' o):=fun lv' p' o h hj e=>(ih lv' p' o (by omega) e).2 hj
  have J:∀ (lv':Nat) (p':Pl) (o:List Ex),needP M lv' p' < needP M lv p → joinL lv' → (exprP M k lv' p' o).2.er=0 → ∀ b,b < o.length → Cl b o → Okl b o p' (exprP M k lv' p' o):=fun lv' p' o h hj e=>(ih lv' p' o (by omega) e).1 hj
  have hsk:∀ s,isP M p s=true → ∀ lv',needP M lv' (skipP p) < needP M lv p:=fun s hs lv'=>by
   have:=mu_skip hs
   have:=rank_le lv'
   unfold needP
   omega
  have hop:∀ s,isP M p s=true → ∀ lv',needP M lv' (openP M p) < needP M lv p:=fun s hs lv'=>by
   have:=mu_open hs
   have:=rank_le lv'
   unfold needP
   omega
  have e0:rankP 0=12:=rfl
  have e1:rankP 1=11:=rfl
  have e2:rankP 2=10:=rfl
  have e3:rankP 3=9:=rfl
  have e4:rankP 4=8:=rfl
  have e5:rankP 5=7:=rfl
  have e6:rankP 6=6:=rfl
  have e7:rankP 7=5:=rfl
  have e8:rankP 8=4:=rfl
  have e9:rankP 9=3:=rfl
  have e10:rankP 10=2:=rfl
  have e11:rankP 11=1:=rfl
  have hlv:lv=0 ∨ lv=1 ∨ lv=2 ∨ lv=3 ∨ lv=4 ∨ lv=5 ∨ lv=6 ∨ lv=7 ∨ lv=8 ∨ lv=9 ∨ lv=10 ∨ 11 ≤ lv:=by omega
  rcases hlv with rfl | rfl | rfl | rfl | rfl | rfl | rfl | rfl | rfl | rfl | rfl | h11
  ·refine ⟨fun h=>absurd h (by unfold joinL; omega),fun _=>?_⟩
   rw [exprP_0] at he ⊢
   have hl:=L 2 p out (by unfold needP; omega)
   have x:=X 2 p out (by unfold needP; omega) (by unfold joinL; omega) ((ge_expr M k 1 _ _).2 he)
   exact okx_okl x (J 1 _ _ (by unfold needP; omega) (by unfold joinL; omega) he _ x.1 x.2.2.1)
  ·refine ⟨fun _ b hb hc=>?_,fun h=>absurd (by unfold joinL; omega) h⟩
   rw [exprP_1] at he ⊢
   by_cases h:isP M p kwOr=true
   ·rw [if_pos h] at he ⊢
    have hnd:=(ge_expr M k 1 _ _).2 he
    obtain ⟨he2,x,x1,x2,x3,e,_⟩:=node_ok hnd
    have hl:=L 2 (skipP p) out (hsk _ h 2)
    have hm:=mu_skip h
    have hx:=X 2 (skipP p) out (hsk _ h 2) (by unfold joinL; omega) he2
    rw [e] at he ⊢
    have hj:=okl_two (x:=x) hb hc hx (Nat.le_refl _) (by rw [x1]; omega) x2 x3
    exact okl_trans hj (J 1 _ _ (by show needP M 1 (exprP M k 2 (skipP p) out).2 < _; unfold needP; omega) (by unfold joinL; omega) he b (by have:=hj.1; omega) hj.2.2.1)
   ·rw [if_neg h] at he ⊢
    exact okl_refl hc
  ·refine ⟨fun h=>absurd h (by unfold joinL; omega),fun _=>?_⟩
   rw [exprP_2] at he ⊢
   have hl:=L 4 p out (by unfold needP; omega)
   have x:=X 4 p out (by unfold needP; omega) (by unfold joinL; omega) ((ge_expr M k 3 _ _).2 he)
   exact okx_okl x (J 3 _ _ (by unfold needP; omega) (by unfold joinL; omega) he _ x.1 x.2.2.1)
  ·refine ⟨fun _ b hb hc=>?_,fun h=>absurd (by unfold joinL; omega) h⟩
   rw [exprP_3] at he ⊢
   by_cases h:isP M p kwAnd=true
   ·rw [if_pos h] at he ⊢
    have hnd:=(ge_expr M k 3 _ _).2 he
    obtain ⟨he2,x,x1,x2,x3,e,_⟩:=node_ok hnd
    have hl:=L 4 (skipP p) out (hsk _ h 4)
    have hm:=mu_skip h
    have hx:=X 4 (skipP p) out (hsk _ h 4) (by unfold joinL; omega) he2
    rw [e] at he ⊢
    have hj:=okl_two (x:=x) hb hc hx (Nat.le_refl _) (by rw [x1]; omega) x2 x3
    exact okl_trans hj (J 3 _ _ (by show needP M 3 (exprP M k 4 (skipP p) out).2 < _; unfold needP; omega) (by unfold joinL; omega) he b (by have:=hj.1; omega) hj.2.2.1)
   ·rw [if_neg h] at he ⊢
    exact okl_refl hc
  ·refine ⟨fun h=>absurd h (by unfold joinL; omega),fun _=>?_⟩
   rw [exprP_4] at he ⊢
   by_cases h:isP M p kwNot=true
   ·rw [if_pos h] at he ⊢
    obtain ⟨he2,x,x1,x2,x3,e,_⟩:=node_ok he
    rw [e]
    have he3:(exprP M k 4 (openP M p) out).2.er=0:=he2
    have hx:=X 4 (openP M p) out (hop _ h 4) (by unfold joinL; omega) he3
    have ho:=open_ok ((ge_expr M k 4 _ _).2 he3)
    exact okx_one hx (by omega) (Nat.le_refl _) (by rw [x1]; omega) x2
   ·rw [if_neg h] at he ⊢
    exact X 5 p out (by unfold needP; omega) (by unfold joinL; omega) he
  ·refine ⟨fun h=>absurd h (by unfold joinL; omega),fun _=>?_⟩
   rw [exprP_5] at he ⊢
   have hl:=L 6 p out (by unfold needP; omega)
   by_cases h:firstOp M (exprP M k 6 p out).2 cmpS=0
   ·rw [if_pos h] at he ⊢
    exact X 6 p out (by unfold needP; omega) (by unfold joinL; omega) he
   ·rw [if_neg h] at he ⊢
    obtain ⟨ss,hs⟩:=firstOp_some _ h
    have hm:=mu_skip hs
    have h6:=(ge_cmp M _ _ _ _ _).2 he
    have h7:=(ge_expr M k 6 _ _).2 h6
    exact cmp_ok (X 6 p out (by unfold needP; omega) (by unfold joinL; omega) h7) (X 6 _ _ (by unfold needP; omega) (by unfold joinL; omega) h6) (cmp_op h) he
  ·refine ⟨fun h=>absurd h (by unfold joinL; omega),fun _=>?_⟩
   rw [exprP_6] at he ⊢
   have hl:=L 8 p out (by unfold needP; omega)
   have x:=X 8 p out (by unfold needP; omega) (by unfold joinL; omega) ((ge_expr M k 7 _ _).2 he)
   exact okx_okl x (J 7 _ _ (by unfold needP; omega) (by unfold joinL; omega) he _ x.1 x.2.2.1)
  ·refine ⟨fun _ b hb hc=>?_,fun h=>absurd (by unfold joinL; omega) h⟩
   rw [exprP_7] at he ⊢
   by_cases h:¬ firstOp M p plusS=0
   ·rw [if_neg h] at he ⊢
    obtain ⟨ss,hs⟩:=firstOp_some _ h
    have ho:=plus_op h
    have hnd:=(ge_expr M k 7 _ _).2 he
    obtain ⟨he2,x,x1,x2,x3,e,_⟩:=node_ok hnd
    have hl:=L 8 (skipP p) out (hsk ss hs 8)
    have hm:=mu_skip hs
    have hx:=X 8 (skipP p) out (hsk ss hs 8) (by unfold joinL; omega) he2
    rw [e] at he ⊢
    have hj:=okl_two (x:=x) hb hc hx (Nat.le_refl _) (by rw [x1]; omega) x2 x3
    exact okl_trans hj (J 7 _ _ (by show needP M 7 (exprP M k 8 (skipP p) out).2 < _; unfold needP; omega) (by unfold joinL; omega) he b (by have:=hj.1; omega) hj.2.2.1)
   ·rw [if_pos (Decidable.not_not.1 h)] at he ⊢
    exact okl_refl hc
  ·refine ⟨fun h=>absurd h (by unfold joinL; omega),fun _=>?_⟩
   rw [exprP_8] at he ⊢
   have hl:=L 10 p out (by unfold needP; omega)
   have x:=X 10 p out (by unfold needP; omega) (by unfold joinL; omega) ((ge_expr M k 9 _ _).2 he)
   exact okx_okl x (J 9 _ _ (by unfold needP; omega) (by unfold joinL; omega) he _ x.1 x.2.2.1)
  ·refine ⟨fun _ b hb hc=>?_,fun h=>absurd (by unfold joinL; omega) h⟩
   rw [exprP_9] at he ⊢
   by_cases h:¬ firstOp M p timesS=0
   ·rw [if_neg h] at he ⊢
    obtain ⟨ss,hs⟩:=firstOp_some _ h
    have ho:=times_op h
    have hnd:=(ge_expr M k 9 _ _).2 he
    obtain ⟨he2,x,x1,x2,x3,e,_⟩:=node_ok hnd
    have hl:=L 10 (skipP p) out (hsk ss hs 10)
    have hm:=mu_skip hs
    have hx:=X 10 (skipP p) out (hsk ss hs 10) (by unfold joinL; omega) he2
    rw [e] at he ⊢
    have hj:=okl_two (x:=x) hb hc hx (Nat.le_refl _) (by rw [x1]; omega) x2 x3
    exact okl_trans hj (J 9 _ _ (by show needP M 9 (exprP M k 10 (skipP p) out).2 < _; unfold needP; omega) (by unfold joinL; omega) he b (by have:=hj.1; omega) hj.2.2.1)
   ·rw [if_pos (Decidable.not_not.1 h)] at he ⊢
    exact okl_refl hc
  ·refine ⟨fun h=>absurd h (by unfold joinL; omega),fun _=>?_⟩
   rw [exprP_10] at he ⊢
   by_cases h:isP M p [45]=true
   ·rw [if_pos h] at he ⊢
    by_cases hv:(valueP M p).2.2=true
    ·rw [if_pos hv] at he ⊢
     obtain ⟨he2,x,x1,_,_,e,_⟩:=node_ok he
     rw [e]
     exact okx_leaf (.inl x1) (value_ok hv he2)
    ·rw [if_neg hv] at he ⊢
     obtain ⟨he2,x,x1,x2,x3,e,_⟩:=node_ok he
     rw [e]
     have he3:(exprP M k 10 (openP M p) out).2.er=0:=he2
     have hx:=X 10 (openP M p) out (hop _ h 10) (by unfold joinL; omega) he3
     have ho:=open_ok ((ge_expr M k 10 _ _).2 he3)
     exact okx_one hx (by omega) (Nat.le_refl _) (by rw [x1]; omega) x2
   ·rw [if_neg h] at he ⊢
    exact X 11 p out (by unfold needP; omega) (by unfold joinL; omega) he
  ·obtain ⟨d,rfl⟩:∃ d,lv=d + 11:=⟨lv - 11,by omega⟩
   refine ⟨fun h=>absurd h (by unfold joinL; omega),fun _=>?_⟩
   rw [exprP_11] at he ⊢
   by_cases h:isP M p [40]=true
   ·rw [if_pos h] at he ⊢
    have h2:(wantP M (exprP M k 0 (openP M p) out).2 [41]).er=0:=he
    have h3:=(ge_want M _ _).2 h2
    have ho:=open_ok ((ge_expr M k 0 _ _).2 h3)
    have hx:=X 0 (openP M p) out (hop _ h 0) (by unfold joinL; omega) h3
    have hg:=(ge_want M (exprP M k 0 (openP M p) out).2 [41]).1
    exact ⟨hx.1,hx.2.1,hx.2.2.1,by have:=hx.2.2.2; show (exprP M k 0 (openP M p) out).1.length + p.a ≤ out.length + (wantP M (exprP M k 0 (openP M p) out).2 [41]).a; omega⟩
   ·rw [if_neg h] at he ⊢
    split at he
    ·rename_i hn
     rw [if_pos hn]
     obtain ⟨_,x,x1,_,_,e,_⟩:=node_ok he
     rw [e]
     exact okx_leaf (.inr x1) (Nat.le_refl _)
    ·rename_i hn
     rw [if_neg hn]
     split at he
     ·rename_i hv
      rw [if_pos hv]
      obtain ⟨he2,x,x1,_,_,e,_⟩:=node_ok he
      rw [e]
      exact okx_leaf (.inl x1) (value_ok hv.1 he2)
     ·exact absurd he (stop_no M p 16 (by decide))
end Go.Proofs.YtmknmmbfaljkbaaGreatDoor
