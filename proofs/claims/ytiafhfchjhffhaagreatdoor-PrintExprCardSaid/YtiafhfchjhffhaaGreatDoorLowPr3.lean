/- paclaim: PrRead PrAll PrTx PrSpec PrExprBack PrFew -/
import Derived.Test.YtiafhfchjhffhaaGreatDoorLowPr1
import Derived.Test.YtiafhfchjhffhaaGreatDoorLowEq
import Derived.Test.YtiafhfchjhffhaaGreatDoorLowPa3
namespace Go.Proofs.YtiafhfchjhffhaaGreatDoor
set_option linter.unusedVariables false
def At (M:List Tk) (a:Nat) (ts:List Tx):Prop:=(M.drop a).map txOf=ts
theorem at_cons {M:List Tk} {a:Nat} {x:Tx} {ts:List Tx} (h:At M a (x :: ts)):a < M.length ∧ txOf (tkAt M a)=x ∧ At M (a + 1) ts:=by
 unfold At at h ⊢
 have hl:a < M.length:=by
  by_cases k:a < M.length
  ·exact k
  ·rw [List.drop_eq_nil_of_le (by omega)] at h; cases h
 rw [List.drop_eq_getElem_cons hl,List.map_cons,List.cons.injEq] at h
 refine ⟨hl,?_,h.2⟩
 unfold tkAt
 rw [List.getD,List.getElem?_eq_getElem hl]
 exact h.1
theorem at_app {M:List Tk}:∀ {xs ts:List Tx} {a:Nat},At M a (xs ++ ts) → At M (a + xs.length) ts
 | [],ts,a,h=>h
 | x :: xs,ts,a,h=>by
  have h2:=at_app (at_cons h).2.2
  rw [List.length_cons]
  rwa [show a + (xs.length + 1)=a + 1 + xs.length by omega]
theorem at_nil {M:List Tk} {a:Nat} (h:At M a []):M.length ≤ a:=by
 unfold At at h
 rw [List.map_eq_nil_iff,List.drop_eq_nil_iff] at h
 exact h
def isX (x:Tx) (s:List UInt8):Bool:=(x.1 == 2 || x.1 == 5) && x.2 == s
theorem isP_x {M:List Tk} {p:Pl} {x:Tx} {ts:List Tx} (h0:p.er=0) (h:At M p.a (x :: ts)) (s:List UInt8):isP M p s=isX x s:=by
 obtain ⟨h1,h2,_⟩:=at_cons h
 have h3:M[p.a]? = some (tkAt M p.a):=by unfold tkAt; rw [List.getD,List.getElem?_eq_getElem h1]; rfl
 unfold isP
 rw [h0,h3,← h2]
 rfl
theorem isP_end {M:List Tk} {p:Pl} (h:At M p.a []) (s:List UInt8):isP M p s=false:=by
 cases e:isP M p s with
 | false=>rfl
 | true=>have:=(isP_some e).2; have:=at_nil h; omega
def opX (x:Tx):List (List UInt8 × Nat) → Nat
 | []=>0
 | (s,o) :: r=>if isX x s=true then o else opX x r
theorem first_x {M:List Tk} {p:Pl} {x:Tx} {ts:List Tx} (h0:p.er=0) (h:At M p.a (x :: ts)):∀ L,firstOp M p L=opX x L
 | []=>rfl
 | (s,o) :: r=>by rw [firstOp,opX,isP_x h0 h,first_x h0 h r]
theorem first_end {M:List Tk} {p:Pl} (h:At M p.a []):∀ L,firstOp M p L=0
 | []=>rfl
 | (s,o) :: r=>by rw [firstOp,isP_end h,if_neg (by decide),first_end h r]
def Stop (lv:Nat) (ts:List Tx):Prop:=∀ x,ts.head? = some x → (lv ≤ 1 → opX x (opsL 1)=0) ∧ (lv ≤ 3 → opX x (opsL 3)=0) ∧ (lv ≤ 5 → opX x cmpS=0) ∧ (lv ≤ 7 → opX x (opsL 7)=0) ∧ (lv ≤ 9 → opX x (opsL 9)=0)
theorem Stop.mono {lv lv':Nat} {ts:List Tx} (h:Stop lv ts) (hl:lv ≤ lv'):Stop lv' ts:=fun x hx=>by
 obtain ⟨h1,h2,h3,h4,h5⟩:=h x hx
 exact ⟨fun k=>h1 (by omega),fun k=>h2 (by omega),fun k=>h3 (by omega),fun k=>h4 (by omega),fun k=>h5 (by omega)⟩
theorem stop_nil (lv:Nat):Stop lv []:=fun x h=>by cases h
theorem stop_of {x:Tx} (h:opX x (opsL 1)=0 ∧ opX x (opsL 3)=0 ∧ opX x cmpS=0 ∧ opX x (opsL 7)=0 ∧ opX x (opsL 9)=0) (lv:Nat) (ts:List Tx):Stop lv (x :: ts):=fun y hy=>by
 cases hy
 exact ⟨fun _=>h.1,fun _=>h.2.1,fun _=>h.2.2.1,fun _=>h.2.2.2.1,fun _=>h.2.2.2.2⟩
theorem first_stop {M:List Tk} {p:Pl} {ts:List Tx} {lv:Nat} (h0:p.er=0) (h:At M p.a ts) (hs:Stop lv ts) (hj:joinL (lv + 1)):firstOp M p (opsL (lv + 1))=0:=by
 cases ts with
 | nil=>exact first_end h _
 | cons x r =>
  rw [first_x h0 h]
  obtain ⟨h1,h2,h3,h4,h5⟩:=hs x rfl
  unfold joinL at hj
  have hc:lv=0 ∨ lv=2 ∨ lv=6 ∨ lv=8:=by omega
  rcases hc with rfl | rfl | rfl | rfl
  ·exact h1 (by omega)
  ·exact h2 (by omega)
  ·exact h4 (by omega)
  ·exact h5 (by omega)
def adP (p:Pl) (k:Nat):Pl:=⟨p.a + k,p.er,p.line,p.col,p.op⟩
theorem mu_ad {M:List Tk} {p:Pl} (h0:p.er=0) (k:Nat):muP M (adP p k)=M.length - (p.a + k) ∧ muP M p=M.length - p.a:=by
 unfold muP adP
 rw [if_pos h0,if_pos h0]
 exact ⟨rfl,rfl⟩
structure Got (e:Et) (c:Cx):Prop where
 ns:c.ns.map plE=e.post
 d:c.d=e.dep
def Rd (lv:Nat) (e:Et) (tk:List Tx) (o:Nat):Prop:=∀ (M:List Tk) (p:Pl) (ts:List Tx) (n:Nat),p.er=0 → p.op + (o:Int) ≤ 128 → At M p.a (tk ++ ts) → Stop lv ts → needP M lv p ≤ n → ∃ c,exprC M n lv p z0=(c,adP p tk.length) ∧ Got e c
def Jd (lv:Nat) (e:Et) (tk:List Tx) (o:Nat):Prop:=∀ (M:List Tk) (p:Pl) (ts:List Tx) (n:Nat),p.er=0 → p.op + (o:Int) ≤ 128 → At M p.a (tk ++ ts) → Stop (lv + 2) ts → needP M lv p ≤ n → ∃ c m,exprC M n lv p z0=exprC M m (lv + 1) (adP p tk.length) c ∧ needP M (lv + 1) (adP p tk.length) ≤ m ∧ Got e c
theorem ranks:rankP 0=12 ∧ rankP 1=11 ∧ rankP 2=10 ∧ rankP 3=9 ∧ rankP 4=8 ∧ rankP 5=7 ∧ rankP 6=6 ∧ rankP 7=5 ∧ rankP 8=4 ∧ rankP 9=3 ∧ rankP 10=2:=⟨rfl,rfl,rfl,rfl,rfl,rfl,rfl,rfl,rfl,rfl,rfl⟩
theorem jd_of_rd {lv:Nat} {e:Et} {tk:List Tx} {o:Nat} (hl:lv=0 ∨ lv=2 ∨ lv=6 ∨ lv=8) (h:Rd (lv + 2) e tk o):Jd lv e tk o:=fun M p ts n h0 ho ha hs hn=>by
 have hr:rankP (lv + 2) + 1 ≤ rankP lv ∧ rankP (lv + 1) + 1 ≤ rankP lv:=by rcases hl with rfl | rfl | rfl | rfl <;> decide
 obtain ⟨m1,m2⟩:=mu_ad (M:=M) h0 tk.length
 obtain ⟨k,rfl⟩:∃ k,n=k + 1:=⟨n - 1,by have:=rank_pos lv; unfold needP at hn; omega⟩
 obtain ⟨c,h1,h2⟩:=h M p ts k h0 ho ha hs (by unfold needP at hn ⊢; omega)
 refine ⟨c,k,?_,by unfold needP at hn ⊢; omega,h2⟩
 rw [exprC_up hl,h1]
theorem rd_of_jd {lv:Nat} {e:Et} {tk:List Tx} {o:Nat} (hl:lv=0 ∨ lv=2 ∨ lv=6 ∨ lv=8) (h:Jd lv e tk o):Rd lv e tk o:=fun M p ts n h0 ho ha hs hn=>by
 obtain ⟨c,m,h1,h2,h3⟩:=h M p ts n h0 ho ha (hs.mono (by omega)) hn
 obtain ⟨k,rfl⟩:∃ k,m=k + 1:=⟨m - 1,by have:=rank_pos (lv + 1); unfold needP at h2; omega⟩
 have hj:joinL (lv + 1):=by unfold joinL; omega
 refine ⟨c,?_,h3⟩
 rw [h1,exprC_end hj (first_stop (p:=adP p tk.length) h0 (at_app ha) hs hj)]
theorem rd_5 {e:Et} {tk:List Tx} {o:Nat} (h:Rd 6 e tk o):Rd 5 e tk o:=fun M p ts n h0 ho ha hs hn=>by
 obtain ⟨_,_,_,_,_,e5,e6,_⟩:=ranks
 obtain ⟨k,rfl⟩:∃ k,n=k + 1:=⟨n - 1,by unfold needP at hn; omega⟩
 obtain ⟨c,h1,h2⟩:=h M p ts k h0 ho ha (hs.mono (by omega)) (by unfold needP at hn ⊢; omega)
 refine ⟨c,?_,h2⟩
 have hf:firstOp M (adP p tk.length) cmpS=0:=by
  have hb:=at_app ha
  cases ts with
  | nil=>exact first_end (p:=adP p tk.length) hb _
  | cons x r=>rw [first_x (p:=adP p tk.length) h0 hb]; exact (hs x rfl).2.2.1 (by omega)
 rw [exprC_5,h1]
 unfold cmpC
 rw [if_pos hf]
theorem rd_4 {e:Et} {tk:List Tx} {o:Nat} (h:Rd 5 e tk o) (hh:∃ x r,tk=x :: r ∧ isX x kwNot=false):Rd 4 e tk o:=fun M p ts n h0 ho ha hs hn=>by
 obtain ⟨_,_,_,_,e4,e5,_⟩:=ranks
 obtain ⟨k,rfl⟩:∃ k,n=k + 1:=⟨n - 1,by unfold needP at hn; omega⟩
 obtain ⟨c,h1,h2⟩:=h M p ts k h0 ho ha (hs.mono (by omega)) (by unfold needP at hn ⊢; omega)
 refine ⟨c,?_,h2⟩
 obtain ⟨x,r,rfl,hx⟩:=hh
 have hi:isP M p kwNot=false:=by rw [isP_x h0 (show At M p.a (x :: (r ++ ts)) from ha)]; exact hx
 rw [exprC_4,h1]
 unfold notC
 rw [if_neg (by rw [hi]; decide)]
theorem within_ok' {p:Pl} {t:Tk} {o:Nat} (ho:p.op + ((o + 1:Nat):Int) ≤ 128):withinC (skipP p) t=⟨p.a + 1,p.er,p.line,p.col,p.op + 1⟩:=by
 unfold withinC
 rw [if_neg (by show ¬ 128 < p.op + 1; omega)]
 rfl
theorem rd_brk {e:Et} {tk:List Tx} {o:Nat} (h:Rd 0 e tk o):Rd 10 e (brk true tk) (o + 1):=fun M p ts n h0 ho ha hs hn=>by
 have hbt:brk true tk=(5,[40]) :: (tk ++ [(5,[41])]):=rfl
 rw [hbt] at ha ⊢
 have ha1:At M p.a ((5,[40]) :: (tk ++ ((5,[41]) :: ts))):=by
  rw [List.cons_append,List.append_assoc] at ha
  exact ha
 obtain ⟨hl,_,ha2⟩:=at_cons ha1
 obtain ⟨e0,_,_,_,_,_,_,_,_,_,e10⟩:=ranks
 obtain ⟨k,rfl⟩:∃ k,n=k + 1:=⟨n - 1,by unfold needP at hn; omega⟩
 obtain ⟨c,h1,h2⟩:=h M ⟨p.a + 1,p.er,p.line,p.col,p.op + 1⟩ ((5,[41]) :: ts) k h0 (by show p.op + 1 + (o:Int) ≤ 128; omega) ha2 (stop_of (by decide) _ _) (by
  have m1:muP M ⟨p.a + 1,p.er,p.line,p.col,p.op + 1⟩=M.length - (p.a + 1):=by unfold muP; rw [if_pos h0]
  have m2:=(mu_ad (M:=M) h0 0).2
  unfold needP at hn ⊢
  omega)
 refine ⟨c,?_,h2⟩
 have i45:isP M p [45]=false:=isP_x h0 ha1 _
 have i40:isP M p [40]=true:=isP_x h0 ha1 _
 have ha3:At M (p.a + 1 + tk.length) ((5,[41]) :: ts):=at_app ha2
 have i41:isP M ⟨p.a + 1 + tk.length,p.er,p.line,p.col,p.op + 1 - 1⟩ [41]=true:=isP_x (p:=⟨p.a + 1 + tk.length,p.er,p.line,p.col,p.op + 1 - 1⟩) h0 ha3 _
 rw [exprC_10]
 unfold unaryC
 rw [if_neg (fun k=>by rw [i45] at k; cases k.1),if_pos i40,within_ok' ho,h1]
 have hw:wantP M (shutP (adP ⟨p.a + 1,p.er,p.line,p.col,p.op + 1⟩ tk.length)) [41]=adP p (((5,[40]) :: (tk ++ [(5,[41])])).length):=by
  show wantP M ⟨p.a + 1 + tk.length,p.er,p.line,p.col,p.op + 1 - 1⟩ [41]=_
  unfold wantP
  rw [if_pos i41]
  unfold skipP adP
  simp only [List.length_cons,List.length_append,List.length_nil,Pl.mk.injEq,true_and]
  exact ⟨by omega,by omega⟩
 rw [hw]
theorem got_un {op:Int} {a:Et} {c:Cx} {t:Tk} (h:Got a c):Got (.un op a) ⟨c.ns ++ [opE t op],c.d + 1⟩:=⟨by rw [List.map_append,h.ns]; rfl,by show c.d + 1=_; rw [h.d]; rfl⟩
theorem got_bin {op:Int} {a b:Et} {c d:Cx} {t:Tk} (h:Got a c) (k:Got b d):Got (.bin op a b) ⟨c.ns ++ d.ns ++ [opE t op],max c.d d.d + 1⟩:=⟨by rw [List.map_append,List.map_append,h.ns,k.ns]; rfl,by show max c.d d.d + 1=_; rw [h.d,k.d]; rfl⟩
theorem pr_over1 {p:Pl} {t:Tk} {op:Int} {c:Cx} (h:c.d + 1 ≤ 64):overL p t op [c]=(⟨c.ns ++ [opE t op],c.d + 1⟩,p):=by
 have e:List.foldl (fun n c=>max n c.d) 0 [c]=c.d:=by simp
 unfold overL
 rw [e,if_neg (by omega)]
 simp
theorem pr_over2 {p:Pl} {t:Tk} {op:Int} {c d:Cx} (h:max c.d d.d + 1 ≤ 64):overL p t op [c,d]=(⟨c.ns ++ d.ns ++ [opE t op],max c.d d.d + 1⟩,p):=by
 have e:List.foldl (fun n c=>max n c.d) 0 [c,d]=max c.d d.d:=by simp
 unfold overL
 rw [e,if_neg (by omega)]
 simp
theorem need_one {M:List Tk} {p q:Pl} {lv lv' n:Nat} (h0:p.er=0) (hq:q.er=0) (hl:p.a < M.length) (ha:q.a=p.a + 1) (hn:needP M lv p ≤ n + 1):needP M lv' q ≤ n:=by
 have m1:muP M q=M.length - (p.a + 1):=by unfold muP; rw [if_pos hq,ha]
 have m2:=(mu_ad (M:=M) h0 0).2
 have:=rank_le lv'
 have:=rank_pos lv
 unfold needP at hn ⊢
 omega
theorem rd_neg {a:Et} {tk:List Tx} {o:Nat} (h:Rd 10 a tk o) (hd:a.dep + 1 ≤ 64) (hh:∃ x r,tk=x :: r ∧ x.1 ≠ 3):Rd 10 (.un 5 a) ((5,[45]) :: tk) (o + 1):=fun M p ts n h0 ho ha hs hn=>by
 have ha1:At M p.a ((5,[45]) :: (tk ++ ts)):=ha
 obtain ⟨hl,_,ha2⟩:=at_cons ha1
 have e10:rankP 10=2:=rfl
 obtain ⟨k,rfl⟩:∃ k,n=k + 1:=⟨n - 1,by unfold needP at hn; omega⟩
 obtain ⟨c,h1,h2⟩:=h M ⟨p.a + 1,p.er,p.line,p.col,p.op + 1⟩ ts k h0 (by show p.op + 1 + (o:Int) ≤ 128; omega) ha2 hs (need_one h0 h0 hl rfl hn)
 have i45:isP M p [45]=true:=isP_x h0 ha1 _
 have hk:(tkAt M (p.a + 1)).k ≠ 3:=by
  obtain ⟨x,r,rfl,hx⟩:=hh
  have e:=(at_cons (show At M (p.a + 1) (x :: (r ++ ts)) from ha2)).2.1
  intro k3
  exact hx (by rw [← e]; exact k3)
 refine ⟨⟨c.ns ++ [opE (tkAt M p.a) 5],c.d + 1⟩,?_,got_un h2⟩
 rw [exprC_10]
 unfold unaryC
 rw [if_pos ⟨i45,hk⟩,within_ok' ho,h1]
 show overL (shutP (adP ⟨p.a + 1,p.er,p.line,p.col,p.op + 1⟩ tk.length)) _ _ [c]=_
 rw [pr_over1 (by rw [h2.d]; exact hd)]
 have hw:shutP (adP ⟨p.a + 1,p.er,p.line,p.col,p.op + 1⟩ tk.length)=adP p (((5,[45]) :: tk).length):=by
  unfold shutP adP
  simp only [List.length_cons,Pl.mk.injEq,true_and]
  exact ⟨by omega,by omega⟩
 rw [hw]
theorem rd_not {a:Et} {tk:List Tx} {o:Nat} (h:Rd 4 a tk o) (hd:a.dep + 1 ≤ 64):Rd 4 (.un 4 a) ((2,kwNot) :: tk) (o + 1):=fun M p ts n h0 ho ha hs hn=>by
 have ha1:At M p.a ((2,kwNot) :: (tk ++ ts)):=ha
 obtain ⟨hl,_,ha2⟩:=at_cons ha1
 have e4:rankP 4=8:=rfl
 obtain ⟨k,rfl⟩:∃ k,n=k + 1:=⟨n - 1,by unfold needP at hn; omega⟩
 obtain ⟨c,h1,h2⟩:=h M ⟨p.a + 1,p.er,p.line,p.col,p.op + 1⟩ ts k h0 (by show p.op + 1 + (o:Int) ≤ 128; omega) ha2 hs (need_one h0 h0 hl rfl hn)
 have i45:isP M p kwNot=true:=isP_x h0 ha1 _
 refine ⟨⟨c.ns ++ [opE (tkAt M p.a) 4],c.d + 1⟩,?_,got_un h2⟩
 rw [exprC_4]
 unfold notC
 rw [if_pos i45,within_ok' ho,h1]
 show overL (shutP (adP ⟨p.a + 1,p.er,p.line,p.col,p.op + 1⟩ tk.length)) _ _ [c]=_
 rw [pr_over1 (by rw [h2.d]; exact hd)]
 have hw:shutP (adP ⟨p.a + 1,p.er,p.line,p.col,p.op + 1⟩ tk.length)=adP p (((2,kwNot) :: tk).length):=by
  unfold shutP adP
  simp only [List.length_cons,Pl.mk.injEq,true_and]
  exact ⟨by omega,by omega⟩
 rw [hw]
theorem ad_ad (p:Pl) (i j:Nat):adP (skipP (adP p i)) j=adP p (i + (j + 1)):=by
 unfold adP skipP
 simp only [Pl.mk.injEq,and_true]
 omega
theorem rd_cmp {op:Nat} {a b:Et} {ta tb:List Tx} {oa ob:Nat} {x:Tx} (ha:Rd 6 a ta oa) (hb:Rd 6 b tb ob) (hd:max a.dep b.dep + 1 ≤ 64) (hx:opX x cmpS=op) (h13:13 ≤ op ∧ op ≤ 16) (hs6:opX x (opsL 7)=0 ∧ opX x (opsL 9)=0):Rd 5 (.bin op a b) (ta ++ x :: tb) (max oa ob):=fun M p ts n h0 ho hat hs hn=>by
 rw [List.append_assoc,List.cons_append] at hat
 have e5:rankP 5=7:=rfl
 have e6:rankP 6=6:=rfl
 obtain ⟨k,rfl⟩:∃ k,n=k + 1:=⟨n - 1,by unfold needP at hn; omega⟩
 obtain ⟨c,h1,h2⟩:=ha M p (x :: (tb ++ ts)) k h0 (by omega) hat (fun y hy=>by
  cases hy
  exact ⟨fun k=>by omega,fun k=>by omega,fun k=>by omega,fun _=>hs6.1,fun _=>hs6.2⟩) (by unfold needP at hn ⊢; omega)
 have hat2:=at_app hat
 obtain ⟨hl,_,hat3⟩:=at_cons hat2
 have hf:firstOp M (adP p ta.length) cmpS=op:=by rw [first_x (p:=adP p ta.length) h0 hat2]; exact hx
 obtain ⟨d,h3,h4⟩:=hb M (skipP (adP p ta.length)) ts k h0 (by show p.op + (ob:Int) ≤ 128; omega) hat3 (hs.mono (by omega)) (by
  have m1:muP M (skipP (adP p ta.length))=M.length - (p.a + ta.length + 1):=by unfold muP; rw [if_pos (show (skipP (adP p ta.length)).er=0 from h0)]; rfl
  have m2:=(mu_ad (M:=M) h0 0).2
  unfold needP at hn ⊢
  omega)
 refine ⟨⟨c.ns ++ d.ns ++ [opE (tkAt M (adP p ta.length).a) op],max c.d d.d + 1⟩,?_,got_bin h2 h4⟩
 rw [exprC_5,h1]
 unfold cmpC
 rw [if_neg (by rw [hf]; omega),if_neg (by rw [hf]; omega),hf,h3]
 show overL (adP (skipP (adP p ta.length)) tb.length) _ _ [c,d]=_
 rw [pr_over2 (by rw [h2.d,h4.d]; exact hd),ad_ad,List.length_append,List.length_cons]
theorem jd_more {lv op:Nat} {a b:Et} {ta tb:List Tx} {oa ob:Nat} {x:Tx} (hl:lv=0 ∨ lv=2 ∨ lv=6 ∨ lv=8) (ha:Jd lv a ta oa) (hb:Rd (lv + 2) b tb ob) (hd:max a.dep b.dep + 1 ≤ 64) (hx:opX x (opsL (lv + 1))=op) (hop:op ≠ 0) (hst:∀ ts,Stop (lv + 2) (x :: ts)):Jd lv (.bin op a b) (ta ++ x :: tb) (max oa ob):=fun M p ts n h0 ho hat hs hn=>by
 rw [List.append_assoc,List.cons_append] at hat
 obtain ⟨c,m,h1,h2,h3⟩:=ha M p (x :: (tb ++ ts)) n h0 (by omega) hat (hst _) hn
 obtain ⟨k,rfl⟩:∃ k,m=k + 1:=⟨m - 1,by have:=rank_pos (lv + 1); unfold needP at h2; omega⟩
 have hat2:=at_app hat
 obtain ⟨hlt,_,hat3⟩:=at_cons hat2
 have hj:joinL (lv + 1):=by unfold joinL; omega
 have hf:firstOp M (adP p ta.length) (opsL (lv + 1))=op:=by rw [first_x (p:=adP p ta.length) h0 hat2]; exact hx
 have m1:muP M (skipP (adP p ta.length)) + 1=muP M (adP p ta.length):=by
  rw [(mu_ad (M:=M) h0 ta.length).1]
  unfold muP
  rw [if_pos (show (skipP (adP p ta.length)).er=0 from h0)]
  show M.length - (p.a + ta.length + 1) + 1=_
  omega
 obtain ⟨d,h4,h5⟩:=hb M (skipP (adP p ta.length)) ts k h0 (by show p.op + (ob:Int) ≤ 128; omega) hat3 hs (by
  have:=rank_le (lv + 2)
  have:=rank_pos (lv + 1)
  unfold needP at h2 ⊢
  omega)
 refine ⟨⟨c.ns ++ d.ns ++ [opE (tkAt M (adP p ta.length).a) op],max c.d d.d + 1⟩,k,?_,?_,got_bin h3 h5⟩
 ·rw [h1,exprC_more hj (by rw [hf]; exact hop),h4,hf]
  show exprC M k (lv + 1) (overL (adP (skipP (adP p ta.length)) tb.length) _ _ [c,d]).2 (overL (adP (skipP (adP p ta.length)) tb.length) _ _ [c,d]).1=_
  rw [pr_over2 (by rw [h3.d,h5.d]; exact hd),ad_ad,List.length_append,List.length_cons]
 ·have m2:=(mu_ad (M:=M) h0 (ta ++ x :: tb).length).1
  have m3:=(mu_ad (M:=M) h0 ta.length).1
  rw [List.length_append,List.length_cons] at m2 ⊢
  unfold needP at h2 ⊢
  omega
theorem peek_x {M:List Tk} {p:Pl} (h0:p.er=0):peekC M p=tkAt M p.a:=by unfold peekC; rw [if_pos h0]
theorem leaf_go {M:List Tk} {p:Pl} {n:Nat} (hn:needP M 10 p ≤ n):∃ k,n=k + 1:=⟨n - 1,by have:rankP 10=2:=rfl; unfold needP at hn; omega⟩
theorem rd_nam {n:ByteArray} (hn:nameB n=true):Rd 10 (.nam n) (Et.nam n).tk 0:=fun M p ts m h0 ho ha hs hm=>by
 have ha1:At M p.a ((1,n.data.toList) :: ts):=ha
 obtain ⟨hl,hx,ha2⟩:=at_cons ha1
 obtain ⟨k,rfl⟩:=leaf_go hm
 have i45:isP M p [45]=false:=isP_x h0 ha1 _
 have i40:isP M p [40]=false:=isP_x h0 ha1 _
 have hk:(tkAt M p.a).k=1:=congrArg Prod.fst hx
 have ht:(tkAt M p.a).t=n.data.toList:=congrArg Prod.snd hx
 have hne:n.data.toList ≠ [95]:=fun e=>by
  unfold nameB at hn
  rw [Bool.and_eq_true,Bool.and_eq_true] at hn
  have h95:lineB n=true:=by
   unfold lineB isT
   rw [show n=⟨#[95]⟩ from by cases n with | mk d=>rw [show d=#[95] from by rw [← Array.toArray_toList (xs:=d)]; exact congrArg List.toArray e]]
   exact isT_refl _
  rw [h95] at hn
  exact absurd hn.2.2 (by decide)
 have hnm:isNameT (peekC M p)=true:=by
  rw [peek_x h0]
  unfold isNameT
  rw [hk,ht]
  simp [hne]
 refine ⟨leafC (peekC M p) 17 (peekC M p).t v0,?_,?_⟩
 ·rw [exprC_10]
  unfold unaryC
  rw [if_neg (fun k=>by rw [i45] at k; cases k.1),if_neg (by rw [i40]; decide),if_pos hnm]
  rfl
 ·refine ⟨?_,rfl⟩
  rw [peek_x h0]
  show [plE (leafE (tkAt M p.a) 17 (tkAt M p.a).t v0)]=_
  unfold leafE plE
  rw [ht]
  rfl
theorem dec_48 {u:Nat} (h:Lib.decDigits u=[48]):u=0:=by
 have:=dv_dec u
 rw [h] at this
 exact this.symm
theorem number_is {i:Int} (h1:-9223372036854775808 ≤ i) (h2:i ≤ 9223372036854775807):pn (Lib.itoa i)=i ∧ pe (Lib.itoa i)=0:=by
 obtain ⟨h3,h4⟩:=itoa_form i
 unfold pn pe
 rw [if_pos h3,if_pos h3,h4,tn_yes h1 h2,if_pos (by unfold tb; exact decide_eq_true ⟨h1,h2⟩)]
 exact ⟨rfl,rfl⟩
theorem val_read {M:List Tk} {p:Pl} {ts:List Tx} {v:Vd} (hv:vOk v) (h0:p.er=0) (ha:At M p.a (valTk v ++ ts)) :
  valueC M p=(v,adP p (valTk v).length) ∧ ¬ (isP M p [45]=true ∧ (tkAt M (p.a + 1)).k ≠ 3) ∧ isP M p [40]=false ∧ isNameT (peekC M p)=false:=by
 obtain ⟨hr,h1,h2⟩:=hv
 have hrb:rightB v.k v.i v.s v.b=true:=hr
 obtain ⟨k,i,s,b⟩:=v
 have hs:∀ t:ByteArray,t.toList=[] → t=⟨#[]⟩:=fun t e=>by
  have e2:t.toList=(⟨#[]⟩:ByteArray).toList:=by rw [e,none_list]
  exact (tl_eq _ _).1 e2
 rcases right_cases hrb with ⟨hk,hs0,hb⟩ | ⟨hk,hi,hb⟩ | ⟨hk,hi,hs0⟩
 ·have hk:k=1:=hk
  have hb:b=false:=hb
  have hs1:s=⟨#[]⟩:=hs s hs0
  clear hs0
  subst hk hb hs1
  obtain ⟨n1,n2⟩:=number_is h1 h2
  by_cases hn:i < 0
  ·have e:valTk ⟨1,i,⟨#[]⟩,false⟩=[(5,[45]),(3,Lib.decDigits i.natAbs)]:=by unfold valTk; rw [if_pos rfl,if_pos hn]
   rw [e] at ha ⊢
   have ha1:At M p.a ((5,[45]) :: (3,Lib.decDigits i.natAbs) :: ts):=ha
   obtain ⟨hl,hx,ha2⟩:=at_cons ha1
   obtain ⟨hl2,hx2,ha3⟩:=at_cons ha2
   have i45:isP M p [45]=true:=isP_x h0 ha1 _
   have i40:isP M p [40]=false:=isP_x h0 ha1 _
   have hk2:(tkAt M (p.a + 1)).k=3:=congrArg Prod.fst hx2
   have ht2:(tkAt M (p.a + 1)).t=Lib.decDigits i.natAbs:=congrArg Prod.snd hx2
   have hk1:(tkAt M p.a).k=5:=congrArg Prod.fst hx
   refine ⟨?_,fun k=>k.2 hk2,i40,?_⟩
   ·have hp:peekC M (skipP p)=tkAt M (p.a + 1):=peek_x (p:=skipP p) h0
    have hm:minusT true (tkAt M (p.a + 1)).t=Lib.itoa i:=by
     unfold minusT
     rw [ht2,if_pos ⟨rfl,fun e=>by have:=dec_48 e; omega⟩]
     unfold Lib.itoa
     rw [if_pos hn]
    unfold valueC valueC1
    rw [if_pos i45,hp,if_pos hk2]
    unfold numberC
    rw [hp,hm,n1,n2,if_neg (by decide)]
    rfl
   ·rw [peek_x h0]
    unfold isNameT
    rw [hk1]; rfl
  ·have e:valTk ⟨1,i,⟨#[]⟩,false⟩=[(3,Lib.decDigits i.toNat)]:=by unfold valTk; rw [if_pos rfl,if_neg hn]
   rw [e] at ha ⊢
   have ha1:At M p.a ((3,Lib.decDigits i.toNat) :: ts):=ha
   obtain ⟨hl,hx,ha2⟩:=at_cons ha1
   have i45:isP M p [45]=false:=isP_x h0 ha1 _
   have i40:isP M p [40]=false:=isP_x h0 ha1 _
   have hk1:(tkAt M p.a).k=3:=congrArg Prod.fst hx
   have ht1:(tkAt M p.a).t=Lib.decDigits i.toNat:=congrArg Prod.snd hx
   have hp:peekC M p=tkAt M p.a:=peek_x h0
   refine ⟨?_,(fun k=>by rw [i45] at k; cases k.1),i40,?_⟩
   ·have hm:minusT false (tkAt M p.a).t=Lib.itoa i:=by
     unfold minusT
     rw [if_neg (fun k=>by cases k.1),ht1]
     unfold Lib.itoa
     rw [if_neg hn]
    unfold valueC valueC1
    rw [i45,if_neg (by decide),hp,if_pos hk1]
    unfold numberC
    rw [hp,hm,n1,n2,if_neg (by decide)]
    rfl
   ·rw [hp]
    unfold isNameT
    rw [hk1]; rfl
 ·have hk:k=2:=hk
  have hb:b=false:=hb
  have hi:i=0:=hi
  subst hk hb hi
  have ha1:At M p.a ((4,s.data.toList) :: ts):=ha
  obtain ⟨hl,hx,ha2⟩:=at_cons ha1
  have i45:isP M p [45]=false:=isP_x h0 ha1 _
  have i40:isP M p [40]=false:=isP_x h0 ha1 _
  have hk1:(tkAt M p.a).k=4:=congrArg Prod.fst hx
  have ht1:(tkAt M p.a).t=s.data.toList:=congrArg Prod.snd hx
  have hp:peekC M p=tkAt M p.a:=peek_x h0
  refine ⟨?_,(fun k=>by rw [i45] at k; cases k.1),i40,?_⟩
  ·unfold valueC valueC1
   rw [i45,if_neg (by decide),hp,if_neg (by rw [hk1]; decide),if_neg (by decide),if_pos hk1,ht1]
   rfl
  ·rw [hp]
   unfold isNameT
   rw [hk1]; rfl
 ·have hk:k=3:=hk
  have hi:i=0:=hi
  have hs1:s=⟨#[]⟩:=hs s hs0
  clear hs0
  subst hk hi hs1
  have ha1:At M p.a ((2,if b=true then kwTrue else kwFalse) :: ts):=ha
  obtain ⟨hl,hx,ha2⟩:=at_cons ha1
  have hp:peekC M p=tkAt M p.a:=peek_x h0
  have hk1:(tkAt M p.a).k=2:=congrArg Prod.fst hx
  have i45:isP M p [45]=false:=by rw [isP_x h0 ha1]; cases b <;> rfl
  have i40:isP M p [40]=false:=by rw [isP_x h0 ha1]; cases b <;> rfl
  have iT:isP M p kwTrue=b:=by rw [isP_x h0 ha1]; cases b <;> rfl
  have iF:b=false → isP M p kwFalse=true:=fun e=>by rw [isP_x h0 ha1,e]; rfl
  refine ⟨?_,(fun k=>by rw [i45] at k; cases k.1),i40,?_⟩
  ·unfold valueC valueC1
   rw [i45,if_neg (by decide),hp,if_neg (by rw [hk1]; decide),if_neg (by decide),if_neg (by rw [hk1]; decide)]
   cases b with
   | true=>rw [if_pos iT]; rfl
   | false=>rw [if_neg (by rw [iT]; decide),if_pos (iF rfl)]; rfl
  ·rw [hp]
   unfold isNameT
   rw [hk1]; rfl
theorem rd_val {v:Vd} (hv:vOk v):Rd 10 (.val v) (Et.val v).tk 0:=fun M p ts m h0 ho ha hs hm=>by
 obtain ⟨h1,h2,h3,h4⟩:=val_read hv h0 ha
 obtain ⟨k,rfl⟩:=leaf_go hm
 refine ⟨leafC (peekC M p) 1 [] v,?_,⟨rfl,rfl⟩⟩
 rw [exprC_10]
 unfold unaryC
 rw [if_neg h2,if_neg (by rw [h3]; decide),if_neg (by rw [h4]; decide),h1]
 rfl
def Hn (tk:List Tx):Prop:=∃ x r,tk=x :: r ∧ isX x kwNot=false
structure From4 (e:Et) (tk:List Tx) (o:Nat):Prop where
 r4:Rd 4 e tk o
 j2:Jd 2 e tk o
 r2:Rd 2 e tk o
 j0:Jd 0 e tk o
 r0:Rd 0 e tk o
theorem from4 {e:Et} {tk:List Tx} {o:Nat} (h:Rd 4 e tk o):From4 e tk o:=by
 have j2:=jd_of_rd (lv:=2) (by omega) h
 have r2:=rd_of_jd (by omega) j2
 have j0:=jd_of_rd (lv:=0) (by omega) r2
 exact ⟨h,j2,r2,j0,rd_of_jd (by omega) j0⟩
structure From10 (e:Et) (tk:List Tx) (o:Nat):Prop extends From4 e tk o where
 r10:Rd 10 e tk o
 j8:Jd 8 e tk o
 r8:Rd 8 e tk o
 j6:Jd 6 e tk o
 r6:Rd 6 e tk o
 r5:Rd 5 e tk o
theorem from10 {e:Et} {tk:List Tx} {o:Nat} (h:Rd 10 e tk o) (hh:Hn tk):From10 e tk o:=by
 have j8:=jd_of_rd (lv:=8) (by omega) h
 have r8:=rd_of_jd (by omega) j8
 have j6:=jd_of_rd (lv:=6) (by omega) r8
 have r6:=rd_of_jd (by omega) j6
 have r5:=rd_5 r6
 exact ⟨from4 (rd_4 r5 hh),h,j8,r8,j6,r6,r5⟩
def brO (b:Bool) (o:Nat):Nat:=if b=true then o + 1 else o
def Et.opn:Et → Nat
 | .val _=>0
 | .nam _=>0
 | .un op a=>if op=4 then brO (decide (a.lv < 3)) a.opn + 1 else brO (negB a) a.opn + 1
 | .bin op a b=>max (brO (decide (a.lv < lefL op)) a.opn) (brO (decide (b.lv < lvO op + 1)) b.opn)
theorem brO_le (b:Bool) (o:Nat):brO b o ≤ o + 1:=by unfold brO; split <;> omega
theorem opn_dep:∀ e:Et,e.opn + 2 ≤ 2 * e.dep
 | .val _=>by show 0 + 2 ≤ 2 * 1; omega
 | .nam _=>by show 0 + 2 ≤ 2 * 1; omega
 | .un op a=>by
  have h:=opn_dep a
  have h1:=brO_le (decide (a.lv < 3)) a.opn
  have h2:=brO_le (negB a) a.opn
  show (if op=4 then brO (decide (a.lv < 3)) a.opn + 1 else brO (negB a) a.opn + 1) + 2 ≤ 2 * (a.dep + 1)
  split <;> omega
 | .bin op a b=>by
  have h:=opn_dep a
  have k:=opn_dep b
  have h1:=brO_le (decide (a.lv < lefL op)) a.opn
  have h2:=brO_le (decide (b.lv < lvO op + 1)) b.opn
  show max (brO (decide (a.lv < lefL op)) a.opn) (brO (decide (b.lv < lvO op + 1)) b.opn) + 2 ≤ 2 * (max a.dep b.dep + 1)
  omega
theorem valTk_head (v:Vd):∃ x r,valTk v=x :: r ∧ isX x kwNot=false ∧ (posE (.val v)=false → x.1 ≠ 3):=by
 unfold valTk
 by_cases h1:v.k=1
 ·rw [if_pos h1]
  by_cases h2:v.i < 0
  ·rw [if_pos h2]; exact ⟨_,_,rfl,rfl,fun _=>by decide⟩
  ·rw [if_neg h2]
   refine ⟨_,_,rfl,rfl,fun hp=>?_⟩
   have hp:(decide (v.k=1) && decide (0 ≤ v.i))=false:=hp
   rw [decide_eq_true h1,decide_eq_true (by omega:0 ≤ v.i)] at hp
   cases hp
 ·rw [if_neg h1]
  by_cases h2:v.k=2
  ·rw [if_pos h2]; exact ⟨_,_,rfl,rfl,fun _=>by show (4:Nat) ≠ 3; decide⟩
  ·rw [if_neg h2]; exact ⟨_,_,rfl,by cases v.b <;> rfl,fun _=>by show (2:Nat) ≠ 3; decide⟩
theorem lvO_bin {op:Int} (h:6 ≤ op ∧ op ≤ 16):(op=7 ∧ lvO op=1) ∨ (op=6 ∧ lvO op=2) ∨ (13 ≤ op ∧ lvO op=4) ∨ ((op=8 ∨ op=9) ∧ lvO op=5) ∨ ((10 ≤ op ∧ op ≤ 12) ∧ lvO op=6):=by
 have hc:op=6 ∨ op=7 ∨ op=8 ∨ op=9 ∨ op=10 ∨ op=11 ∨ op=12 ∨ op=13 ∨ op=14 ∨ op=15 ∨ op=16:=by omega
 rcases hc with rfl | rfl | rfl | rfl | rfl | rfl | rfl | rfl | rfl | rfl | rfl <;> decide
theorem head_not:∀ e:Et,e.ok → 4 ≤ e.lv → Hn e.tk
 | .val v,_,_=>by obtain ⟨x,r,h1,h2,_⟩:=valTk_head v; exact ⟨x,r,h1,h2⟩
 | .nam n,_,_=>⟨_,_,rfl,rfl⟩
 | .un op a,hok,hl=>by
  have h4:op ≠ 4:=fun e=>by subst e; exact absurd hl (by show ¬ 4 ≤ lvO 4; decide)
  refine ⟨(5,[45]),brk (negB a) a.tk,?_,rfl⟩
  show (if op=4 then (2,kwNot) :: brk (decide (a.lv < 3)) a.tk else (5,[45]) :: brk (negB a) a.tk)=_
  rw [if_neg h4]
 | .bin op a b,hok,hl=>by
  obtain ⟨o1,o2,ha,hb⟩:=hok
  have hl:4 ≤ lvO op:=hl
  have e:(Et.bin op a b).tk=brk (decide (a.lv < lefL op)) a.tk ++ signT op :: brk (decide (b.lv < lvO op + 1)) b.tk:=rfl
  rw [e]
  by_cases hbr:a.lv < lefL op
  ·rw [decide_eq_true hbr]
   exact ⟨(5,[40]),_,rfl,rfl⟩
  ·rw [decide_eq_false hbr]
   have h4:4 ≤ a.lv:=by
    have:4 ≤ lefL op:=by unfold lefL; split <;> omega
    omega
   obtain ⟨x,r,h1,h2⟩:=head_not a ha h4
   show Hn (a.tk ++ _)
   rw [h1]
   exact ⟨x,_,rfl,h2⟩
theorem head_three:∀ e:Et,e.ok → negB e=false → ∃ x r,e.tk=x :: r ∧ x.1 ≠ 3
 | .val v,_,h=>by
  obtain ⟨x,r,h1,_,h3⟩:=valTk_head v
  unfold negB at h
  rw [Bool.or_eq_false_iff] at h
  exact ⟨x,r,h1,h3 h.2⟩
 | .nam n,_,_=>⟨_,_,rfl,by show (1:Nat) ≠ 3; decide⟩
 | .un op a,hok,h=>by
  by_cases h4:op=4
  ·subst h4
   unfold negB at h
   rw [Bool.or_eq_false_iff] at h
   exact absurd (of_decide_eq_false h.1) (by show ¬ ¬ (lvO 4 < 7); decide)
  ·refine ⟨(5,[45]),brk (negB a) a.tk,?_,by show (5:Nat) ≠ 3; decide⟩
   show (if op=4 then (2,kwNot) :: brk (decide (a.lv < 3)) a.tk else (5,[45]) :: brk (negB a) a.tk)=_
   rw [if_neg h4]
 | .bin op a b,hok,h=>by
  obtain ⟨o1,o2,ha,hb⟩:=hok
  unfold negB at h
  rw [Bool.or_eq_false_iff] at h
  have h7:¬ lvO op < 7:=of_decide_eq_false h.1
  rcases lvO_bin ⟨o1,o2⟩ with ⟨_,e⟩ | ⟨_,e⟩ | ⟨_,e⟩ | ⟨_,e⟩ | ⟨_,e⟩ <;> omega
structure All (e:Et):Prop where
 j0:Jd 0 e e.tk e.opn
 r0:Rd 0 e e.tk e.opn
 j2:2 ≤ e.lv → Jd 2 e e.tk e.opn
 r2:2 ≤ e.lv → Rd 2 e e.tk e.opn
 r4:3 ≤ e.lv → Rd 4 e e.tk e.opn
 r5:4 ≤ e.lv → Rd 5 e e.tk e.opn
 j6:5 ≤ e.lv → Jd 6 e e.tk e.opn
 r6:5 ≤ e.lv → Rd 6 e e.tk e.opn
 j8:6 ≤ e.lv → Jd 8 e e.tk e.opn
 r8:6 ≤ e.lv → Rd 8 e e.tk e.opn
 r10:7 ≤ e.lv → Rd 10 e e.tk e.opn
theorem all_10 {e:Et} (h:From10 e e.tk e.opn):All e:=⟨h.j0,h.r0,fun _=>h.j2,fun _=>h.r2,fun _=>h.r4,fun _=>h.r5,fun _=>h.j6,fun _=>h.r6,fun _=>h.j8,fun _=>h.r8,fun _=>h.r10⟩
theorem sub_brk {e:Et} (h:All e):From10 e (brk true e.tk) (brO true e.opn):=from10 (rd_brk h.r0) ⟨(5,[40]),_,rfl,rfl⟩
theorem sub_of {e:Et} {L:Nat} {P:List Tx → Nat → Prop} (h1:e.lv < L → P (brk true e.tk) (brO true e.opn)) (h2:L ≤ e.lv → P e.tk e.opn):P (brk (decide (e.lv < L)) e.tk) (brO (decide (e.lv < L)) e.opn):=by
 by_cases h:e.lv < L
 ·rw [decide_eq_true h]; exact h1 h
 ·rw [decide_eq_false h]; exact h2 (by omega)
theorem sign_ops {op:Int} (h:6 ≤ op ∧ op ≤ 16):∃ o:Nat,(o:Int)=op ∧
  ((op=7 → opX (signT op) (opsL 1)=o ∧ ∀ ts,Stop 2 (signT op :: ts)) ∧ (op=6 → opX (signT op) (opsL 3)=o ∧ ∀ ts,Stop 4 (signT op :: ts)) ∧ (13 ≤ op → opX (signT op) cmpS=o ∧ 13 ≤ o ∧ o ≤ 16 ∧ opX (signT op) (opsL 7)=0 ∧ opX (signT op) (opsL 9)=0)
   ∧ ((op=8 ∨ op=9) → opX (signT op) (opsL 7)=o ∧ ∀ ts,Stop 8 (signT op :: ts)) ∧ ((10 ≤ op ∧ op ≤ 12) → opX (signT op) (opsL 9)=o ∧ ∀ ts,Stop 10 (signT op :: ts))):=by
 have S:∀ (x:Tx) (lv:Nat),((lv ≤ 1 → opX x (opsL 1)=0) ∧ (lv ≤ 3 → opX x (opsL 3)=0) ∧ (lv ≤ 5 → opX x cmpS=0) ∧ (lv ≤ 7 → opX x (opsL 7)=0) ∧ (lv ≤ 9 → opX x (opsL 9)=0)) → ∀ ts,Stop lv (x :: ts):=fun x lv h ts y hy=>by cases hy; exact h
 have hc:op=6 ∨ op=7 ∨ op=8 ∨ op=9 ∨ op=10 ∨ op=11 ∨ op=12 ∨ op=13 ∨ op=14 ∨ op=15 ∨ op=16:=by omega
 rcases hc with rfl | rfl | rfl | rfl | rfl | rfl | rfl | rfl | rfl | rfl | rfl
 ·exact ⟨6,rfl,fun h=>by omega,fun _=>⟨by decide,S _ _ (by decide)⟩,fun h=>by omega,fun h=>by omega,fun h=>by omega⟩
 ·exact ⟨7,rfl,fun _=>⟨by decide,S _ _ (by decide)⟩,fun h=>by omega,fun h=>by omega,fun h=>by omega,fun h=>by omega⟩
 ·exact ⟨8,rfl,fun h=>by omega,fun h=>by omega,fun h=>by omega,fun _=>⟨by decide,S _ _ (by decide)⟩,fun h=>by omega⟩
 ·exact ⟨9,rfl,fun h=>by omega,fun h=>by omega,fun h=>by omega,fun _=>⟨by decide,S _ _ (by decide)⟩,fun h=>by omega⟩
 ·exact ⟨10,rfl,fun h=>by omega,fun h=>by omega,fun h=>by omega,fun h=>by omega,fun _=>⟨by decide,S _ _ (by decide)⟩⟩
 ·exact ⟨11,rfl,fun h=>by omega,fun h=>by omega,fun h=>by omega,fun h=>by omega,fun _=>⟨by decide,S _ _ (by decide)⟩⟩
 ·exact ⟨12,rfl,fun h=>by omega,fun h=>by omega,fun h=>by omega,fun h=>by omega,fun _=>⟨by decide,S _ _ (by decide)⟩⟩
 ·exact ⟨13,rfl,fun h=>by omega,fun h=>by omega,fun _=>⟨by decide,by omega,by omega,by decide,by decide⟩,fun h=>by omega,fun h=>by omega⟩
 ·exact ⟨14,rfl,fun h=>by omega,fun h=>by omega,fun _=>⟨by decide,by omega,by omega,by decide,by decide⟩,fun h=>by omega,fun h=>by omega⟩
 ·exact ⟨15,rfl,fun h=>by omega,fun h=>by omega,fun _=>⟨by decide,by omega,by omega,by decide,by decide⟩,fun h=>by omega,fun h=>by omega⟩
 ·exact ⟨16,rfl,fun h=>by omega,fun h=>by omega,fun _=>⟨by decide,by omega,by omega,by decide,by decide⟩,fun h=>by omega,fun h=>by omega⟩
theorem read_all:∀ e:Et,e.ok → e.dep ≤ 64 → All e
 | .val v,hok,_=>all_10 (from10 (rd_val hok) (head_not (.val v) hok (by show 4 ≤ 8; decide)))
 | .nam n,hok,_=>all_10 (from10 (rd_nam hok) (head_not (.nam n) hok (by show 4 ≤ 8; decide)))
 | .un op a,hok,hd=>by
  have hd:a.dep + 1 ≤ 64:=hd
  have ih:=read_all a hok.2 (by omega)
  rcases hok.1 with rfl | rfl
  ·have h4:Rd 4 (.un 4 a) (Et.un 4 a).tk (Et.un 4 a).opn:=rd_not (sub_of (P:=fun t o=>Rd 4 a t o) (fun _=>(sub_brk ih).r4) (fun h=>ih.r4 h)) hd
   have F:=from4 h4
   have hl:(Et.un 4 a).lv=3:=rfl
   exact ⟨F.j0,F.r0,fun _=>F.j2,fun _=>F.r2,fun _=>F.r4,fun h=>by omega,fun h=>by omega,fun h=>by omega,fun h=>by omega,fun h=>by omega,fun h=>by omega⟩
  ·have hr:Rd 10 (.un 5 a) (Et.un 5 a).tk (Et.un 5 a).opn:=by
    show Rd 10 (.un 5 a) ((5,[45]) :: brk (negB a) a.tk) (brO (negB a) a.opn + 1)
    cases hb:negB a with
    | true=>exact rd_neg (sub_brk ih).r10 hd ⟨(5,[40]),_,rfl,by decide⟩
    | false =>
     have h7:7 ≤ a.lv:=by
      unfold negB at hb
      rw [Bool.or_eq_false_iff] at hb
      have:=of_decide_eq_false hb.1
      omega
     exact rd_neg (ih.r10 h7) hd (head_three a hok.2 hb)
   exact all_10 (from10 hr (head_not (.un 5 a) hok (by show 4 ≤ lvO 5; decide)))
 | .bin op a b,hok,hd=>by
  have hd:max a.dep b.dep + 1 ≤ 64:=hd
  obtain ⟨o1,o2,ha,hb⟩:=hok
  have iha:=read_all a ha (by omega)
  have ihb:=read_all b hb (by omega)
  obtain ⟨o,ho,s7,s6,s13,s8,s10⟩:=sign_ops ⟨o1,o2⟩
  subst ho
  have hl:(Et.bin (o:Int) a b).lv=lvO (o:Int):=rfl
  have SA:=fun (L:Nat) (P:List Tx → Nat → Prop)=>@sub_of a L P
  have SB:=fun (L:Nat) (P:List Tx → Nat → Prop)=>@sub_of b L P
  have hne:o ≠ 0:=by omega
  rcases lvO_bin ⟨o1,o2⟩ with ⟨h,e⟩ | ⟨h,e⟩ | ⟨h,e⟩ | ⟨h,e⟩ | ⟨h,e⟩
  ·have hlef:lefL (o:Int)=1:=by unfold lefL; rw [e]; rfl
   have J:Jd 0 (.bin (o:Int) a b) (Et.bin (o:Int) a b).tk (Et.bin (o:Int) a b).opn:=by
    show Jd 0 _ (brk (decide (a.lv < lefL (o:Int))) a.tk ++ signT (o:Int) :: brk (decide (b.lv < lvO (o:Int) + 1)) b.tk) (max (brO (decide (a.lv < lefL (o:Int))) a.opn) (brO (decide (b.lv < lvO (o:Int) + 1)) b.opn))
    rw [hlef,e]
    exact jd_more (by omega) (SA 1 (fun t o=>Jd 0 a t o) (fun _=>(sub_brk iha).j0) (fun _=>iha.j0)) (SB 2 (fun t o=>Rd 2 b t o) (fun _=>(sub_brk ihb).r2) (fun h=>ihb.r2 h)) hd (s7 h).1 hne (s7 h).2
   exact ⟨J,rd_of_jd (by omega) J,fun h=>by omega,fun h=>by omega,fun h=>by omega,fun h=>by omega,fun h=>by omega,fun h=>by omega,fun h=>by omega,fun h=>by omega,fun h=>by omega⟩
  ·have hlef:lefL (o:Int)=2:=by unfold lefL; rw [e]; rfl
   have J:Jd 2 (.bin (o:Int) a b) (Et.bin (o:Int) a b).tk (Et.bin (o:Int) a b).opn:=by
    show Jd 2 _ (brk (decide (a.lv < lefL (o:Int))) a.tk ++ signT (o:Int) :: brk (decide (b.lv < lvO (o:Int) + 1)) b.tk) (max (brO (decide (a.lv < lefL (o:Int))) a.opn) (brO (decide (b.lv < lvO (o:Int) + 1)) b.opn))
    rw [hlef,e]
    exact jd_more (by omega) (SA 2 (fun t o=>Jd 2 a t o) (fun _=>(sub_brk iha).j2) (fun h=>iha.j2 h)) (SB 3 (fun t o=>Rd 4 b t o) (fun _=>(sub_brk ihb).r4) (fun h=>ihb.r4 h)) hd (s6 h).1 hne (s6 h).2
   have R:=rd_of_jd (by omega) J
   have J0:=jd_of_rd (lv:=0) (by omega) R
   exact ⟨J0,rd_of_jd (by omega) J0,fun _=>J,fun _=>R,fun h=>by omega,fun h=>by omega,fun h=>by omega,fun h=>by omega,fun h=>by omega,fun h=>by omega,fun h=>by omega⟩
  ·have hlef:lefL (o:Int)=5:=by unfold lefL; rw [e]; rfl
   have R:Rd 5 (.bin (o:Int) a b) (Et.bin (o:Int) a b).tk (Et.bin (o:Int) a b).opn:=by
    show Rd 5 _ (brk (decide (a.lv < lefL (o:Int))) a.tk ++ signT (o:Int) :: brk (decide (b.lv < lvO (o:Int) + 1)) b.tk) (max (brO (decide (a.lv < lefL (o:Int))) a.opn) (brO (decide (b.lv < lvO (o:Int) + 1)) b.opn))
    rw [hlef,e]
    exact rd_cmp (SA 5 (fun t o=>Rd 6 a t o) (fun _=>(sub_brk iha).r6) (fun h=>iha.r6 h)) (SB 5 (fun t o=>Rd 6 b t o) (fun _=>(sub_brk ihb).r6) (fun h=>ihb.r6 h)) hd (s13 h).1 ⟨(s13 h).2.1,(s13 h).2.2.1⟩ (s13 h).2.2.2
   have F:=from4 (rd_4 R (head_not (.bin (o:Int) a b) ⟨o1,o2,ha,hb⟩ (by rw [hl,e]; decide)))
   exact ⟨F.j0,F.r0,fun _=>F.j2,fun _=>F.r2,fun _=>F.r4,fun _=>R,fun h=>by omega,fun h=>by omega,fun h=>by omega,fun h=>by omega,fun h=>by omega⟩
  ·have hlef:lefL (o:Int)=5:=by unfold lefL; rw [e]; rfl
   have J:Jd 6 (.bin (o:Int) a b) (Et.bin (o:Int) a b).tk (Et.bin (o:Int) a b).opn:=by
    show Jd 6 _ (brk (decide (a.lv < lefL (o:Int))) a.tk ++ signT (o:Int) :: brk (decide (b.lv < lvO (o:Int) + 1)) b.tk) (max (brO (decide (a.lv < lefL (o:Int))) a.opn) (brO (decide (b.lv < lvO (o:Int) + 1)) b.opn))
    rw [hlef,e]
    exact jd_more (by omega) (SA 5 (fun t o=>Jd 6 a t o) (fun _=>(sub_brk iha).j6) (fun h=>iha.j6 h)) (SB 6 (fun t o=>Rd 8 b t o) (fun _=>(sub_brk ihb).r8) (fun h=>ihb.r8 h)) hd (s8 h).1 hne (s8 h).2
   have R6:=rd_of_jd (by omega) J
   have R5:=rd_5 R6
   have F:=from4 (rd_4 R5 (head_not (.bin (o:Int) a b) ⟨o1,o2,ha,hb⟩ (by rw [hl,e]; decide)))
   exact ⟨F.j0,F.r0,fun _=>F.j2,fun _=>F.r2,fun _=>F.r4,fun _=>R5,fun _=>J,fun _=>R6,fun h=>by omega,fun h=>by omega,fun h=>by omega⟩
  ·have hlef:lefL (o:Int)=6:=by unfold lefL; rw [e]; rfl
   have J:Jd 8 (.bin (o:Int) a b) (Et.bin (o:Int) a b).tk (Et.bin (o:Int) a b).opn:=by
    show Jd 8 _ (brk (decide (a.lv < lefL (o:Int))) a.tk ++ signT (o:Int) :: brk (decide (b.lv < lvO (o:Int) + 1)) b.tk) (max (brO (decide (a.lv < lefL (o:Int))) a.opn) (brO (decide (b.lv < lvO (o:Int) + 1)) b.opn))
    rw [hlef,e]
    exact jd_more (by omega) (SA 6 (fun t o=>Jd 8 a t o) (fun _=>(sub_brk iha).j8) (fun h=>iha.j8 h)) (SB 7 (fun t o=>Rd 10 b t o) (fun _=>(sub_brk ihb).r10) (fun h=>ihb.r10 h)) hd (s10 h).1 hne (s10 h).2
   have R8:=rd_of_jd (by omega) J
   have J6:=jd_of_rd (lv:=6) (by omega) R8
   have R6:=rd_of_jd (by omega) J6
   have R5:=rd_5 R6
   have F:=from4 (rd_4 R5 (head_not (.bin (o:Int) a b) ⟨o1,o2,ha,hb⟩ (by rw [hl,e]; decide)))
   exact ⟨F.j0,F.r0,fun _=>F.j2,fun _=>F.r2,fun _=>F.r4,fun _=>R5,fun _=>J6,fun _=>R6,fun _=>J,fun _=>R8,fun h=>by omega⟩
theorem read_expr {e:Et} (hok:e.ok) (hd:e.dep ≤ 64) {M:List Tk} {p:Pl} {ts:List Tx} {n:Nat} (h0:p.er=0) (ho:p.op=0) (ha:At M p.a (e.tk ++ ts)) (hs:Stop 0 ts) (hn:needP M 0 p ≤ n):∃ c,exprC M n 0 p z0=(c,adP p e.tk.length) ∧ Got e c :=
 (read_all e hok hd).r0 M p ts n h0 (by have:=opn_dep e; omega) ha hs hn
def id0:Id3:=⟨⟨#[]⟩,0,0⟩
theorem expr_back {e:Et} (hok:e.ok) (hd:e.dep ≤ 64) (hl:e.tx.length ≤ 65536):∃ L,exprL e.tx=.ok L ∧ L.map plE=e.full 0:=by
 have h:=lx_expr e hok [] [] okR_nil lx_nil (1,1)
 rw [List.append_nil,List.append_nil] at h
 obtain ⟨M,h1,h2⟩:=h
 have ha:At M 0 (e.tk ++ []):=by unfold At; rw [List.drop_zero,List.append_nil]; exact h2
 obtain ⟨c,c1,c2⟩:=read_expr (p:=pl0) hok hd rfl rfl ha (stop_nil 0) (Nat.le_refl _)
 have hn:=at_nil (M:=M) (a:=0 + e.tk.length) (at_app ha)
 obtain ⟨r,k1,k2⟩:=link_post 0 e hok c.ns 0 [] c2.ns
 have hx:xC M=(c,adP pl0 e.tk.length):=c1
 have he:endC M (xC M)=adP pl0 e.tk.length:=by
  unfold endC
  rw [hx]
  have:¬ (adP pl0 e.tk.length).a < M.length:=by show ¬ 0 + e.tk.length < M.length; omega
  exact if_neg this
 refine ⟨r,?_,k2⟩
 unfold exprL
 rw [show tokL e.tx=.ok M by unfold tokL; rw [if_neg (by omega)]; exact h1]
 show exprX M=_
 unfold exprX
 rw [he,if_pos (show (adP pl0 e.tk.length).er=0 from rfl),hx]
 show Except.ok (linkS 0 c.ns 0 []).1=_
 rw [k1]
def Et.few (K:Nat):Et → Prop
 | .val v=>(valTx v).length ≤ K
 | .nam n=>n.data.toList.length ≤ K
 | .un _ a=>a.few K
 | .bin _ a b=>a.few K ∧ b.few K
theorem brkL_few (b:Bool) (x:List UInt8):(brkL b x).length ≤ x.length + 2:=by
 unfold brkL
 split
 ·simp only [List.length_cons,List.length_append,List.length_nil]; omega
 ·omega
theorem tx_few (K:Nat):∀ e:Et,e.few K → e.tx.length ≤ e.num * (K + 9)
 | .val v,h=>by
  have h:(valTx v).length ≤ K:=h
  show (valTx v).length ≤ 1 * (K + 9)
  omega
 | .nam n,h=>by
  have h:n.data.toList.length ≤ K:=h
  show n.data.toList.length ≤ 1 * (K + 9)
  omega
 | .un op a,h=>by
  have ih:=tx_few K a h
  have h1:=brkL_few (decide (a.lv < 3)) a.tx
  have h2:=brkL_few (negB a) a.tx
  show (if op=4 then kwNot ++ 32 :: brkL (decide (a.lv < 3)) a.tx else 45 :: brkL (negB a) a.tx).length ≤ (a.num + 1) * (K + 9)
  rw [Nat.add_mul]
  split
  ·simp only [List.length_append,List.length_cons,kwNot,List.length_nil]
   omega
  ·simp only [List.length_cons]
   omega
 | .bin op a b,h=>by
  have ih1:=tx_few K a h.1
  have ih2:=tx_few K b h.2
  have h1:=brkL_few (decide (a.lv < lefL op)) a.tx
  have h2:=brkL_few (decide (b.lv < lvO op + 1)) b.tx
  have h3:(signT op).2.length ≤ 3:=by
   unfold signT
   repeat' split
   all_goals (simp [kwAnd,kwOr])
  show (brkL (decide (a.lv < lefL op)) a.tx ++ 32 :: ((signT op).2 ++ 32 :: brkL (decide (b.lv < lvO op + 1)) b.tx)).length ≤ (a.num + b.num + 1) * (K + 9)
  rw [Nat.add_mul,Nat.add_mul]
  simp only [List.length_append,List.length_cons]
  omega
theorem val_few {v:Vd} (ho:vOk v) (hs:v.s.size ≤ 100):(valTx v).length ≤ 500:=by
 unfold valTx valText
 split
 ·split
  ·have:=Lib.itoa_length_le v.i ho.2.1 ho.2.2; omega
  ·split
   ·have h1:=body_len v.s.data.toList
    have h2:v.s.data.toList.length=v.s.size:=by rw [Array.length_toList]; rfl
    unfold quoteL
    rw [List.length_cons,List.length_append]
    show _ + 1 + 1 ≤ _
    omega
   ·split <;> decide
 ·decide
theorem name_few {n:ByteArray} (h:nameB n=true):n.data.toList.length ≤ 32:=by
 unfold nameB speltB at h
 rw [Bool.and_eq_true] at h
 have h1:=h.1
 cases hl:n.data.toList with
 | nil=>exact Nat.zero_le _
 | cons c r =>
  rw [hl] at h1
  simp only [speltL,Bool.and_eq_true,decide_eq_true_eq] at h1
  exact h1.1
theorem few_of (l:List Ex) (hs:∀ x ∈ l,x.v.s.size ≤ 100):∀ (e:Et) (n:Nat),IsE l n e → e.ok → e.few 500
 | .val v,n,h,ho=>by
  obtain ⟨x,hx,he⟩:=h
  have hv:x.v=v:=congrArg Ex.v he
  exact val_few ho (by rw [← hv]; exact hs x (List.mem_of_getElem? hx))
 | .nam s,n,h,ho=>Nat.le_trans (name_few ho) (by decide)
 | .un op a,n,h,ho=>by
  obtain ⟨x,m,_,_,_,h1⟩:=h
  exact few_of l hs a m h1 ho.2
 | .bin op a b,n,h,ho=>by
  obtain ⟨x,m,k,_,_,_,_,h1,h2⟩:=h
  exact ⟨few_of l hs a k h1 ho.2.2.1,few_of l hs b m h2 ho.2.2.2⟩
theorem dep_num:∀ e:Et,e.dep ≤ e.num
 | .val _=>Nat.le_refl _
 | .nam _=>Nat.le_refl _
 | .un _ a=>by have:=dep_num a; show a.dep + 1 ≤ a.num + 1; omega
 | .bin _ a b=>by have:=dep_num a; have:=dep_num b; show max a.dep b.dep + 1 ≤ a.num + b.num + 1; omega
def opn (x:Ex):Int × ByteArray × Vd:=(x.op,x.n,x.v)
theorem full_opn:∀ (e:Et) (b c:Int),(e.full b).map opn=(e.full c).map opn
 | .val _,b,c=>rfl
 | .nam _,b,c=>rfl
 | .un op a,b,c=>by show (a.full b ++ _).map opn=(a.full c ++ _).map opn; rw [List.map_append,List.map_append,full_opn a b c]; rfl
 | .bin op a x,b,c=>by
  show (a.full b ++ x.full _ ++ _).map opn=(a.full c ++ x.full _ ++ _).map opn
  rw [List.map_append,List.map_append,List.map_append,List.map_append,full_opn a b c,full_opn x (b + (a.num:Nat)) (c + (a.num:Nat))]
  rfl
theorem opn_at {l L:List Ex} {e:Et} {n:Nat} (h:IsE l n e) (hL:L.map plE=e.full 0):L.length=e.num ∧ ∃ s:Nat,s + e.num=n + 1 ∧ ∀ i,i < e.num → ∃ x y,L[i]? = some x ∧ l[s + i]? = some y ∧ x.op=y.op ∧ x.n=y.n ∧ x.v=y.v:=by
 have hl:L.length=e.num:=by rw [← full_len e 0,← hL,List.length_map]
 obtain ⟨s,hs,hf⟩:=is_full l e n h
 refine ⟨hl,s,hs,fun i hi=>?_⟩
 have hn:n < l.length:=by
  cases e with
  | val v=>obtain ⟨x,hx,_⟩:=h; exact (List.getElem?_eq_some_iff.1 hx).1
  | nam v=>obtain ⟨x,hx,_⟩:=h; exact (List.getElem?_eq_some_iff.1 hx).1
  | un op a=>obtain ⟨x,_,_,hx,_⟩:=h; exact (List.getElem?_eq_some_iff.1 hx).1
  | bin op a b=>obtain ⟨x,_,_,_,_,hx,_⟩:=h; exact (List.getElem?_eq_some_iff.1 hx).1
 obtain ⟨x,hx⟩:∃ x,L[i]? = some x:=⟨_,List.getElem?_eq_getElem (by omega)⟩
 obtain ⟨y,hy⟩:∃ y,l[s + i]? = some y:=⟨_,List.getElem?_eq_getElem (by omega)⟩
 have h1:(L.map opn)[i]? = some (opn x):=by rw [List.getElem?_map,hx]; rfl
 have h2:(((l.drop s).take e.num).map opn)[i]? = some (opn y):=by
  rw [List.getElem?_map,List.getElem?_take,if_pos hi,List.getElem?_drop,hy]; rfl
 have h3:L.map opn=((l.drop s).take e.num).map opn:=by
  have e1:L.map opn=(L.map plE).map opn:=by rw [List.map_map]; rfl
  have e2:((l.drop s).take e.num).map opn=(((l.drop s).take e.num).map plE).map opn:=by rw [List.map_map]; rfl
  rw [e1,e2,hL,hf,full_opn e 0 s]
 rw [h3,h2] at h1
 have h4:=Option.some.inj h1
 unfold opn at h4
 simp only [Prod.mk.injEq] at h4
 exact ⟨x,y,hx,hy,h4.1.symm,h4.2.1.symm,h4.2.2.symm⟩
end Go.Proofs.YtiafhfchjhffhaaGreatDoor
