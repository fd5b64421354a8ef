/- paclaim: ParRefBd ParExprsMath ParRefLoop -/
import Derived.Test.YtmknmmbfaljkbaaGreatDoorLowPa2
import Derived.Test.YtmknmmbfaljkbaaGreatDoorLowPa3
namespace Go.Proofs.YtmknmmbfaljkbaaGreatDoor
set_option linter.unusedVariables false
structure Bd (M:List Tk) (p:Pl) (out:List Ex) (r:List Ex × Pl):Prop where
 le:r.2.a ≤ M.length
 ge:p.a ≤ r.2.a
 len:r.1.length + p.a ≤ out.length + r.2.a
 more:out.length ≤ r.1.length
 lo:p.op - 1 ≤ r.2.op
 hi:r.2.op ≤ p.op
 eq:r.2.er=0 → r.2.op=p.op
theorem Bd.refl {M:List Tk} {p:Pl} (out:List Ex) (h:p.a ≤ M.length):Bd M p out (out,p):=⟨h,Nat.le_refl _,Nat.le_refl _,Nat.le_refl _,by show p.op - 1 ≤ p.op; omega,Int.le_refl _,fun _=>rfl⟩
theorem Bd.comp {M:List Tk} {p:Pl} {out:List Ex} {S R:List Ex × Pl} (h:Bd M p out S) (k:Bd M S.2 S.1 R) (e:S.2.er ≠ 0 → R=(S.1,S.2)):Bd M p out R:=by
 by_cases h0:S.2.er=0
 ·have o:=h.eq h0
  exact ⟨k.le,Nat.le_trans h.ge k.ge,by have:=h.len; have:=k.len; omega,Nat.le_trans h.more k.more,by have:=k.lo; omega,by have:=k.hi; omega,fun z=>by rw [k.eq z,o]⟩
 ·rw [e h0]
  exact h
theorem node_at (M:List Tk) (p:Pl) (n:Nat) (out:List Ex) (op a b:Int) (s:List UInt8) (v:Vd):(nodeP M p n out op a b s v).2.a=p.a ∧ (nodeP M p n out op a b s v).2.op=p.op ∧ out.length ≤ (nodeP M p n out op a b s v).1.length ∧ (nodeP M p n out op a b s v).1.length ≤ out.length + (if p.er=0 then 1 else 0) ∧ ((nodeP M p n out op a b s v).2.er=0 → p.er=0):=by
 by_cases h:p.er=0
 ·unfold nodeP
  simp only [if_pos h]
  split
  ·exact ⟨rfl,rfl,by simp,by simp,fun _=>h⟩
  ·exact ⟨rfl,rfl,by simp,by simp,fun e=>absurd e (by show ¬ (13:Nat)=0; decide)⟩
 ·unfold nodeP
  simp only [if_neg h]
  exact ⟨trivial,trivial,Nat.le_refl _,Nat.le_refl _,fun e=>absurd e h⟩
theorem isP_lt {M:List Tk} {p:Pl} {s:List UInt8} (h:isP M p s=true):p.a + 1 ≤ M.length:=(isP_some h).2
theorem bd_node {M:List Tk} {p:Pl} {out:List Ex} {S:List Ex × Pl} (h:Bd M (skipP p) out S) (n:Nat) (op a b:Int) (s:List UInt8) (v:Vd):Bd M p out (nodeP M S.2 n S.1 op a b s v):=by
 obtain ⟨n1,n2,n3,n4,n5⟩:=node_at M S.2 n S.1 op a b s v
 have h1:p.a + 1 ≤ S.2.a:=h.ge
 have h2:S.1.length + (p.a + 1) ≤ out.length + S.2.a:=h.len
 have h3:p.op - 1 ≤ S.2.op:=h.lo
 have h4:S.2.op ≤ p.op:=h.hi
 have n4':(nodeP M S.2 n S.1 op a b s v).1.length ≤ S.1.length + 1:=Nat.le_trans n4 (by split <;> omega)
 exact ⟨by rw [n1]; exact h.le,by omega,by omega,Nat.le_trans h.more n3,by omega,by omega,fun e=>by rw [n2]; exact h.eq (n5 e)⟩
theorem bd_leaf {M:List Tk} {p q:Pl} {out:List Ex} (h1:q.a ≤ M.length) (h2:p.a ≤ q.a) (h3:q.er=0 → p.a + 1 ≤ q.a) (h4:q.op=p.op) (n:Nat) (op a b:Int) (s:List UInt8) (v:Vd):Bd M p out (nodeP M q n out op a b s v):=by
 obtain ⟨n1,n2,n3,n4,n5⟩:=node_at M q n out op a b s v
 refine ⟨by omega,by omega,?_,n3,by omega,by omega,fun e=>by omega⟩
 by_cases e:q.er=0
 ·have:=h3 e
  rw [if_pos e] at n4
  omega
 ·rw [if_neg e] at n4
  omega
theorem stop_op (M:List Tk) (p:Pl) (e:Nat):(stopP M p e).a=p.a ∧ (stopP M p e).op=p.op:=by
 unfold stopP
 split
 ·split <;> exact ⟨rfl,rfl⟩
 ·exact ⟨rfl,rfl⟩
theorem open_at (M:List Tk) (p:Pl):((openP M p).er ≠ 0 ∧ (openP M p).a=p.a ∧ (openP M p).op=p.op) ∨ ((openP M p).a=p.a + 1 ∧ (openP M p).op=p.op + 1 ∧ (openP M p).er=p.er):=by
 unfold openP
 split
 ·exact .inl ⟨stop_no M p 13 (by decide),stop_op M p 13⟩
 ·exact .inr ⟨rfl,rfl,rfl⟩
theorem bd_open {M:List Tk} {p:Pl} {out:List Ex} {S:List Ex × Pl} (hp:p.a + 1 ≤ M.length) (h:Bd M (openP M p) out S) (e:(openP M p).er ≠ 0 → S=(out,openP M p)) (n:Nat) (op a b:Int) (s:List UInt8) (v:Vd):Bd M p out (nodeP M (shutP S.2) n S.1 op a b s v):=by
 obtain ⟨n1,n2,n3,n4,n5⟩:=node_at M (shutP S.2) n S.1 op a b s v
 have s1:(shutP S.2).a=S.2.a:=rfl
 have s2:(shutP S.2).op=S.2.op - 1:=rfl
 have s3:(shutP S.2).er=S.2.er:=rfl
 rw [s3] at n4 n5
 rcases open_at M p with ⟨o1,o2,o3⟩ | ⟨o1,o2,o3⟩
 ·have e2:=e o1
  have z1:S.1.length=out.length:=by rw [e2]
  have z2:S.2.a=p.a:=by rw [e2]; exact o2
  have z3:S.2.op=p.op:=by rw [e2]; exact o3
  have z4:S.2.er ≠ 0:=by rw [e2]; exact o1
  rw [if_neg z4] at n4
  exact ⟨by omega,by omega,by omega,by omega,by omega,by omega,fun k=>absurd (n5 k) z4⟩
 ·have h1:=h.le
  have h2:=h.ge
  have h3:=h.len
  have h4:=h.more
  have h5:=h.lo
  have h6:=h.hi
  have n4':(nodeP M (shutP S.2) n S.1 op a b s v).1.length ≤ S.1.length + 1:=Nat.le_trans n4 (by split <;> omega)
  exact ⟨by omega,by omega,by omega,by omega,by omega,by omega,fun k=>by have:=h.eq (n5 k); omega⟩
theorem want_at (M:List Tk) (p:Pl) (s:List UInt8):((wantP M p s).a=p.a ∨ ((wantP M p s).a=p.a + 1 ∧ p.a + 1 ≤ M.length)) ∧ (wantP M p s).op=p.op ∧ ((wantP M p s).er=0 → p.er=0):=by
 unfold wantP
 split
 ·rename_i h
  exact ⟨.inr ⟨rfl,isP_lt h⟩,rfl,fun k=>k⟩
 ·obtain ⟨h1,h2⟩:=stop_op M p 16
  exact ⟨.inl h1,h2,fun k=>absurd k (stop_no M p 16 (by decide))⟩
theorem bd_paren {M:List Tk} {p:Pl} {out:List Ex} {S:List Ex × Pl} (hp:p.a + 1 ≤ M.length) (h:Bd M (openP M p) out S) (e:(openP M p).er ≠ 0 → S=(out,openP M p)):Bd M p out (S.1,shutP (wantP M S.2 [41])):=by
 obtain ⟨w1,w2,w3⟩:=want_at M S.2 [41]
 have s1:(shutP (wantP M S.2 [41])).a=(wantP M S.2 [41]).a:=rfl
 have s2:(shutP (wantP M S.2 [41])).op=(wantP M S.2 [41]).op - 1:=rfl
 have s3:(shutP (wantP M S.2 [41])).er=(wantP M S.2 [41]).er:=rfl
 have h1:=h.le
 have h2:=h.ge
 have h3:=h.len
 have h4:=h.more
 have h5:=h.lo
 have h6:=h.hi
 rcases open_at M p with ⟨o1,o2,o3⟩ | ⟨o1,o2,o3⟩
 ·have e2:=e o1
  have z1:S.1.length=out.length:=by rw [e2]
  have z2:S.2.a=p.a:=by rw [e2]; exact o2
  have z3:S.2.op=p.op:=by rw [e2]; exact o3
  have z4:S.2.er ≠ 0:=by rw [e2]; exact o1
  exact ⟨by show (shutP (wantP M S.2 [41])).a ≤ _; omega,by show _ ≤ (shutP (wantP M S.2 [41])).a; omega,by show S.1.length + p.a ≤ out.length + (shutP (wantP M S.2 [41])).a; omega,by show _ ≤ S.1.length; omega,by show _ ≤ (shutP (wantP M S.2 [41])).op; omega,by show (shutP (wantP M S.2 [41])).op ≤ _; omega,fun k=>absurd (w3 k) z4⟩
 ·exact ⟨by show (shutP (wantP M S.2 [41])).a ≤ _; omega,by show _ ≤ (shutP (wantP M S.2 [41])).a; omega,by show S.1.length + p.a ≤ out.length + (shutP (wantP M S.2 [41])).a; omega,by show _ ≤ S.1.length; omega,by show _ ≤ (shutP (wantP M S.2 [41])).op; omega,by show (shutP (wantP M S.2 [41])).op ≤ _; omega,fun k=>by have:=h.eq (w3 k); show (shutP (wantP M S.2 [41])).op=_; omega⟩
theorem num_bd {M:List Tk} {p q:Pl} {b:Bool} (hp:p.a ≤ M.length) (hq:q.a=p.a ∨ q.a=p.a + 1) (ho:q.op=p.op):(numP M p q b).2.1.a ≤ M.length ∧ p.a ≤ (numP M p q b).2.1.a ∧ (numP M p q b).2.1.op=p.op:=by
 unfold numP
 split
 ·exact ⟨hp,Nat.le_refl _,rfl⟩
 ·rename_i u hu
  have hl:=(List.getElem?_eq_some_iff.1 hu).1
  split
  ·split
   ·exact ⟨by show q.a + 1 ≤ _; omega,by show _ ≤ q.a + 1; omega,ho⟩
   ·split
    ·exact ⟨by show q.a + 1 ≤ _; omega,by show _ ≤ q.a + 1; omega,ho⟩
    ·obtain ⟨s1,s2⟩:=stop_op M q 5
     exact ⟨by show (stopP M q 5).a ≤ _; omega,by show _ ≤ (stopP M q 5).a; omega,by show (stopP M q 5).op=_; rw [s2,ho]⟩
  ·exact ⟨hp,Nat.le_refl _,rfl⟩
theorem value_bd {M:List Tk} {p:Pl} (hp:p.a ≤ M.length):(valueP M p).2.1.a ≤ M.length ∧ p.a ≤ (valueP M p).2.1.a ∧ (valueP M p).2.1.op=p.op:=by
 unfold valueP
 split
 ·split
  ·exact ⟨hp,Nat.le_refl _,rfl⟩
  ·rename_i t ht
   have hl:=(List.getElem?_eq_some_iff.1 ht).1
   split
   ·exact ⟨by show p.a + 1 ≤ _; omega,Nat.le_succ _,rfl⟩
   ·split
    ·exact ⟨by show p.a + 1 ≤ _; omega,Nat.le_succ _,rfl⟩
    ·split
     ·exact num_bd hp (.inr rfl) rfl
     ·exact num_bd hp (.inl rfl) rfl
 ·exact ⟨hp,Nat.le_refl _,rfl⟩
theorem cmp_bd {M:List Tk} {p:Pl} {out:List Ex} {R S:List Ex × Pl} (hR:Bd M p out R) (hS:Bd M (skipP R.2) R.1 S) (h0:R.2.er=0) (op:Nat):Bd M p out (cmpP M R.2 out.length R.1.length op S):=by
 have hlen:(turnedE S.1 out.length R.1.length).length=S.1.length:=by
  unfold turnedE
  simp only [List.length_append,List.length_map,List.length_take,List.length_drop]
  have h1:=hR.more
  have h2:=hS.more
  omega
 have o:=hR.eq h0
 have hSB:Bd M R.2 R.1 S:=⟨hS.le,Nat.le_of_succ_le hS.ge,by have:S.1.length + (R.2.a + 1) ≤ _:=hS.len; omega,hS.more,hS.lo,hS.hi,hS.eq⟩
 unfold cmpP
 split
 ·rename_i he
  split
  ·have k:=bd_node (S:=(turnedE S.1 out.length R.1.length,S.2)) (p:=R.2) (out:=R.1) ⟨hS.le,hS.ge,by show (turnedE S.1 out.length R.1.length).length + _ ≤ _; rw [hlen]; exact hS.len,by show _ ≤ (turnedE S.1 out.length R.1.length).length; rw [hlen]; exact hS.more,hS.lo,hS.hi,hS.eq⟩ R.2.a ((op:Int) - 100) ((out.length:Int) + S.1.length - R.1.length - 1) ((S.1.length:Int) - 1) [] v0
   exact hR.comp k (fun e=>absurd h0 e)
  ·exact hR.comp (bd_node hS R.2.a op ((R.1.length:Int) - 1) ((S.1.length:Int) - 1) [] v0) (fun e=>absurd h0 e)
 ·exact hR.comp hSB (fun e=>absurd h0 e)
theorem expr_bd (M:List Tk):∀ (n lv:Nat) (p:Pl) (out:List Ex),p.a ≤ M.length → Bd M p out (exprP M n lv p out)
 | 0,_,p,out,h=>Bd.refl out h
 | n + 1,lv,p,out,h=>by
  have X:=expr_bd M n
  have E:=exprP_err M n
  have hlv:lv=0 ∨ lv=1 ∨ lv=2 ∨ lv=3 ∨ lv=4 ∨ lv=5 ∨ lv=6 ∨ lv=7 ∨ lv=8 ∨ lv=9 ∨ lv=10 ∨ 11 ≤ lv:=by omega
  have UP:∀ a b,Bd M p out (exprP M n a (exprP M n b p out).2 (exprP M n b p out).1):=fun a b =>
   (X b p out h).comp (X a _ _ (X b p out h).le) (fun e=>E a _ _ e)
  have LP:∀ a b (op:Int) (x y:Int) s v,p.a + 1 ≤ M.length → Bd M p out (exprP M n a (nodeP M (exprP M n b (skipP p) out).2 p.a (exprP M n b (skipP p) out).1 op x y s v).2 (nodeP M (exprP M n b (skipP p) out).2 p.a (exprP M n b (skipP p) out).1 op x y s v).1):=fun a b op x y s v hp =>
   (bd_node (X b (skipP p) out hp) p.a op x y s v).comp (X a _ _ (bd_node (X b (skipP p) out hp) p.a op x y s v).le) (fun e=>E a _ _ e)
  have FO:∀ L,firstOp M p L ≠ 0 → p.a + 1 ≤ M.length:=fun L k=>by
   obtain ⟨s,hs⟩:=firstOp_some L k
   exact isP_lt hs
  have OA:isP M p [45]=true ∨ isP M p [40]=true ∨ isP M p kwNot=true → p.a + 1 ≤ M.length ∧ (openP M p).a ≤ M.length:=fun k=>by
   have hp:p.a + 1 ≤ M.length:=by rcases k with k | k | k <;> exact isP_lt k
   refine ⟨hp,?_⟩
   rcases open_at M p with ⟨_,o2,_⟩ | ⟨o1,_,_⟩ <;> omega
  rcases hlv with rfl | rfl | rfl | rfl | rfl | rfl | rfl | rfl | rfl | rfl | rfl | h11
  ·rw [exprP_0]; exact UP 1 2
  ·rw [exprP_1]
   split
   ·rename_i k; exact LP _ _ _ _ _ _ _ (isP_lt k)
   ·exact Bd.refl out h
  ·rw [exprP_2]; exact UP 3 4
  ·rw [exprP_3]
   split
   ·rename_i k; exact LP _ _ _ _ _ _ _ (isP_lt k)
   ·exact Bd.refl out h
  ·rw [exprP_4]
   split
   ·rename_i k
    obtain ⟨hp,ho⟩:=OA (.inr (.inr k))
    exact bd_open hp (X 4 _ out ho) (fun e=>E 4 _ _ e) _ _ _ _ _ _
   ·exact X 5 p out h
  ·rw [exprP_5]
   split
   ·exact X 6 p out h
   ·rename_i k
    have hR:=X 6 p out h
    obtain ⟨s,hs⟩:=firstOp_some (M:=M) (p:=(exprP M n 6 p out).2) cmpS k
    exact cmp_bd hR (X 6 (skipP _) _ (isP_lt hs)) (isP_some hs).1 _
  ·rw [exprP_6]; exact UP 7 8
  ·rw [exprP_7]
   split
   ·exact Bd.refl out h
   ·rename_i k; exact LP _ _ _ _ _ _ _ (FO _ k)
  ·rw [exprP_8]; exact UP 9 10
  ·rw [exprP_9]
   split
   ·exact Bd.refl out h
   ·rename_i k; exact LP _ _ _ _ _ _ _ (FO _ k)
  ·rw [exprP_10]
   split
   ·rename_i k
    split
    ·rename_i kv
     obtain ⟨v1,v2,v3⟩:=value_bd h
     exact bd_leaf v1 v2 (fun e=>value_ok kv e) v3 _ _ _ _ _ _
    ·obtain ⟨hp,ho⟩:=OA (.inl k)
     exact bd_open hp (X 10 _ out ho) (fun e=>E 10 _ _ e) _ _ _ _ _ _
   ·exact X 11 p out h
  ·obtain ⟨d,rfl⟩:∃ d,lv=d + 11:=⟨lv - 11,by omega⟩
   rw [exprP_11]
   split
   ·rename_i k
    obtain ⟨hp,ho⟩:=OA (.inr (.inl k))
    exact bd_paren hp (X 0 _ out ho) (fun e=>E 0 _ _ e)
   ·split
    ·rename_i k
     have hp:p.a + 1 ≤ M.length:=by
      cases e:M[p.a]? with
      | none=>rw [e] at k; cases k.2
      | some t=>exact (List.getElem?_eq_some_iff.1 e).1
     exact bd_leaf (q:=skipP p) hp (Nat.le_succ _) (fun _=>Nat.le_refl _) rfl _ _ _ _ _ _
    ·split
     ·rename_i k
      obtain ⟨v1,v2,v3⟩:=value_bd h
      exact bd_leaf v1 v2 (fun e=>value_ok k.1 e) v3 _ _ _ _ _ _
     ·obtain ⟨s1,s2⟩:=stop_op M p 16
      exact ⟨by show (stopP M p 16).a ≤ _; omega,by show _ ≤ (stopP M p 16).a; omega,by show out.length + _ ≤ out.length + (stopP M p 16).a; omega,Nat.le_refl _,by show _ ≤ (stopP M p 16).op; omega,by show (stopP M p 16).op ≤ _; omega,fun k=>absurd k (stop_no M p 16 (by decide))⟩
def Ln (p q:Pl):Prop:=q.er=0 → p.er=0 ∧ q.line=p.line ∧ q.col=p.col
theorem Ln.refl (p:Pl):Ln p p:=fun e=>⟨e,rfl,rfl⟩
theorem Ln.trans {p q r:Pl} (h:Ln p q) (k:Ln q r):Ln p r:=fun e=>by
 obtain ⟨k1,k2,k3⟩:=k e
 obtain ⟨h1,h2,h3⟩:=h k1
 exact ⟨h1,k2.trans h2,k3.trans h3⟩
theorem ln_skip (p:Pl):Ln p (skipP p):=fun e=>⟨e,rfl,rfl⟩
theorem ln_stop (M:List Tk) (p:Pl) (e:Nat) (he:e ≠ 0):Ln p (stopP M p e):=fun k=>absurd k (stop_no M p e he)
theorem ln_want (M:List Tk) (p:Pl) (s:List UInt8):Ln p (wantP M p s):=by
 unfold wantP
 split
 ·exact ln_skip p
 ·exact ln_stop M p 16 (by decide)
theorem ln_open (M:List Tk) (p:Pl):Ln p (openP M p):=by
 unfold openP
 split
 ·exact ln_stop M p 13 (by decide)
 ·exact fun e=>⟨e,rfl,rfl⟩
theorem ln_shut (p:Pl):Ln p (shutP p):=fun e=>⟨e,rfl,rfl⟩
theorem ln_num (M:List Tk) (p q:Pl) (b:Bool) (h:Ln p q):Ln p (numP M p q b).2.1:=by
 unfold numP
 split
 ·exact Ln.refl p
 ·split
  ·split
   ·exact h.trans (ln_skip q)
   ·split
    ·exact h.trans (ln_skip q)
    ·exact h.trans (ln_stop M q 5 (by decide))
  ·exact Ln.refl p
theorem ln_value (M:List Tk) (p:Pl):Ln p (valueP M p).2.1:=by
 unfold valueP
 split
 ·split
  ·exact Ln.refl p
  ·split
   ·exact ln_skip p
   ·split
    ·exact ln_skip p
    ·split
     ·exact ln_num M p _ _ (ln_skip p)
     ·exact ln_num M p p _ (Ln.refl p)
 ·exact Ln.refl p
theorem ln_node (M:List Tk) (p:Pl) (n:Nat) (out:List Ex) (op a b:Int) (s:List UInt8) (v:Vd):Ln p (nodeP M p n out op a b s v).2:=by
 unfold nodeP
 by_cases h:p.er=0
 ·rw [if_pos h]
  split
  ·exact Ln.refl p
  ·exact fun e=>absurd e (by show ¬ (13:Nat)=0; decide)
 ·rw [if_neg h]
  exact Ln.refl p
theorem ln_cmp (M:List Tk) (p1:Pl) (f m op:Nat) (r:List Ex × Pl):Ln r.2 (cmpP M p1 f m op r).2:=by
 unfold cmpP
 split
 ·split <;> exact ln_node M _ _ _ _ _ _ _ _
 ·exact Ln.refl _
theorem ln_expr (M:List Tk):∀ (n lv:Nat) (p:Pl) (out:List Ex),Ln p (exprP M n lv p out).2
 | 0,_,p,_=>Ln.refl p
 | n + 1,lv,p,out=>by
  have ih:=ln_expr M n
  have hlv:lv=0 ∨ lv=1 ∨ lv=2 ∨ lv=3 ∨ lv=4 ∨ lv=5 ∨ lv=6 ∨ lv=7 ∨ lv=8 ∨ lv=9 ∨ lv=10 ∨ 11 ≤ lv:=by omega
  rcases hlv with rfl | rfl | rfl | rfl | rfl | rfl | rfl | rfl | rfl | rfl | rfl | h11
  ·exact (ih 2 p out).trans (ih 1 _ _)
  ·rw [exprP_1]
   split
   ·exact (ln_skip p).trans ((ih 2 _ _).trans ((ln_node M _ _ _ _ _ _ _ _).trans (ih 1 _ _)))
   ·exact Ln.refl p
  ·exact (ih 4 p out).trans (ih 3 _ _)
  ·rw [exprP_3]
   split
   ·exact (ln_skip p).trans ((ih 4 _ _).trans ((ln_node M _ _ _ _ _ _ _ _).trans (ih 3 _ _)))
   ·exact Ln.refl p
  ·rw [exprP_4]
   split
   ·exact (ln_open M p).trans ((ih 4 _ _).trans ((ln_shut _).trans (ln_node M _ _ _ _ _ _ _ _)))
   ·exact ih 5 p out
  ·rw [exprP_5]
   split
   ·exact ih 6 p out
   ·exact (ih 6 p out).trans ((ln_skip _).trans ((ih 6 _ _).trans (ln_cmp M _ _ _ _ _)))
  ·exact (ih 8 p out).trans (ih 7 _ _)
  ·rw [exprP_7]
   split
   ·exact Ln.refl p
   ·exact (ln_skip p).trans ((ih 8 _ _).trans ((ln_node M _ _ _ _ _ _ _ _).trans (ih 7 _ _)))
  ·exact (ih 10 p out).trans (ih 9 _ _)
  ·rw [exprP_9]
   split
   ·exact Ln.refl p
   ·exact (ln_skip p).trans ((ih 10 _ _).trans ((ln_node M _ _ _ _ _ _ _ _).trans (ih 9 _ _)))
  ·rw [exprP_10]
   split
   ·split
    ·exact (ln_value M p).trans (ln_node M _ _ _ _ _ _ _ _)
    ·exact (ln_open M p).trans ((ih 10 _ _).trans ((ln_shut _).trans (ln_node M _ _ _ _ _ _ _ _)))
   ·exact ih 11 p out
  ·obtain ⟨d,rfl⟩:∃ d,lv=d + 11:=⟨lv - 11,by omega⟩
   rw [exprP_11]
   split
   ·exact (ln_open M p).trans ((ih 0 _ _).trans ((ln_want M _ _).trans (ln_shut _)))
   ·split
    ·exact (ln_skip p).trans (ln_node M _ _ _ _ _ _ _ _)
    ·split
     ·exact (ln_value M p).trans (ln_node M _ _ _ _ _ _ _ _)
     ·exact ln_stop M p 16 (by decide)
theorem xP_ok {M:List Tk} (h:(xP M).2.er=0):(xP M).2.line=0 ∧ (xP M).2.col=0:=(ln_expr M _ 0 pl0 [] h).2
theorem exprX_no {M:List Tk} (hM:NumTk M) (h:(xP M).2.er ≠ 0):exprX M=.error ((xP M).2.er,(xP M).2.line,(xP M).2.col):=by
 have e:endP M (xP M)=(xP M).2:=by unfold endP; rw [if_neg (fun k=>h k.1)]
 rw [x_same hM,e,if_neg h]
theorem exprX_more {M:List Tk} (hM:NumTk M) (h:(xP M).2.er=0) (hl:(xP M).2.a < M.length):exprX M=.error (16,(tkAt M (xP M).2.a).line,(tkAt M (xP M).2.a).col):=by
 have e:endP M (xP M)=⟨(xP M).2.a,16,(tkAt M (xP M).2.a).line,(tkAt M (xP M).2.a).col,(xP M).2.op⟩:=by unfold endP; rw [if_pos ⟨h,hl⟩]
 rw [x_same hM,e,if_neg (by show ¬ (16:Nat)=0; decide)]
theorem exprX_ok {M:List Tk} (hM:NumTk M) (h:(xP M).2.er=0) (hl:¬ (xP M).2.a < M.length):exprX M=.ok (xP M).1:=by
 have e:endP M (xP M)=(xP M).2:=by unfold endP; rw [if_neg (fun k=>hl k.2)]
 rw [x_same hM,e,if_pos h]
theorem xP_len (M:List Tk):(xP M).1.length ≤ M.length:=by
 have h:=expr_bd M (needP M 0 pl0) 0 pl0 [] (Nat.zero_le _)
 have h1:=h.len
 have h2:=h.le
 have h3:(xP M).1.length + 0 ≤ 0 + (xP M).2.a:=h1
 have h4:(xP M).2.a ≤ M.length:=h2
 omega
def canP (M:List Tk) (lv:Nat) (p:Pl) (o:List Ex):List Ex × Pl:=exprP M (needP M lv p) lv p o
theorem can_eq {M:List Tk} {n lv:Nat} {p:Pl} {o:List Ex} (h:needP M lv p ≤ n):exprP M n lv p o=canP M lv p o :=
 (fuel_enough M (needP M lv p) lv p o (Nat.le_refl _)).2 n h
theorem can_mu (M:List Tk) (lv:Nat) (p:Pl) (o:List Ex):muP M (canP M lv p o).2 ≤ muP M p:=(fuel_enough M (needP M lv p) lv p o (Nat.le_refl _)).1
theorem can_up {M:List Tk} {lv:Nat} {p:Pl} {o:List Ex} (h:lv=0 ∨ lv=2 ∨ lv=6 ∨ lv=8):canP M lv p o=canP M (lv + 1) (canP M (lv + 2) p o).2 (canP M (lv + 2) p o).1:=by
 have m1:=can_mu M (lv + 2) p o
 have key:∀ n,needP M lv p ≤ n + 1 → (exprP M n (lv + 2) p o=canP M (lv + 2) p o) ∧ exprP M n (lv + 1) (canP M (lv + 2) p o).2 (canP M (lv + 2) p o).1=canP M (lv + 1) (canP M (lv + 2) p o).2 (canP M (lv + 2) p o).1:=fun n hn=>by
  refine ⟨can_eq ?_,can_eq ?_⟩
  ·unfold needP at hn ⊢
   rcases h with rfl | rfl | rfl | rfl <;> (simp only [rankP] at hn ⊢; omega)
  ·unfold needP at hn ⊢
   rcases h with rfl | rfl | rfl | rfl <;> (simp only [rankP] at hn ⊢; omega)
 obtain ⟨n,hn⟩:∃ n,needP M lv p=n + 1:=⟨needP M lv p - 1,by have:=rank_pos lv; unfold needP; omega⟩
 obtain ⟨k1,k2⟩:=key n (by omega)
 unfold canP at k1 k2 ⊢
 rw [hn]
 rcases h with rfl | rfl | rfl | rfl
 ·rw [exprP_0,k1,k2]
 ·rw [exprP_2,k1,k2]
 ·rw [exprP_6,k1,k2]
 ·rw [exprP_8,k1,k2]
def jnS:Nat → List (List UInt8 × Nat)
 | 1=>[(kwOr,7)] | 3=>[(kwAnd,6)] | 7=>plusS | _=>timesS
def rndP (M:List Tk) (lv:Nat) (p:Pl) (o:List Ex):List Ex × Pl :=
 nodeP M (canP M (lv + 1) (skipP p) o).2 p.a (canP M (lv + 1) (skipP p) o).1 (firstOp M p (jnS lv)) ((o.length:Int) - 1) (((canP M (lv + 1) (skipP p) o).1.length:Int) - 1) [] v0
theorem can_end {M:List Tk} {lv:Nat} {p:Pl} {o:List Ex} (h:joinL lv) (h0:firstOp M p (jnS lv)=0):canP M lv p o=(o,p):=by
 obtain ⟨n,hn⟩:∃ n,needP M lv p=n + 1:=⟨needP M lv p - 1,by have:=rank_pos lv; unfold needP; omega⟩
 have one:∀ s k,firstOp M p [(s,k + 1)]=0 → isP M p s=false:=fun s k e=>by
  rw [firstOp] at e
  cases hs:isP M p s with
  | false=>rfl
  | true=>rw [hs,if_pos rfl] at e; exact absurd e (by omega)
 unfold canP
 rw [hn]
 unfold joinL at h
 rcases h with rfl | rfl | rfl | rfl
 ·rw [exprP_1,one _ 6 h0,if_neg (by decide)]
 ·rw [exprP_3,one _ 5 h0,if_neg (by decide)]
 ·rw [exprP_7,if_pos (show firstOp M p plusS=0 from h0)]
 ·rw [exprP_9,if_pos (show firstOp M p timesS=0 from h0)]
theorem can_more {M:List Tk} {lv:Nat} {p:Pl} {o:List Ex} (h:joinL lv) (h0:firstOp M p (jnS lv) ≠ 0):canP M lv p o=canP M lv (rndP M lv p o).2 (rndP M lv p o).1 ∧ muP M (rndP M lv p o).2 + 1 ≤ muP M p:=by
 obtain ⟨s,hs⟩:=firstOp_some (jnS lv) h0
 have m0:=mu_skip hs
 have m1:=can_mu M (lv + 1) (skipP p) o
 have m2:muP M (rndP M lv p o).2 ≤ muP M (canP M (lv + 1) (skipP p) o).2:=mu_node M _ _ _ _ _ _ _ _
 refine ⟨?_,by omega⟩
 obtain ⟨n,hn⟩:∃ n,needP M lv p=n + 1:=⟨needP M lv p - 1,by have:=rank_pos lv; unfold needP; omega⟩
 have k1:exprP M n (lv + 1) (skipP p) o=canP M (lv + 1) (skipP p) o:=can_eq (by
  have:=rank_le (lv + 1)
  have:=rank_pos lv
  unfold needP at hn ⊢
  omega)
 have k2:exprP M n lv (rndP M lv p o).2 (rndP M lv p o).1=canP M lv (rndP M lv p o).2 (rndP M lv p o).1:=can_eq (by
  unfold needP at hn ⊢
  omega)
 have one:∀ s k,firstOp M p [(s,k + 1)] ≠ 0 → isP M p s=true ∧ firstOp M p [(s,k + 1)]=k + 1:=fun s k e=>by
  rw [firstOp] at e ⊢
  cases hs:isP M p s with
  | true=>exact ⟨rfl,by rw [if_pos rfl]⟩
  | false=>rw [hs,if_neg (by decide)] at e; exact absurd rfl e
 unfold rndP at k2 ⊢
 rw [← k2,show canP M lv p o=exprP M (n + 1) lv p o by unfold canP; rw [hn]]
 unfold joinL at h
 rcases h with rfl | rfl | rfl | rfl
 ·obtain ⟨e1,e2⟩:=one _ 6 h0
  have e3:firstOp M p (jnS 1)=7:=e2
  rw [exprP_1,e1,if_pos rfl,k1,e3]; rfl
 ·obtain ⟨e1,e2⟩:=one _ 5 h0
  have e3:firstOp M p (jnS 3)=6:=e2
  rw [exprP_3,e1,if_pos rfl,k1,e3]; rfl
 ·have e3:firstOp M p plusS ≠ 0:=h0
  rw [exprP_7,if_neg e3,k1]; rfl
 ·have e3:firstOp M p timesS ≠ 0:=h0
  rw [exprP_9,if_neg e3,k1]; rfl
end Go.Proofs.YtmknmmbfaljkbaaGreatDoor
