/- paclaim: ParMath ParInv ParCl ParOk ParExpr -/
import Derived.Test.YtiafhfchjhffhaaGreatDoorLowMath
import Derived.Test.YtiafhfchjhffhaaGreatDoorLowVal
namespace Go.Proofs.YtiafhfchjhffhaaGreatDoor
set_option linter.unusedVariables false
structure Pl where
 (a er line col:Nat) (op:Int)
def pl0:Pl:=⟨0,0,0,0,0⟩
def kwOr:List UInt8:=[111,114]
def kwAnd:List UInt8:=[97,110,100]
def kwNot:List UInt8:=[110,111,116]
def kwTrue:List UInt8:=[116,114,117,101]
def kwFalse:List UInt8:=[102,97,108,115,101]
def isP (M:List Tk) (p:Pl) (s:List UInt8):Bool :=
 p.er == 0 && (match M[p.a]? with | some t=>(t.k == 2 || t.k == 5) && t.t == s | none=>false)
def stopP (M:List Tk) (p:Pl) (e:Nat):Pl :=
 if p.er=0 then
  match M[min p.a (M.length - 1)]? with
  | some t=>⟨p.a,e,t.line,t.col,p.op⟩
  | none=>⟨p.a,e,1,1,p.op⟩
 else p
def skipP (p:Pl):Pl:=⟨p.a + 1,p.er,p.line,p.col,p.op⟩
def wantP (M:List Tk) (p:Pl) (s:List UInt8):Pl:=if isP M p s=true then skipP p else stopP M p 16
def shutP (p:Pl):Pl:=⟨p.a,p.er,p.line,p.col,p.op - 1⟩
def vStr (t:List UInt8):Vd:=⟨2,0,⟨t.toArray⟩,false⟩
def vInt (n:Int):Vd:=⟨1,n,⟨#[]⟩,false⟩
def vBool (b:Bool):Vd:=⟨3,0,⟨#[]⟩,b⟩
def signed (b:Bool) (t:List UInt8):List UInt8:=(if b then [45] else []) ++ t
def tkAt (M:List Tk) (n:Nat):Tk:=M.getD n default
def firstOp (M:List Tk) (p:Pl):List (List UInt8 × Nat) → Nat
 | []=>0
 | (s,o) :: r=>if isP M p s=true then o else firstOp M p r
def timesS:List (List UInt8 × Nat):=[([42],10),([47],11),([37],12)]
def plusS:List (List UInt8 × Nat):=[([43],8),([45],9)]
def cmpS:List (List UInt8 × Nat):=[([61,61],13),([33,61],14),([60],15),([60,61],16),([62],115),([62,61],116)]
def muP (M:List Tk) (p:Pl):Nat:=if p.er=0 then M.length - p.a else 0
theorem isP_some {M:List Tk} {p:Pl} {s:List UInt8} (h:isP M p s=true):p.er=0 ∧ p.a < M.length:=by
 unfold isP at h
 rw [Bool.and_eq_true,beq_iff_eq] at h
 refine ⟨h.1,?_⟩
 cases e:M[p.a]? with
 | none=>rw [e] at h; cases h.2
 | some t=>exact (List.getElem?_eq_some_iff.1 e).1
theorem mu_skip {M:List Tk} {p:Pl} {s:List UInt8} (h:isP M p s=true):muP M (skipP p) + 1 ≤ muP M p:=by
 obtain ⟨h1,h2⟩:=isP_some h
 unfold muP skipP
 rw [if_pos h1,if_pos h1]
 show M.length - (p.a + 1) + 1 ≤ _
 omega
theorem firstOp_some {M:List Tk} {p:Pl}:∀ (L:List (List UInt8 × Nat)),firstOp M p L ≠ 0 → ∃ s,isP M p s=true
 | [],h=>absurd rfl h
 | (s,o) :: r,h=>by
  unfold firstOp at h
  by_cases k:isP M p s=true
  ·exact ⟨s,k⟩
  ·rw [if_neg k] at h
   exact firstOp_some r h
def rankP:Nat → Nat
 | 0=>12 | 1=>11 | 2=>10 | 3=>9 | 4=>8 | 5=>7 | 6=>6 | 7=>5 | 8=>4 | 9=>3 | 10=>2 | _=>1
def needP (M:List Tk) (lv:Nat) (p:Pl):Nat:=13 * muP M p + rankP lv
theorem rank_le (lv:Nat):rankP lv ≤ 12:=by
 unfold rankP
 split <;> omega
theorem rank_pos (lv:Nat):1 ≤ rankP lv:=by
 unfold rankP
 split <;> omega
def Ge (p q:Pl):Prop:=p.a ≤ q.a ∧ (q.er=0 → p.er=0)
theorem Ge.refl (p:Pl):Ge p p:=⟨Nat.le_refl _,id⟩
theorem Ge.trans {p q r:Pl} (h:Ge p q) (k:Ge q r):Ge p r:=⟨Nat.le_trans h.1 k.1,fun e=>h.2 (k.2 e)⟩
def Cl (f:Nat) (l:List Ex):Prop:=∀ (n:Nat) (x:Ex),f ≤ n → l[n]? = some x → (x.op=1 ∨ x.op=17) ∨ (4 ≤ x.op ∧ x.op ≤ 16 ∧ (f:Int) ≤ x.a ∧ x.a < n ∧ (5 < x.op → (f:Int) ≤ x.b ∧ x.b < n))
theorem Cl.none (l:List Ex):Cl l.length l:=fun n x hn hx=>by
 have:=(List.getElem?_eq_some_iff.1 hx).1
 omega
theorem Cl.join {f:Nat} {o r:List Ex} (h1:Cl f o) (h2:Cl o.length r) (ht:r.take o.length=o) (hf:f ≤ o.length):Cl f r:=fun n x hn hx=>by
 by_cases hl:n < o.length
 ·have e:o[n]? = some x:=by rw [← ht,List.getElem?_take,if_pos hl]; exact hx
  exact h1 n x hn e
 ·rcases h2 n x (by omega) hx with k | ⟨a,b,c,d,e⟩
  ·exact .inl k
  ·exact .inr ⟨a,b,by omega,d,fun k=>⟨by have:=(e k).1; omega,(e k).2⟩⟩
theorem stop_no (M:List Tk) (p:Pl) (e:Nat) (he:e ≠ 0):(stopP M p e).er ≠ 0:=by
 unfold stopP
 by_cases h:p.er=0
 ·rw [if_pos h]
  split <;> exact he
 ·rw [if_neg h]
  exact h
theorem firstOp_mem {M:List Tk} {p:Pl}:∀ (L:List (List UInt8 × Nat)),firstOp M p L ≠ 0 → firstOp M p L ∈ L.map Prod.snd
 | [],h=>absurd rfl h
 | (s,o) :: r,h=>by
  unfold firstOp at h ⊢
  by_cases k:isP M p s=true
  ·rw [if_pos k]
   simp
  ·rw [if_neg k] at h ⊢
   exact List.mem_cons_of_mem _ (firstOp_mem r h)
theorem cmp_op {M:List Tk} {p:Pl} (h:firstOp M p cmpS ≠ 0):(6 ≤ firstOp M p cmpS ∧ firstOp M p cmpS ≤ 16) ∨ (106 ≤ firstOp M p cmpS ∧ firstOp M p cmpS ≤ 116):=by
 have h2:firstOp M p cmpS ∈ [13,14,15,16,115,116]:=firstOp_mem _ h
 simp only [List.mem_cons,List.not_mem_nil,or_false] at h2
 omega
def joinL (lv:Nat):Prop:=lv=1 ∨ lv=3 ∨ lv=7 ∨ lv=9
end Go.Proofs.YtiafhfchjhffhaaGreatDoor
