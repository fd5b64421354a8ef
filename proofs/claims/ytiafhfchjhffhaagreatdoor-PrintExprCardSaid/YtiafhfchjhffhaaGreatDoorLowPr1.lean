/- paclaim: PrLex PrEt PrNodes PrIs -/
import Derived.Test.YtiafhfchjhffhaaGreatDoorLowMath
import Derived.Test.YtiafhfchjhffhaaGreatDoorLowPa2
import Derived.Test.YtiafhfchjhffhaaGreatDoorLowVal2
import Derived.Test.YtiafhfchjhffhaaGreatDoorLowQuo
import Derived.Lib.ItoaLen
import Derived.Test.YtiafhfchjhffhaaGreatDoorLowEq
namespace Go.Proofs.YtiafhfchjhffhaaGreatDoor
set_option linter.unusedVariables false
abbrev Tx:=Nat × List UInt8
def txOf (t:Tk):Tx:=(t.k,t.t)
def Lx (l:List UInt8) (ts:List Tx):Prop:=∀ p,∃ M,tokT l p=.ok M ∧ M.map txOf=ts
theorem lx_nil:Lx [] []:=fun p=>⟨[],tok_end (step_none p),rfl⟩
theorem step_blank {c:UInt8} (hc:blankB c=true) (h35:c ≠ 35) (l:List UInt8) (p:Nat × Nat):stepT (c :: l) p=stepT l (if c=10 then (p.1 + 1,1) else (p.1,p.2 + 1)):=by
 have hb:blankN (c :: l) false=blankN l false + 1:=by rw [blankN,if_neg h35,if_pos hc]
 unfold stepT
 rw [hb,List.drop_succ_cons,List.take_succ_cons,adv]
theorem lx_blank {c:UInt8} {r:List UInt8} {ts:List Tx} (hc:blankB c=true) (h35:c ≠ 35) (h:Lx r ts):Lx (c :: r) ts:=fun p=>by
 obtain ⟨M,h1,h2⟩:=h (if c=10 then (p.1 + 1,1) else (p.1,p.2 + 1))
 refine ⟨M,?_,h2⟩
 have hs:=step_blank hc h35 r p
 rw [← h1]
 generalize (if c=10 then (p.1 + 1,1) else (p.1,p.2 + 1))=q at hs
 cases e:stepT r q with
 | error x=>rw [tok_bad e,tok_bad (hs.trans e)]
 | ok o =>
  cases o with
  | none=>rw [tok_end e,tok_end (hs.trans e)]
  | some z=>obtain ⟨x,y,w⟩:=z; rw [tok_more e,tok_more (hs.trans e)]
theorem lx_sp {r:List UInt8} {ts:List Tx} (h:Lx r ts):Lx (32 :: r) ts:=lx_blank (by decide) (by decide) h
theorem lx_tok {k:Nat} {t r:List UInt8} {ts:List Tx} (hf:firstT (tkL k t ++ r)=.ok (k,t,(tkL k t).length)) (h:Lx r ts):Lx (tkL k t ++ r) ((k,t) :: ts):=fun p=>by
 have ht:=told_first hf
 have hp:=ht.pos
 have h0:tkL k t ++ r ≠ []:=by
  intro e
  rw [(List.append_eq_nil_iff.1 e).1] at hp
  simp at hp
 have hs:stepT (tkL k t ++ r) p=.ok (some (⟨k,t,p.1,p.2⟩,r,(p.1,p.2 + (tkL k t).length))):=by
  unfold stepT
  rw [ht.blank r,List.drop_zero,if_neg h0,hf,List.take_zero]
  simp only [adv]
  rw [List.drop_left]
 obtain ⟨M,h1,h2⟩:=h (p.1,p.2 + (tkL k t).length)
 refine ⟨⟨k,t,p.1,p.2⟩ :: M,?_,?_⟩
 ·rw [tok_more hs,h1]
 ·rw [List.map_cons,h2]; rfl
def okR (r:List UInt8):Prop:=∀ c,r.head? = some c → nameC c=false
theorem okR_nil:okR []:=fun c h=>by simp at h
theorem okR_cons {c:UInt8} {r:List UInt8} (h:nameC c=false):okR (c :: r):=fun d e=>by
 simp at e
 rw [← e]; exact h
theorem run_okR {x r:List UInt8} (hx:x.all nameC=true) (h:okR r):runL (x ++ r)=x:=by
 unfold runL
 rw [List.takeWhile_append_of_pos (fun c hc=>List.all_eq_true.1 hx c hc)]
 cases r with
 | nil=>simp
 | cons c r=>rw [List.takeWhile_cons_of_neg (by rw [h c rfl]; decide),List.append_nil]
theorem lx_run {k:Nat} {x r:List UInt8} {ts:List Tx} (hw:wordT x=.ok (k,x,x.length)) (hx:x.all nameC=true) (h0:x ≠ []) (hr:okR r) (h:Lx r ts):Lx (x ++ r) ((k,x) :: ts):=by
 obtain ⟨_,_,_,hk⟩:=word_ok hw
 have e:tkL k x=x:=by rw [tkL,if_neg (by omega)]
 have hrr:=run_okR hx hr
 have hf:firstT (tkL k x ++ r)=.ok (k,x,(tkL k x).length):=by
  rw [e,first_run (by rw [hrr]; cases x with | nil=>exact absurd rfl h0 | cons c y=>rfl),hrr]
  exact hw
 have:=lx_tok hf h
 rwa [e] at this
theorem lx_quote {t r:List UInt8} {ts:List Tx} (hl:t.length ≤ 4096) (h:Lx r ts):Lx (quoteL t ++ r) ((4,t) :: ts):=by
 have hf:firstT (tkL 4 t ++ r)=.ok (4,t,(tkL 4 t).length):=by
  show firstT (quoteL t ++ r)=_
  rw [firstT,if_pos (by rfl),cut_yes]
  simp only
  rw [if_neg (by omega)]
  rfl
 exact lx_tok hf h
theorem lx_s1 {c:UInt8} {r:List UInt8} {ts:List Tx} (hc:c=40 ∨ c=41 ∨ c=44 ∨ c=58 ∨ c=43 ∨ c=45 ∨ c=42 ∨ c=47 ∨ c=37 ∨ ((c=60 ∨ c=62 ∨ c=61) ∧ r.head? ≠ some 61)) (h:Lx r ts):Lx (c :: r) ((5,[c]) :: ts):=by
 have hs:signN (c :: r)=1:=by
  rw [signN,if_neg,if_pos]
  ·rcases hc with rfl | rfl | rfl | rfl | rfl | rfl | rfl | rfl | rfl | ⟨rfl | rfl | rfl,_⟩ <;> decide
  ·rintro ⟨k1,k2⟩
   rcases hc with rfl | rfl | rfl | rfl | rfl | rfl | rfl | rfl | rfl | ⟨_,k3⟩
   all_goals first | exact k3 k2 | exact absurd k1 (by decide)
 have hc2:=sign_one hs
 have hf:firstT (tkL 5 [c] ++ r)=.ok (5,[c],(tkL 5 [c]).length):=by
  show firstT (c :: r)=_
  have hn:nameC c=false:=by rcases hc2 with rfl | rfl | rfl | rfl | rfl | rfl | rfl | rfl | rfl | rfl | rfl | rfl <;> decide
  have hr0:runL (c :: r)=[]:=by unfold runL; rw [List.takeWhile_cons_of_neg (by rw [hn]; decide)]
  have h34:¬ (c :: r).head? = some 34:=by
   rcases hc2 with rfl | rfl | rfl | rfl | rfl | rfl | rfl | rfl | rfl | rfl | rfl | rfl <;> simp
  rw [firstT,if_neg h34,if_pos hr0,if_neg (by rw [hs]; decide),hs]
  rfl
 exact lx_tok hf h
theorem lx_s2 {c:UInt8} {r:List UInt8} {ts:List Tx} (hc:c=61 ∨ c=33 ∨ c=60 ∨ c=62) (h:Lx r ts):Lx (c :: 61 :: r) ((5,[c,61]) :: ts):=by
 have hs:signN (c :: 61 :: r)=2:=by rw [signN,if_pos ⟨hc,rfl⟩]
 have hf:firstT (tkL 5 [c,61] ++ r)=.ok (5,[c,61],(tkL 5 [c,61]).length):=by
  show firstT (c :: 61 :: r)=_
  have hn:nameC c=false:=by rcases hc with rfl | rfl | rfl | rfl <;> decide
  have hr0:runL (c :: 61 :: r)=[]:=by unfold runL; rw [List.takeWhile_cons_of_neg (by rw [hn]; decide)]
  have h34:¬ (c :: 61 :: r).head? = some 34:=by rcases hc with rfl | rfl | rfl | rfl <;> simp
  rw [firstT,if_neg h34,if_pos hr0,if_neg (by rw [hs]; decide),hs]
  rfl
 exact lx_tok hf h
theorem name_run {n:ByteArray} (h:nameB n=true):wordT n.data.toList=.ok (1,n.data.toList,n.data.toList.length) ∧ n.data.toList.all nameC=true ∧ n.data.toList ≠ []:=by
 have hsp:speltL n.data.toList=true:=by
  unfold nameB at h
  rw [Bool.and_eq_true] at h
  exact h.1
 generalize hx:n.data.toList=x at hsp
 cases x with
 | nil=>simp [speltL] at hsp
 | cons c r =>
  simp only [speltL,Bool.and_eq_true,decide_eq_true_eq,Bool.not_eq_true'] at hsp
  obtain ⟨h1,h2,h3⟩:=hsp
  refine ⟨?_,h3,by simp⟩
  unfold wordT
  rw [if_neg (by simp [h2]),if_neg (by omega)]
  have:nameB ⟨(c :: r).toArray⟩=true:=by rw [← hx]; exact h
  rw [this]
  rfl
theorem lx_name {n:ByteArray} {r:List UInt8} {ts:List Tx} (hn:nameB n=true) (hr:okR r) (h:Lx r ts):Lx (n.data.toList ++ r) ((1,n.data.toList) :: ts):=by
 obtain ⟨h1,h2,h3⟩:=name_run hn
 exact lx_run h1 h2 h3 hr h
inductive Et where
 | val (v:Vd)
 | nam (n:ByteArray)
 | un (op:Int) (a:Et)
 | bin (op:Int) (a b:Et)
def lvO (op:Int):Nat:=if op=7 then 1 else if op=6 then 2 else if op=4 then 3 else if 13 ≤ op ∧ op ≤ 16 then 4 else if op=8 ∨ op=9 then 5 else if 10 ≤ op ∧ op ≤ 12 then 6 else if op=5 then 7 else 8
def Et.lv:Et → Nat
 | .val _=>8
 | .nam _=>8
 | .un op _=>lvO op
 | .bin op _ _=>lvO op
def posE:Et → Bool
 | .val v=>decide (v.k=1) && decide (0 ≤ v.i)
 | _=>false
def lefL (op:Int):Nat:=if lvO op=4 then 5 else lvO op
def Et.dep:Et → Nat
 | .val _=>1
 | .nam _=>1
 | .un _ a=>a.dep + 1
 | .bin _ a b=>max a.dep b.dep + 1
def Et.num:Et → Nat
 | .val _=>1
 | .nam _=>1
 | .un _ a=>a.num + 1
 | .bin _ a b=>a.num + b.num + 1
def bE (op:Int):Ex:=⟨op,0,0,⟨#[]⟩,v0,0,0⟩
def Et.post:Et → List Ex
 | .val v=>[⟨1,0,0,⟨#[]⟩,v,0,0⟩]
 | .nam n=>[⟨17,0,0,n,v0,0,0⟩]
 | .un op a=>a.post ++ [bE op]
 | .bin op a b=>a.post ++ b.post ++ [bE op]
def vOk (v:Vd):Prop:=rightV v=true ∧ -9223372036854775808 ≤ v.i ∧ v.i ≤ 9223372036854775807
def Et.ok:Et → Prop
 | .val v=>vOk v
 | .nam n=>nameB n=true
 | .un op a=>(op=4 ∨ op=5) ∧ a.ok
 | .bin op a b=>6 ≤ op ∧ op ≤ 16 ∧ a.ok ∧ b.ok
def valTk (v:Vd):List Tx :=
 if v.k=1 then (if v.i < 0 then [(5,[45]),(3,Lib.decDigits v.i.natAbs)] else [(3,Lib.decDigits v.i.toNat)])
 else if v.k=2 then [(4,v.s.data.toList)] else [(2,if v.b=true then kwTrue else kwFalse)]
def valTx (v:Vd):List UInt8:=valText v.k v.i v.s v.b
def signT (op:Int):Tx :=
 if op=6 then (2,kwAnd) else if op=7 then (2,kwOr) else if op=8 then (5,[43]) else if op=9 then (5,[45]) else if op=10 then (5,[42]) else if op=11 then (5,[47]) else if op=12 then (5,[37])
 else if op=13 then (5,[61,61]) else if op=14 then (5,[33,61]) else if op=15 then (5,[60]) else (5,[60,61])
def brk (b:Bool) (ts:List Tx):List Tx:=if b=true then (5,[40]) :: (ts ++ [(5,[41])]) else ts
def brkL (b:Bool) (l:List UInt8):List UInt8:=if b=true then 40 :: (l ++ [41]) else l
def negB (a:Et):Bool:=decide (a.lv < 7) || posE a
def Et.tk:Et → List Tx
 | .val v=>valTk v
 | .nam n=>[(1,n.data.toList)]
 | .un op a=>if op=4 then (2,kwNot) :: brk (decide (a.lv < 3)) a.tk else (5,[45]) :: brk (negB a) a.tk
 | .bin op a b=>brk (decide (a.lv < lefL op)) a.tk ++ signT op :: brk (decide (b.lv < lvO op + 1)) b.tk
def Et.tx:Et → List UInt8
 | .val v=>valTx v
 | .nam n=>n.data.toList
 | .un op a=>if op=4 then kwNot ++ 32 :: brkL (decide (a.lv < 3)) a.tx else 45 :: brkL (negB a) a.tx
 | .bin op a b=>brkL (decide (a.lv < lefL op)) a.tx ++ 32 :: ((signT op).2 ++ 32 :: brkL (decide (b.lv < lvO op + 1)) b.tx)
theorem lv_bounds (e:Et):1 ≤ e.lv ∧ e.lv ≤ 8:=by
 have h:∀ op,1 ≤ lvO op ∧ lvO op ≤ 8:=fun op=>by unfold lvO; constructor <;> (repeat' split) <;> omega
 cases e with
 | val v=>exact ⟨by show 1 ≤ 8; decide,by show 8 ≤ 8; decide⟩
 | nam n=>exact ⟨by show 1 ≤ 8; decide,by show 8 ≤ 8; decide⟩
 | un op a=>exact h op
 | bin op a b=>exact h op
theorem dg_name {c:UInt8}:isD c=true → nameC c=true ∧ digitB c=true:=by
 have:∀ c:UInt8,isD c=true → nameC c=true ∧ digitB c=true:=all8 (by decide +kernel)
 exact this c
theorem lx_dec {u:Nat} (hu:u < 18446744073709551616) {r:List UInt8} {ts:List Tx} (hr:okR r) (h:Lx r ts):Lx (Lib.decDigits u ++ r) ((3,Lib.decDigits u) :: ts):=by
 have hd:=dec_digits u
 have h0:=dec_ne u
 have hl:(Lib.decDigits u).length ≤ 20:=by rw [Lib.decDigits_length]; exact Lib.nDigits_le20 u hu
 have hh:1 < (Lib.decDigits u).length → (Lib.decDigits u).head? ≠ some 48:=fun k e=>by
  by_cases hz:u=0
  ·subst hz
   rw [Lib.decDigits_one (by omega)] at k
   simp at k
  ·exact dec_head u hz e
 generalize Lib.decDigits u=x at *
 have hall:x.all nameC=true:=by
  rw [List.all_eq_true] at hd ⊢
  exact fun c hc=>(dg_name (hd c hc)).1
 have hall2:x.all digitB=true:=by
  rw [List.all_eq_true] at hd ⊢
  exact fun c hc=>(dg_name (hd c hc)).2
 refine lx_run ?_ hall h0 hr h
 unfold wordT
 have ha:x.head?.any digitB=true:=by
  cases x with
  | nil=>exact absurd rfl h0
  | cons c y=>rw [List.all_cons,Bool.and_eq_true] at hall2; simpa using hall2.1
 rw [if_pos ha,if_neg (by rw [hall2]; decide),if_neg (fun k=>hh k.1 k.2),if_neg (by omega)]
theorem wd_word:wordT kwNot=.ok (2,kwNot,3) ∧ wordT kwAnd=.ok (2,kwAnd,3) ∧ wordT kwOr=.ok (2,kwOr,2) ∧ wordT kwTrue=.ok (2,kwTrue,4) ∧ wordT kwFalse=.ok (2,kwFalse,5):=by
 refine ⟨?_,?_,?_,?_,?_⟩ <;> (unfold wordT; rw [if_neg (by decide),if_neg (by decide),if_neg (by decide +kernel)]; rfl)
theorem lx_val {v:Vd} {r:List UInt8} {ts:List Tx} (hv:vOk v) (hr:okR r) (h:Lx r ts):Lx (valTx v ++ r) (valTk v ++ ts):=by
 obtain ⟨h1,h2,h3⟩:=hv
 have hrb:rightB v.k v.i v.s v.b=true:=h1
 unfold valTx valText
 rw [if_pos hrb]
 unfold valTk
 rcases right_kind hrb with hk | hk | hk
 ·simp only [if_pos hk]
  unfold Lib.itoa
  by_cases hn:v.i < 0
  ·simp only [if_pos hn]
   show Lx (45 :: (Lib.decDigits v.i.natAbs ++ r)) ((5,[45]) :: (3,Lib.decDigits v.i.natAbs) :: ts)
   exact lx_s1 (by simp) (lx_dec (by omega) hr h)
  ·simp only [if_neg hn]
   exact lx_dec (by omega) hr h
 ·have e1:¬ v.k=1:=by omega
  simp only [if_neg e1,if_pos hk]
  have hsz:=right_size hrb
  exact lx_quote (by rw [← ba_size]; exact hsz) h
 ·have e1:¬ v.k=1:=by omega
  have e2:¬ v.k=2:=by omega
  simp only [if_neg e1,if_neg e2]
  obtain ⟨_,_,_,w4,w5⟩:=wd_word
  cases v.b with
  | true=>exact lx_run (x:=kwTrue) w4 (by decide) (by decide) hr h
  | false=>exact lx_run (x:=kwFalse) w5 (by decide) (by decide) hr h
def LxP (x:List UInt8) (t:List Tx):Prop:=∀ r ts,okR r → Lx r ts → Lx (x ++ r) (t ++ ts)
theorem lxp_brk {b:Bool} {x:List UInt8} {t:List Tx} (h:LxP x t):LxP (brkL b x) (brk b t):=fun r ts hr hl=>by
 unfold brkL brk
 cases b with
 | false=>exact h r ts hr hl
 | true =>
  show Lx (40 :: (x ++ [41]) ++ r) ((5,[40]) :: (t ++ [(5,[41])]) ++ ts)
  rw [List.cons_append,List.cons_append,List.append_assoc,List.append_assoc]
  exact lx_s1 (by simp) (h _ _ (okR_cons (by decide)) (lx_s1 (by simp) hl))
theorem lx_signT {op:Int} (h:6 ≤ op ∧ op ≤ 16) {r:List UInt8} {ts:List Tx} (hl:Lx r ts):Lx ((signT op).2 ++ 32 :: r) (signT op :: ts):=by
 obtain ⟨_,w2,w3,_,_⟩:=wd_word
 have hs:=lx_sp hl
 have hc:op=6 ∨ op=7 ∨ op=8 ∨ op=9 ∨ op=10 ∨ op=11 ∨ op=12 ∨ op=13 ∨ op=14 ∨ op=15 ∨ op=16:=by omega
 rcases hc with rfl | rfl | rfl | rfl | rfl | rfl | rfl | rfl | rfl | rfl | rfl
 ·exact lx_run (x:=kwAnd) w2 (by decide) (by decide) (okR_cons (by decide)) hs
 ·exact lx_run (x:=kwOr) w3 (by decide) (by decide) (okR_cons (by decide)) hs
 ·exact lx_s1 (by simp) hs
 ·exact lx_s1 (by simp) hs
 ·exact lx_s1 (by simp) hs
 ·exact lx_s1 (by simp) hs
 ·exact lx_s1 (by simp) hs
 ·exact lx_s2 (by simp) hs
 ·exact lx_s2 (by simp) hs
 ·exact lx_s1 (by simp) hs
 ·exact lx_s2 (by simp) hs
theorem lx_expr:∀ (e:Et),e.ok → LxP e.tx e.tk
 | .val v,h=>fun r ts hr hl=>lx_val h hr hl
 | .nam n,h=>fun r ts hr hl=>lx_name h hr hl
 | .un op a,h=>fun r ts hr hl=>by
  obtain ⟨ho,ha⟩:=h
  have ih:=lx_expr a ha
  unfold Et.tx Et.tk
  by_cases h4:op=4
  ·rw [if_pos h4,if_pos h4,List.append_assoc,List.cons_append,List.cons_append]
   exact lx_run wd_word.1 (by decide) (by decide) (okR_cons (by decide)) (lx_sp (lxp_brk ih r ts hr hl))
  ·rw [if_neg h4,if_neg h4,List.cons_append,List.cons_append]
   exact lx_s1 (by simp) (lxp_brk ih r ts hr hl)
 | .bin op a b,h=>fun r ts hr hl=>by
  obtain ⟨h1,h2,ha,hb⟩:=h
  unfold Et.tx Et.tk
  rw [List.append_assoc,List.append_assoc,List.cons_append,List.cons_append,List.append_assoc,List.cons_append]
  exact lxp_brk (lx_expr a ha) _ _ (okR_cons (by decide)) (lx_sp (lx_signT ⟨h1,h2⟩ (lxp_brk (lx_expr b hb) r ts hr hl)))
def IsE (l:List Ex):Nat → Et → Prop
 | n,.val v=>∃ x,l[n]? = some x ∧ plE x=⟨1,0,0,⟨#[]⟩,v,0,0⟩
 | n,.nam s=>∃ x,l[n]? = some x ∧ plE x=⟨17,0,0,s,v0,0,0⟩
 | n,.un op a=>∃ x m,n=m + 1 ∧ l[n]? = some x ∧ plE x=⟨op,(m:Nat),0,⟨#[]⟩,v0,0,0⟩ ∧ IsE l m a
 | n,.bin op a b=>∃ x m k,n=m + 1 ∧ m=k + b.num ∧ l[n]? = some x ∧ plE x=⟨op,(k:Nat),(m:Nat),⟨#[]⟩,v0,0,0⟩ ∧ IsE l k a ∧ IsE l m b
theorem num_pos:∀ e:Et,1 ≤ e.num
 | .val _=>Nat.le_refl _
 | .nam _=>Nat.le_refl _
 | .un _ a=>by show 1 ≤ a.num + 1; omega
 | .bin _ a b=>by show 1 ≤ a.num + b.num + 1; omega
theorem isE_num (l:List Ex):∀ (e:Et) (n:Nat),IsE l n e → e.num ≤ n + 1
 | .val _,n,_=>by show 1 ≤ n + 1; omega
 | .nam _,n,_=>by show 1 ≤ n + 1; omega
 | .un op a,n,h=>by
  obtain ⟨x,m,rfl,_,_,h1⟩:=h
  have:=isE_num l a m h1
  show a.num + 1 ≤ _
  omega
 | .bin op a b,n,h=>by
  obtain ⟨x,m,k,rfl,rfl,_,_,h1,_⟩:=h
  have:=isE_num l a k h1
  show a.num + b.num + 1 ≤ _
  omega
theorem empty_eq {s:ByteArray} (h:emptyB s=true):s=⟨#[]⟩:=by
 refine (tl_eq _ _).1 ?_
 rw [none_list]
 exact List.isEmpty_iff.1 h
theorem zero_eq {v:Vd} (h:zeroV v=true):v=v0:=Vd.same h
theorem plE_eq {x:Ex} {op a b:Int} {s:ByteArray} {v:Vd} (h1:x.op=op) (h2:x.a=a) (h3:x.b=b) (h4:x.n=s) (h5:x.v=v):plE x=⟨op,a,b,s,v,0,0⟩:=by
 unfold plE
 rw [h1,h2,h3,h4,h5]
theorem pr_depth1 {l:List Ex} {n:Nat} {x:Ex} (h:l[n]? = some x) (ho:x.op=1 ∨ x.op=17):depthT l n=1:=by
 have e:depthT l n=nodeD ((accT nodeD l []).take n) x:=by
  rw [← acc_at nodeD h]
  unfold depthT getS
  rw [if_neg (by omega)]; rfl
 rw [e,nodeD,if_pos ho]
theorem is_of {l:List Ex} (hb:∀ x ∈ l,-9223372036854775808 ≤ x.v.i ∧ x.v.i ≤ 9223372036854775807):∀ n:Nat,sizeT l n ≠ 0 → ∃ e:Et,IsE l n e ∧ e.ok ∧ e.num=sizeT l n ∧ e.dep=depthT l n:=by
 intro n
 induction n using Nat.strongRecOn with
 | ind n ih =>
  intro h0
  have hn:n < l.length:=by
   by_cases k:n < l.length
   ·exact k
   ·exact absurd (sizeT_out (.inr (by omega))) h0
  obtain ⟨x,hx⟩:∃ x,l[n]? = some x:=⟨_,List.getElem?_eq_getElem hn⟩
  have hbx:=hb x (List.mem_of_getElem? hx)
  have hS:=sizeT_at hx
  rw [hS] at h0 ⊢
  by_cases h1:x.op=1
  ·rw [if_pos h1] at h0 ⊢
   split at h0
   ·rename_i h
    obtain ⟨a1,a2,a3,a4⟩:=h
    rw [if_pos ⟨a1,a2,a3,a4⟩,pr_depth1 hx (.inl h1)]
    exact ⟨.val x.v,⟨x,hx,plE_eq h1 a1 a2 (empty_eq a3) rfl⟩,⟨a4,hbx⟩,rfl,rfl⟩
   ·exact absurd rfl h0
  rw [if_neg h1] at h0 ⊢
  by_cases h17:x.op=17
  ·rw [if_pos h17] at h0 ⊢
   split at h0
   ·rename_i h
    obtain ⟨a1,a2,a3,a4⟩:=h
    rw [if_pos ⟨a1,a2,a3,a4⟩,pr_depth1 hx (.inr h17)]
    exact ⟨.nam x.n,⟨x,hx,plE_eq h17 a1 a2 rfl (zero_eq a4)⟩,a3,rfl,rfl⟩
   ·exact absurd rfl h0
  rw [if_neg h17] at h0 ⊢
  split at h0
  ·exact absurd rfl h0
  rename_i hop
  have o1:4 ≤ x.op:=Int.not_lt.1 (fun k=>hop (.inl k))
  have o2:x.op ≤ 16:=Int.not_lt.1 (fun k=>hop (.inr (.inl k)))
  have o3:x.n=⟨#[]⟩:=empty_eq (by cases e:emptyB x.n with | true=>rfl | false=>exact absurd (.inr (.inr (.inl e))) hop)
  have o4:x.v=v0:=zero_eq (by cases e:zeroV x.v with | true=>rfl | false=>exact absurd (.inr (.inr (.inr e))) hop)
  rw [if_neg hop]
  by_cases h5:x.op ≤ 5
  ·rw [if_pos h5] at h0 ⊢
   split at h0
   ·rename_i h
    obtain ⟨a1,a2,a3⟩:=h
    obtain ⟨m,rfl⟩:∃ m,n=m + 1:=⟨n - 1,by
     have:n ≠ 0:=fun e=>by subst e; exact a3 (sizeT_out (.inl (by omega)))
     omega⟩
    have e1:((m + 1:Nat):Int) - 1=(m:Nat):=by omega
    rw [e1] at a1 a3
    obtain ⟨e,i1,i2,i3,i4⟩:=ih m (by omega) a3
    rw [if_pos ⟨by rw [e1]; exact a1,a2,by rw [e1]; exact a3⟩,e1,depthT_at hx (by omega) (by omega),if_neg (by omega),if_neg (by omega),a1]
    exact ⟨.un x.op e,⟨x,m,rfl,hx,plE_eq rfl a1 a2 o3 o4,i1⟩,⟨by omega,i2⟩,by show e.num + 1=_; rw [i3],by show e.dep + 1=_; rw [i4]⟩
   ·exact absurd rfl h0
  ·rw [if_neg h5] at h0 ⊢
   split at h0
   ·rename_i h
    obtain ⟨a1,a2,a3,a4⟩:=h
    obtain ⟨m,rfl⟩:∃ m,n=m + 1:=⟨n - 1,by
     have:n ≠ 0:=fun e=>by subst e; exact a1 (sizeT_out (.inl (by omega)))
     omega⟩
    have e1:((m + 1:Nat):Int) - 1=(m:Nat):=by omega
    rw [e1] at a1 a2 a3 a4
    have hle:=sizeT_le l m
    obtain ⟨k,hk⟩:∃ k:Nat,(m:Int) - (sizeT l (m:Nat):Nat)=(k:Nat):=⟨m - sizeT l (m:Nat),by
     have:¬ (m:Int) - (sizeT l (m:Nat):Nat) < 0:=fun k=>a4 (sizeT_out (.inl k))
     omega⟩
    rw [hk] at a3 a4
    have hkm:k < m:=by have:=Nat.pos_of_ne_zero a1; omega
    obtain ⟨eb,i1,i2,i3,i4⟩:=ih m (by omega) a1
    obtain ⟨ea,j1,j2,j3,j4⟩:=ih k (by omega) a4
    rw [if_pos ⟨by rw [e1]; exact a1,by rw [e1]; exact a2,by rw [e1,hk]; exact a3,by rw [e1,hk]; exact a4⟩,e1,hk,depthT_at hx (by omega) (by omega),if_neg (by omega),if_pos (by omega),a2,a3]
    exact ⟨.bin x.op ea eb,⟨x,m,k,rfl,by omega,hx,plE_eq rfl a3 a2 o3 o4,j1,i1⟩,⟨by omega,o2,j2,i2⟩,by show ea.num + eb.num + 1=_; rw [i3,j3],by show max ea.dep eb.dep + 1=_; rw [i4,j4]⟩
   ·exact absurd rfl h0
def Et.full:Int → Et → List Ex
 | _,.val v=>[⟨1,0,0,⟨#[]⟩,v,0,0⟩]
 | _,.nam n=>[⟨17,0,0,n,v0,0,0⟩]
 | b,.un op a=>a.full b ++ [⟨op,b + (a.num:Nat) - 1,0,⟨#[]⟩,v0,0,0⟩]
 | b,.bin op a x=>a.full b ++ x.full (b + (a.num:Nat)) ++ [⟨op,b + (a.num:Nat) - 1,b + (a.num:Nat) + (x.num:Nat) - 1,⟨#[]⟩,v0,0,0⟩]
theorem full_len:∀ (e:Et) (b:Int),(e.full b).length=e.num
 | .val _,b=>rfl
 | .nam _,b=>rfl
 | .un _ a,b=>by show (a.full b ++ _).length=a.num + 1; rw [List.length_append,full_len a b]; rfl
 | .bin _ a x,b=>by show (a.full b ++ x.full _ ++ _).length=a.num + x.num + 1; rw [List.length_append,List.length_append,full_len a b,full_len x]; rfl
theorem post_len:∀ (e:Et),e.post.length=e.num
 | .val _=>rfl
 | .nam _=>rfl
 | .un _ a=>by show (a.post ++ _).length=a.num + 1; rw [List.length_append,post_len a]; rfl
 | .bin _ a x=>by show (a.post ++ x.post ++ _).length=a.num + x.num + 1; rw [List.length_append,List.length_append,post_len a,post_len x]; rfl
theorem seg_snoc {l:List Ex} {s k:Nat} {x:Ex} (h:l[s + k]? = some x):(l.drop s).take (k + 1)=(l.drop s).take k ++ [x]:=by
 have h2:(l.drop s)[k]? = some x:=by rw [List.getElem?_drop]; exact h
 obtain ⟨hk,e⟩:=List.getElem?_eq_some_iff.1 h2
 rw [List.take_succ_eq_append_getElem hk,e]
theorem seg_app (l:List Ex) (s i j:Nat):(l.drop s).take (i + j)=(l.drop s).take i ++ (l.drop (s + i)).take j:=by
 rw [List.take_add,List.drop_drop]
theorem is_full (l:List Ex):∀ (e:Et) (n:Nat),IsE l n e → ∃ s:Nat,s + e.num=n + 1 ∧ ((l.drop s).take e.num).map plE=e.full s
 | .val v,n,h=>by
  obtain ⟨x,hx,he⟩:=h
  refine ⟨n,rfl,?_⟩
  show ((l.drop n).take (0 + 1)).map plE=_
  rw [seg_snoc (k:=0) hx,List.take_zero,List.nil_append,List.map_singleton,he]
  rfl
 | .nam v,n,h=>by
  obtain ⟨x,hx,he⟩:=h
  refine ⟨n,rfl,?_⟩
  show ((l.drop n).take (0 + 1)).map plE=_
  rw [seg_snoc (k:=0) hx,List.take_zero,List.nil_append,List.map_singleton,he]
  rfl
 | .un op a,n,h=>by
  obtain ⟨x,m,rfl,hx,he,h1⟩:=h
  obtain ⟨s,e1,e2⟩:=is_full l a m h1
  refine ⟨s,by show s + (a.num + 1)=_; omega,?_⟩
  show ((l.drop s).take (a.num + 1)).map plE=a.full s ++ _
  rw [seg_snoc (k:=a.num) (by rw [e1]; exact hx),List.map_append,e2,List.map_singleton,he,show ((m:Nat):Int)=(s:Int) + (a.num:Nat) - 1 by omega]
 | .bin op a b,n,h=>by
  obtain ⟨x,m,k,rfl,hm,hx,he,h1,h2⟩:=h
  obtain ⟨s,e1,e2⟩:=is_full l a k h1
  obtain ⟨t,f1,f2⟩:=is_full l b m h2
  obtain rfl:t=s + a.num:=by omega
  refine ⟨s,by show s + (a.num + b.num + 1)=_; omega,?_⟩
  show ((l.drop s).take (a.num + b.num + 1)).map plE=a.full s ++ b.full ((s:Int) + (a.num:Nat)) ++ _
  rw [seg_snoc (k:=a.num + b.num) (by rw [← hx]; congr 1; omega),seg_app,List.map_append,List.map_append,e2,f2,List.map_singleton,he,show ((k:Nat):Int)=(s:Int) + (a.num:Nat) - 1 by omega,show ((m:Nat):Int)=(s:Int) + (a.num:Nat) + (b.num:Nat) - 1 by omega,show ((s + a.num:Nat):Int)=(s:Int) + (a.num:Nat) by omega]
theorem link_post (z:Int):∀ (e:Et),e.ok → ∀ (ns:List Ex) (b:Int) (st:List Int),ns.map plE=e.post → ∃ r,linkS z ns b st=(r,(b + (e.num:Nat) - 1) :: st) ∧ r.map plE=e.full b
 | .val v,hok,ns,b,st,h=>by
  obtain ⟨x,rfl,hx⟩:=List.map_eq_singleton_iff.1 h
  have h1:x.op=1:=congrArg Ex.op hx
  refine ⟨[x],?_,by rw [List.map_singleton,hx]; rfl⟩
  rw [linkS,linkS,stepL,if_pos (.inl h1)]
  show ([x],b :: st)=([x],(b + ((1:Nat):Int) - 1) :: st)
  rw [show b + ((1:Nat):Int) - 1=b by omega]
 | .nam v,hok,ns,b,st,h=>by
  obtain ⟨x,rfl,hx⟩:=List.map_eq_singleton_iff.1 h
  have h1:x.op=17:=congrArg Ex.op hx
  refine ⟨[x],?_,by rw [List.map_singleton,hx]; rfl⟩
  rw [linkS,linkS,stepL,if_pos (.inr h1)]
  show ([x],b :: st)=([x],(b + ((1:Nat):Int) - 1) :: st)
  rw [show b + ((1:Nat):Int) - 1=b by omega]
 | .un op a,hok,ns,b,st,h=>by
  obtain ⟨na,nx,rfl,ha,hx0⟩:=List.map_eq_append_iff.1 (show ns.map plE=a.post ++ [bE op] from h)
  obtain ⟨x,rfl,hx⟩:=List.map_eq_singleton_iff.1 hx0
  obtain ⟨r,h1,h2⟩:=link_post z a hok.2 na b st ha
  have o1:x.op=op:=congrArg Ex.op hx
  have hl:na.length=a.num:=by rw [← post_len a,← ha,List.length_map]
  refine ⟨r ++ [⟨x.op,b + (a.num:Nat) - 1,x.b,x.n,x.v,x.l,x.c⟩],?_,?_⟩
  ·rw [linkS_app,h1]
   simp only
   rw [linkS,linkS,stepL,if_neg (by have:=hok.1; omega),if_pos (by have:=hok.1; omega),hl]
   show (_,_)=(_,(b + ((a.num + 1:Nat):Int) - 1) :: st)
   rw [show b + ((a.num + 1:Nat):Int) - 1=b + (a.num:Nat) by omega]
   rfl
  ·rw [List.map_append,h2,List.map_singleton]
   show _=a.full b ++ [_]
   congr 2
   exact plE_eq o1 rfl (congrArg Ex.b hx) (congrArg Ex.n hx) (congrArg Ex.v hx)
 | .bin op a y,hok,ns,b,st,h=>by
  obtain ⟨nb,nx,rfl,hb,hx0⟩:=List.map_eq_append_iff.1 (show ns.map plE=(a.post ++ y.post) ++ [bE op] from h)
  obtain ⟨x,rfl,hx⟩:=List.map_eq_singleton_iff.1 hx0
  obtain ⟨na,ny,rfl,ha,hy⟩:=List.map_eq_append_iff.1 hb
  obtain ⟨ok1,ok2,ok3,ok4⟩:=hok
  have la:na.length=a.num:=by rw [← post_len a,← ha,List.length_map]
  have ly:ny.length=y.num:=by rw [← post_len y,← hy,List.length_map]
  obtain ⟨r,h1,h2⟩:=link_post z a ok3 na b st ha
  obtain ⟨q,h3,h4⟩:=link_post z y ok4 ny (b + (a.num:Nat)) ((b + (a.num:Nat) - 1) :: st) hy
  have o1:x.op=op:=congrArg Ex.op hx
  refine ⟨r ++ q ++ [⟨x.op,b + (a.num:Nat) - 1,b + (a.num:Nat) + (y.num:Nat) - 1,x.n,x.v,x.l,x.c⟩],?_,?_⟩
  ·rw [linkS_app,linkS_app,h1]
   simp only
   rw [la,h3]
   simp only
   rw [linkS,linkS,stepL,if_neg (by omega),if_neg (by omega),List.length_append,la,ly]
   show (_,_)=(_,(b + ((a.num + y.num + 1:Nat):Int) - 1) :: st)
   rw [show b + ((a.num + y.num + 1:Nat):Int) - 1=b + ((a.num + y.num:Nat):Int) by omega]
   rfl
  ·rw [List.map_append,List.map_append,h2,h4,List.map_singleton]
   show _=a.full b ++ y.full (b + (a.num:Nat)) ++ [_]
   congr 2
   exact plE_eq o1 rfl rfl (congrArg Ex.n hx) (congrArg Ex.v hx)
theorem empty_yes:emptyB ⟨#[]⟩=true:=by unfold emptyB; rw [none_list]; rfl
theorem zero_yes:zeroV v0=true:=by
 unfold zeroV
 exact (eqB_iff _ _ _ _ _ _ _ _).2 ⟨rfl,rfl,rfl,rfl⟩
theorem is_size (l:List Ex):∀ (e:Et) (n:Nat),IsE l n e → e.ok → sizeT l n=e.num ∧ depthT l n=e.dep
 | .val v,n,h,ho=>by
  obtain ⟨x,hx,he⟩:=h
  have o:x.op=1:=congrArg Ex.op he
  have a:x.a=0:=congrArg Ex.a he
  have b:x.b=0:=congrArg Ex.b he
  have s:x.n=⟨#[]⟩:=congrArg Ex.n he
  have w:x.v=v:=congrArg Ex.v he
  refine ⟨?_,pr_depth1 hx (.inl o)⟩
  rw [sizeT_at hx,if_pos o,if_pos ⟨a,b,by rw [s]; exact empty_yes,by rw [w]; exact ho.1⟩]
  rfl
 | .nam v,n,h,ho=>by
  obtain ⟨x,hx,he⟩:=h
  have o:x.op=17:=congrArg Ex.op he
  have a:x.a=0:=congrArg Ex.a he
  have b:x.b=0:=congrArg Ex.b he
  have s:x.n=v:=congrArg Ex.n he
  have w:x.v=v0:=congrArg Ex.v he
  refine ⟨?_,pr_depth1 hx (.inr o)⟩
  rw [sizeT_at hx,if_neg (by omega),if_pos o,if_pos ⟨a,b,by rw [s]; exact ho,by rw [w]; exact zero_yes⟩]
  rfl
 | .un op y,n,h,ho=>by
  obtain ⟨x,m,rfl,hx,he,h1⟩:=h
  obtain ⟨ho1,ho2⟩:=ho
  obtain ⟨i1,i2⟩:=is_size l y m h1 ho2
  have o:x.op=op:=congrArg Ex.op he
  have a:x.a=(m:Nat):=congrArg Ex.a he
  have b:x.b=0:=congrArg Ex.b he
  have s:x.n=⟨#[]⟩:=congrArg Ex.n he
  have w:x.v=v0:=congrArg Ex.v he
  have e1:((m + 1:Nat):Int) - 1=(m:Nat):=by omega
  have hp:=num_pos y
  have hop:¬ (x.op < 4 ∨ 16 < x.op ∨ emptyB x.n=false ∨ zeroV x.v=false):=by
   rw [s,w,empty_yes,zero_yes]
   rintro (k | k | k | k)
   ·omega
   ·omega
   ·cases k
   ·cases k
  refine ⟨?_,?_⟩
  ·rw [sizeT_at hx,if_neg (by omega),if_neg (by omega),if_neg hop,if_pos (by omega),e1,i1,if_pos ⟨a,b,by omega⟩]
   rfl
  ·rw [depthT_at hx (by omega) (by omega),if_neg (by omega),if_neg (by omega),a,i2]
   rfl
 | .bin op y z,n,h,ho=>by
  obtain ⟨x,m,k,rfl,hm,hx,he,h1,h2⟩:=h
  obtain ⟨ho1,ho2,ho3,ho4⟩:=ho
  obtain ⟨i1,i2⟩:=is_size l y k h1 ho3
  obtain ⟨j1,j2⟩:=is_size l z m h2 ho4
  have o:x.op=op:=congrArg Ex.op he
  have a:x.a=(k:Nat):=congrArg Ex.a he
  have b:x.b=(m:Nat):=congrArg Ex.b he
  have s:x.n=⟨#[]⟩:=congrArg Ex.n he
  have w:x.v=v0:=congrArg Ex.v he
  have e1:((m + 1:Nat):Int) - 1=(m:Nat):=by omega
  have e2:((m:Nat):Int) - (z.num:Nat)=(k:Nat):=by omega
  have hp:=num_pos y
  have hq:=num_pos z
  have hop:¬ (x.op < 4 ∨ 16 < x.op ∨ emptyB x.n=false ∨ zeroV x.v=false):=by
   rw [s,w,empty_yes,zero_yes]
   rintro (k | k | k | k)
   ·omega
   ·omega
   ·cases k
   ·cases k
  refine ⟨?_,?_⟩
  ·rw [sizeT_at hx,if_neg (by omega),if_neg (by omega),if_neg hop,if_neg (by omega),e1,j1,e2,i1,if_pos ⟨by omega,b,a,by omega⟩]
   rfl
  ·rw [depthT_at hx (by omega) (by omega),if_neg (by omega),if_pos (by omega),a,b,i2,j2]
   rfl
end Go.Proofs.YtiafhfchjhffhaaGreatDoor
