/- paclaim: PrLex PrEt PrNodes PrIs -/
import Derived.Test.YtiafhfchjhffhaaGreatDoorLowMath
import Derived.Test.YtiafhfchjhffhaaGreatDoorLowPa2
import Derived.Test.YtiafhfchjhffhaaGreatDoorLowVal2
import Derived.Test.YtiafhfchjhffhaaGreatDoorLowQuo
import Derived.Lib.ItoaLen
import Derived.Test.YtiafhfchjhffhaaGreatDoorLowEq
namespace Go.Proofs.YtiafhfchjhffhaaGreatDoor
set_option linter.unusedVariables false
abbrev Tx:=Nat × List UInt8
inductive Et where
 | val (v:Vd)
 | nam (n:ByteArray)
 | un (op:Int) (a:Et)
 | bin (op:Int) (a b:Et)
def lvO (op:Int):Nat:=if op=7 then 1 else if op=6 then 2 else if op=4 then 3 else if 13 ≤ op ∧ op ≤ 16 then 4 else if op=8 ∨ op=9 then 5 else if 10 ≤ op ∧ op ≤ 12 then 6 else if op=5 then 7 else 8
def Et.lv:Et → Nat
 | .val _=>8
 | .nam _=>8
 | .un op _=>lvO op
 | .bin op _ _=>lvO op
def posE:Et → Bool
 | .val v=>decide (v.k=1) && decide (0 ≤ v.i)
 | _=>false
def lefL (op:Int):Nat:=if lvO op=4 then 5 else lvO op
def Et.dep:Et → Nat
 | .val _=>1
 | .nam _=>1
 | .un _ a=>a.dep + 1
 | .bin _ a b=>max a.dep b.dep + 1
def Et.num:Et → Nat
 | .val _=>1
 | .nam _=>1
 | .un _ a=>a.num + 1
 | .bin _ a b=>a.num + b.num + 1
def bE (op:Int):Ex:=⟨op,0,0,⟨#[]⟩,v0,0,0⟩
def Et.post:Et → List Ex
 | .val v=>[⟨1,0,0,⟨#[]⟩,v,0,0⟩]
 | .nam n=>[⟨17,0,0,n,v0,0,0⟩]
 | .un op a=>a.post ++ [bE op]
 | .bin op a b=>a.post ++ b.post ++ [bE op]
def vOk (v:Vd):Prop:=rightV v=true ∧ -9223372036854775808 ≤ v.i ∧ v.i ≤ 9223372036854775807
def Et.ok:Et → Prop
 | .val v=>vOk v
 | .nam n=>nameB n=true
 | .un op a=>(op=4 ∨ op=5) ∧ a.ok
 | .bin op a b=>6 ≤ op ∧ op ≤ 16 ∧ a.ok ∧ b.ok
def valTk (v:Vd):List Tx :=
 if v.k=1 then (if v.i < 0 then [(5,[45]),(3,Lib.decDigits v.i.natAbs)] else [(3,Lib.decDigits v.i.toNat)])
 else if v.k=2 then [(4,v.s.data.toList)] else [(2,if v.b=true then kwTrue else kwFalse)]
def valTx (v:Vd):List UInt8:=valText v.k v.i v.s v.b
def signT (op:Int):Tx :=
 if op=6 then (2,kwAnd) else if op=7 then (2,kwOr) else if op=8 then (5,[43]) else if op=9 then (5,[45]) else if op=10 then (5,[42]) else if op=11 then (5,[47]) else if op=12 then (5,[37])
 else if op=13 then (5,[61,61]) else if op=14 then (5,[33,61]) else if op=15 then (5,[60]) else (5,[60,61])
def brk (b:Bool) (ts:List Tx):List Tx:=if b=true then (5,[40]) :: (ts ++ [(5,[41])]) else ts
def brkL (b:Bool) (l:List UInt8):List UInt8:=if b=true then 40 :: (l ++ [41]) else l
def negB (a:Et):Bool:=decide (a.lv < 7) || posE a
def Et.tk:Et → List Tx
 | .val v=>valTk v
 | .nam n=>[(1,n.data.toList)]
 | .un op a=>if op=4 then (2,kwNot) :: brk (decide (a.lv < 3)) a.tk else (5,[45]) :: brk (negB a) a.tk
 | .bin op a b=>brk (decide (a.lv < lefL op)) a.tk ++ signT op :: brk (decide (b.lv < lvO op + 1)) b.tk
def Et.tx:Et → List UInt8
 | .val v=>valTx v
 | .nam n=>n.data.toList
 | .un op a=>if op=4 then kwNot ++ 32 :: brkL (decide (a.lv < 3)) a.tx else 45 :: brkL (negB a) a.tx
 | .bin op a b=>brkL (decide (a.lv < lefL op)) a.tx ++ 32 :: ((signT op).2 ++ 32 :: brkL (decide (b.lv < lvO op + 1)) b.tx)
theorem lv_bounds (e:Et):1 ≤ e.lv ∧ e.lv ≤ 8:=by
 have h:∀ op,1 ≤ lvO op ∧ lvO op ≤ 8:=fun op=>by unfold lvO; constructor <;> (repeat' split) <;> omega
 cases e with
 | val v=>exact ⟨by show 1 ≤ 8; decide,by show 8 ≤ 8; decide⟩
 | nam n=>exact ⟨by show 1 ≤ 8; decide,by show 8 ≤ 8; decide⟩
 | un op a=>exact h op
 | bin op a b=>exact h op
def IsE (l:List Ex):Nat → Et → Prop
 | n,.val v=>∃ x,l[n]? = some x ∧ plE x=⟨1,0,0,⟨#[]⟩,v,0,0⟩
 | n,.nam s=>∃ x,l[n]? = some x ∧ plE x=⟨17,0,0,s,v0,0,0⟩
 | n,.un op a=>∃ x m,n=m + 1 ∧ l[n]? = some x ∧ plE x=⟨op,(m:Nat),0,⟨#[]⟩,v0,0,0⟩ ∧ IsE l m a
 | n,.bin op a b=>∃ x m k,n=m + 1 ∧ m=k + b.num ∧ l[n]? = some x ∧ plE x=⟨op,(k:Nat),(m:Nat),⟨#[]⟩,v0,0,0⟩ ∧ IsE l k a ∧ IsE l m b
theorem num_pos:∀ e:Et,1 ≤ e.num
 | .val _=>Nat.le_refl _
 | .nam _=>Nat.le_refl _
 | .un _ a=>by show 1 ≤ a.num + 1; omega
 | .bin _ a b=>by show 1 ≤ a.num + b.num + 1; omega
theorem pr_depth1 {l:List Ex} {n:Nat} {x:Ex} (h:l[n]? = some x) (ho:x.op=1 ∨ x.op=17):depthT l n=1:=by
 have e:depthT l n=nodeD ((accT nodeD l []).take n) x:=by
  rw [← acc_at nodeD h]
  unfold depthT getS
  rw [if_neg (by omega)]; rfl
 rw [e,nodeD,if_pos ho]
theorem empty_yes:emptyB ⟨#[]⟩=true:=by unfold emptyB; rw [none_list]; rfl
theorem zero_yes:zeroV v0=true:=by
 unfold zeroV
 exact (eqB_iff _ _ _ _ _ _ _ _).2 ⟨rfl,rfl,rfl,rfl⟩
theorem is_size (l:List Ex):∀ (e:Et) (n:Nat),IsE l n e → e.ok → sizeT l n=e.num ∧ depthT l n=e.dep
 | .val v,n,h,ho=>by
  obtain ⟨x,hx,he⟩:=h
  have o:x.op=1:=congrArg Ex.op he
  have a:x.a=0:=congrArg Ex.a he
  have b:x.b=0:=congrArg Ex.b he
  have s:x.n=⟨#[]⟩:=congrArg Ex.n he
  have w:x.v=v:=congrArg Ex.v he
  refine ⟨?_,pr_depth1 hx (.inl o)⟩
  rw [sizeT_at hx,if_pos o,if_pos ⟨a,b,by rw [s]; exact empty_yes,by rw [w]; exact ho.1⟩]
  rfl
 | .nam v,n,h,ho=>by
  obtain ⟨x,hx,he⟩:=h
  have o:x.op=17:=congrArg Ex.op he
  have a:x.a=0:=congrArg Ex.a he
  have b:x.b=0:=congrArg Ex.b he
  have s:x.n=v:=congrArg Ex.n he
  have w:x.v=v0:=congrArg Ex.v he
  refine ⟨?_,pr_depth1 hx (.inr o)⟩
  rw [sizeT_at hx,if_neg (by omega),if_pos o,if_pos ⟨a,b,by rw [s]; exact ho,by rw [w]; exact zero_yes⟩]
  rfl
 | .un op y,n,h,ho=>by
  obtain ⟨x,m,rfl,hx,he,h1⟩:=h
  obtain ⟨ho1,ho2⟩:=ho
  obtain ⟨i1,i2⟩:=is_size l y m h1 ho2
  have o:x.op=op:=congrArg Ex.op he
  have a:x.a=(m:Nat):=congrArg Ex.a he
  have b:x.b=0:=congrArg Ex.b he
  have s:x.n=⟨#[]⟩:=congrArg Ex.n he
  have w:x.v=v0:=congrArg Ex.v he
  have e1:((m + 1:Nat):Int) - 1=(m:Nat):=by omega
  have hp:=num_pos y
  have hop:¬ (x.op < 4 ∨ 16 < x.op ∨ emptyB x.n=false ∨ zeroV x.v=false):=by
   rw [s,w,empty_yes,zero_yes]
   rintro (k | k | k | k)
   ·omega
   ·omega
   ·cases k
   ·cases k
  refine ⟨?_,?_⟩
  ·rw [sizeT_at hx,if_neg (by omega),if_neg (by omega),if_neg hop,if_pos (by omega),e1,i1,if_pos ⟨a,b,by omega⟩]
   rfl
  ·rw [depthT_at hx (by omega) (by omega),if_neg (by omega),if_neg (by omega),a,i2]
   rfl
 | .bin op y z,n,h,ho=>by
  obtain ⟨x,m,k,rfl,hm,hx,he,h1,h2⟩:=h
  obtain ⟨ho1,ho2,ho3,ho4⟩:=ho
  obtain ⟨i1,i2⟩:=is_size l y k h1 ho3
  obtain ⟨j1,j2⟩:=is_size l z m h2 ho4
  have o:x.op=op:=congrArg Ex.op he
  have a:x.a=(k:Nat):=congrArg Ex.a he
  have b:x.b=(m:Nat):=congrArg Ex.b he
  have s:x.n=⟨#[]⟩:=congrArg Ex.n he
  have w:x.v=v0:=congrArg Ex.v he
  have e1:((m + 1:Nat):Int) - 1=(m:Nat):=by omega
  have e2:((m:Nat):Int) - (z.num:Nat)=(k:Nat):=by omega
  have hp:=num_pos y
  have hq:=num_pos z
  have hop:¬ (x.op < 4 ∨ 16 < x.op ∨ emptyB x.n=false ∨ zeroV x.v=false):=by
   rw [s,w,empty_yes,zero_yes]
   rintro (k | k | k | k)
   ·omega
   ·omega
   ·cases k
   ·cases k
  refine ⟨?_,?_⟩
  ·rw [sizeT_at hx,if_neg (by omega),if_neg (by omega),if_neg hop,if_neg (by omega),e1,j1,e2,i1,if_pos ⟨by omega,b,a,by omega⟩]
   rfl
  ·rw [depthT_at hx (by omega) (by omega),if_neg (by omega),if_pos (by omega),a,b,i2,j2]
   rfl
end Go.Proofs.YtiafhfchjhffhaaGreatDoor
