/- paclaim: ValBox ValLessMath ValCells TreeMath -/
import Derived.Test.YtiafhfchjhffhaaGreatDoorBase
import Derived.Test.YtiafhfchjhffhaaGreatDoorLowMath
namespace Go.Proofs.YtiafhfchjhffhaaGreatDoor
open Go.RowKit
set_option linter.unusedVariables false
def rightB (k i:Int) (s:ByteArray) (b:Bool):Bool :=
 if k=1 then s.toList.isEmpty && !b else if k=2 then (i == 0) && !b && decide ((s.size:Int) ≤ 4096) else (k == 3) && (i == 0) && s.toList.isEmpty
def Boxed (g:Nat) (k i:Int) (s:ByteArray) (b:Bool) (w:World):Prop :=
 w.cell? ⟨g,0,none⟩=some (.int .i64 k) ∧ w.cell? ⟨g,1,none⟩=some (.int .i64 i) ∧ w.cell? ⟨g,2,none⟩=some (.string s) ∧ w.cell? ⟨g,3,none⟩=some (.bool b)
theorem Boxed.below {g B:Nat} {k i:Int} {s:ByteArray} {b:Bool} {w w':World} (h:Boxed g k i s b w) (hb:Below B w w') (hg:g < B):Boxed g k i s b w' :=
 ⟨(hb.cell (p:=⟨g,0,none⟩) hg).trans h.1,(hb.cell (p:=⟨g,1,none⟩) hg).trans h.2.1,(hb.cell (p:=⟨g,2,none⟩) hg).trans h.2.2.1,(hb.cell (p:=⟨g,3,none⟩) hg).trans h.2.2.2⟩
theorem Boxed.drew {g:Nat} {k i:Int} {s:ByteArray} {b:Bool} {w:World} (h:Boxed g k i s b w):Boxed g k i s b w.drew:=h
theorem Boxed.new (k i:Int) (s:ByteArray) (b:Bool) (w:World) (t:TypeId):Boxed w.heap.size k i s b (w.alloc (.cells #[.int .i64 k,.int .i64 i,.string s,.bool b] t)):=by
 refine ⟨?_,?_,?_,?_⟩ <;> (rw [World.cell?_alloc_at (hn:=rfl)]; rfl)
def Free4 (g:Nat) (w:World):Prop :=
 w.frozen? ⟨g,0,none⟩=false ∧ w.frozen? ⟨g,1,none⟩=false ∧ w.frozen? ⟨g,2,none⟩=false ∧ w.frozen? ⟨g,3,none⟩=false
theorem Free4.below {g B:Nat} {w w':World} (h:Free4 g w) (hb:Below B w w') (hg:g < B):Free4 g w' :=
 ⟨(hb.frozen (p:=⟨g,0,none⟩) hg).trans h.1,(hb.frozen (p:=⟨g,1,none⟩) hg).trans h.2.1,(hb.frozen (p:=⟨g,2,none⟩) hg).trans h.2.2.1,(hb.frozen (p:=⟨g,3,none⟩) hg).trans h.2.2.2⟩
theorem Free4.new (cs:Array Value) (w:World) (t:TypeId):Free4 w.heap.size (w.alloc (.cells cs t)):=by
 refine ⟨?_,?_,?_,?_⟩ <;> rw [World.frozen?_alloc_at (hn:=rfl)]
def eqB (k i:Int) (s:ByteArray) (b:Bool) (k' i':Int) (s':ByteArray) (b':Bool):Bool:=(k == k') && (i == i') && (s.toList == s'.toList) && (b == b')
theorem eqB_iff (k i:Int) (s:ByteArray) (b:Bool) (k' i':Int) (s':ByteArray) (b':Bool):eqB k i s b k' i' s' b'=true ↔ k=k' ∧ i=i' ∧ s.toList=s'.toList ∧ b=b':=by
 unfold eqB
 simp [and_assoc]
theorem none_list:(⟨#[]⟩:ByteArray).toList=[]:=by rw [ByteArray.toList_eq]
theorem list_none (l:List UInt8):(l == (⟨#[]⟩:ByteArray).toList)=l.isEmpty:=by rw [none_list]; cases l <;> rfl
theorem right1 (i:Int) (s:ByteArray) (b:Bool):eqB 1 i s b 1 i ⟨#[]⟩ false=rightB 1 i s b:=by
 unfold eqB rightB; rw [list_none]; cases b <;> simp
theorem right3 (i:Int) (s:ByteArray) (b:Bool):eqB 3 i s b 3 0 ⟨#[]⟩ b=rightB 3 i s b:=by
 unfold eqB rightB; rw [list_none]; simp
theorem right2 (i:Int) (s:ByteArray) (b:Bool):rightB 2 i s b=(eqB 2 i s b 2 0 s false && decide ((s.size:Int) ≤ 4096)):=by
 unfold eqB rightB; cases b <;> simp
theorem tl_len (a:ByteArray):a.toList.length=a.size:=by rw [ByteArray.toList_eq,Array.length_toList]; rfl
theorem right_kind {k i:Int} {s:ByteArray} {b:Bool} (h:rightB k i s b=true):k=1 ∨ k=2 ∨ k=3:=by
 unfold rightB at h
 by_cases h1:k=1
 ·exact .inl h1
 ·rw [if_neg h1] at h
  by_cases h2:k=2
  ·exact .inr (.inl h2)
  ·rw [if_neg h2] at h
   simp only [Bool.and_eq_true,beq_iff_eq] at h
   exact .inr (.inr h.1.1)
theorem right2_size {i:Int} {s:ByteArray} {b:Bool} (h:rightB 2 i s b=true):s.size ≤ 4096:=by
 simp only [rightB] at h
 simp at h
 omega
theorem right_cases {k i:Int} {s:ByteArray} {b:Bool} (h:rightB k i s b=true):(k=1 ∧ s.toList=[] ∧ b=false) ∨ (k=2 ∧ i=0 ∧ b=false) ∨ (k=3 ∧ i=0 ∧ s.toList=[]):=by
 rcases right_kind h with rfl | rfl | rfl
 ·simp [rightB] at h
  exact .inl ⟨rfl,h⟩
 ·simp [rightB] at h
  exact .inr (.inl ⟨rfl,h.1⟩)
 ·simp [rightB] at h
  exact .inr (.inr ⟨rfl,h⟩)
theorem right_size {k i:Int} {s:ByteArray} {b:Bool} (h:rightB k i s b=true):s.size ≤ 4096:=by
 rcases right_cases h with ⟨rfl,e,_⟩ | ⟨rfl,_⟩ | ⟨rfl,_,e⟩
 ·rw [← tl_len,e]; simp
 ·exact right2_size h
 ·rw [← tl_len,e]; simp
structure Vd where
 (k i:Int) (s:ByteArray) (b:Bool)
instance:Inhabited Vd:=⟨⟨0,0,⟨#[]⟩,false⟩⟩
def Lies (g o:Nat) (v:Vd) (w:World):Prop :=
 w.cell? ⟨g,o,none⟩=some (.int .i64 v.k) ∧ w.cell? ⟨g,o + 1,none⟩=some (.int .i64 v.i) ∧ w.cell? ⟨g,o + 2,none⟩=some (.string v.s) ∧ w.cell? ⟨g,o + 3,none⟩=some (.bool v.b)
theorem Lies.below {g o B:Nat} {v:Vd} {w w':World} (h:Lies g o v w) (hb:Below B w w') (hg:g < B):Lies g o v w' :=
 ⟨(hb.cell (p:=⟨g,o,none⟩) hg).trans h.1,(hb.cell (p:=⟨g,o + 1,none⟩) hg).trans h.2.1,(hb.cell (p:=⟨g,o + 2,none⟩) hg).trans h.2.2.1,(hb.cell (p:=⟨g,o + 3,none⟩) hg).trans h.2.2.2⟩
structure VRow (w:World) (g off:Nat) (L:List Vd):Prop where
 at':∀ n,n < L.length → Lies g (off + n * 4) (L.getD n default) w
 lt:g < w.heap.size
theorem VRow.below {w w':World} {g off:Nat} {L:List Vd} (h:VRow w g off L) (hb:Below w.heap.size w w'):VRow w' g off L :=
 ⟨fun n hn=>(h.at' n hn).below hb h.lt,Nat.lt_of_lt_of_le h.lt hb.size⟩
theorem Boxed.set {g:Nat} {k i:Int} {s:ByteArray} {b:Bool} {w:World} (h:Boxed g k i s b w) (k' i':Int) (s':ByteArray) (b':Bool) :
  Boxed g k' i' s' b' ((((w.setCell ⟨g,0,none⟩ (.int .i64 k')).setCell ⟨g,1,none⟩ (.int .i64 i')).setCell ⟨g,2,none⟩ (.string s')).setCell ⟨g,3,none⟩ (.bool b')):=by
 obtain ⟨h0,h1,h2,h3⟩:=h
 refine ⟨?_,?_,?_,?_⟩
 ·rw [World.cell?_setCell_other _ _ _ _ (by simp),World.cell?_setCell_other _ _ _ _ (by simp),World.cell?_setCell_other _ _ _ _ (by simp)]
  exact World.cell?_setCell_same _ _ _ (h0)
 ·rw [World.cell?_setCell_other _ _ _ _ (by simp),World.cell?_setCell_other _ _ _ _ (by simp)]
  exact World.cell?_setCell_same _ _ _ ((World.cell?_setCell_other _ _ _ _ (by simp)).trans h1)
 ·rw [World.cell?_setCell_other _ _ _ _ (by simp)]
  exact World.cell?_setCell_same _ _ _ (((World.cell?_setCell_other _ _ _ _ (by simp)).trans (World.cell?_setCell_other _ _ _ _ (by simp))).trans h2)
 ·exact World.cell?_setCell_same _ _ _ ((((World.cell?_setCell_other _ _ _ _ (by simp)).trans (World.cell?_setCell_other _ _ _ _ (by simp))).trans (World.cell?_setCell_other _ _ _ _ (by simp))).trans h3)
theorem Free4.set {g:Nat} {w:World} (h:Free4 g w) (a b c d:Addr) (x y z u:Value):Free4 g ((((w.setCell a x).setCell b y).setCell c z).setCell d u):=by
 obtain ⟨h0,h1,h2,h3⟩:=h
 refine ⟨?_,?_,?_,?_⟩ <;> simp [*]
structure Id3 where
 (t:ByteArray) (l c:Int)
structure Ex where
 (op a b:Int) (n:ByteArray) (v:Vd) (l c:Int)
structure Ag where
 (k:Int) (n:ByteArray) (v:Vd) (l c:Int)
structure Sy where
 (n:ByteArray) (ar:List Ag) (l c:Int)
structure De where
 (n:Id3) (ks:List Int)
structure Qu where
 (all:Bool) (n:Id3) (t:Int)
structure Fr where
 (n:Id3) (v:Vd)
structure Sta where
 (n:Id3) (nx ac:Bool)
structure Se where
 (n:Id3) (e:Int)
structure Ts where
 (f t:Id3) (on:Sy) (ns:List Ex) (g:Int) (ss:List Se)
structure Tr where
 (n:Id3) (ds:List De) (qs:List Qu) (fs:List Fr) (st:List Sta) (s:Id3) (al:List Sy) (ts:List Ts)
def v0:Vd:=⟨0,0,⟨#[]⟩,false⟩
def zeroV (v:Vd):Bool:=eqB v.k v.i v.s v.b 0 0 ⟨#[]⟩ false
def rightV (v:Vd):Bool:=rightB v.k v.i v.s v.b
def emptyB (s:ByteArray):Bool:=s.toList.isEmpty
def getS (S:List Nat) (i:Int):Nat:=if i < 0 then 0 else S.getD i.toNat 0
def nodeS (S:List Nat) (x:Ex):Nat :=
 if x.op=1 then (if x.a=0 ∧ x.b=0 ∧ emptyB x.n=true ∧ rightV x.v=true then 1 else 0)
 else if x.op=17 then (if x.a=0 ∧ x.b=0 ∧ nameB x.n=true ∧ zeroV x.v=true then 1 else 0)
 else if x.op < 4 ∨ 16 < x.op ∨ emptyB x.n=false ∨ zeroV x.v=false then 0
 else if x.op ≤ 5 then (if x.a=(S.length:Int) - 1 ∧ x.b=0 ∧ getS S ((S.length:Int) - 1) ≠ 0 then getS S ((S.length:Int) - 1) + 1 else 0)
 else if getS S ((S.length:Int) - 1) ≠ 0 ∧ x.b=(S.length:Int) - 1 ∧ x.a=(S.length:Int) - 1 - (getS S ((S.length:Int) - 1):Nat) ∧ getS S ((S.length:Int) - 1 - (getS S ((S.length:Int) - 1):Nat)) ≠ 0 then
  getS S ((S.length:Int) - 1 - (getS S ((S.length:Int) - 1):Nat)) + getS S ((S.length:Int) - 1) + 1
 else 0
def nodeD (D:List Nat) (x:Ex):Nat:=if x.op=1 ∨ x.op=17 then 1 else if 5 < x.op then max (getS D x.a) (getS D x.b) + 1 else getS D x.a + 1
def accT (f:List Nat → Ex → Nat):List Ex → List Nat → List Nat
 | [],S=>S
 | x :: r,S=>accT f r (S ++ [f S x])
theorem acc_len (f:List Nat → Ex → Nat):∀ (l:List Ex) (S:List Nat),(accT f l S).length=S.length + l.length
 | [],S=>rfl
 | x :: r,S=>by rw [accT,acc_len f r,List.length_append,List.length_singleton,List.length_cons]; omega
theorem acc_pre (f:List Nat → Ex → Nat):∀ (l:List Ex) (S:List Nat),(accT f l S).take S.length=S
 | [],S=>List.take_length
 | x :: r,S=>by
  have h:=acc_pre f r (S ++ [f S x])
  rw [List.length_append,List.length_singleton] at h
  have h2:=congrArg (List.take S.length) h
  rw [List.take_take,Nat.min_eq_left (by omega),List.take_left] at h2
  exact h2
theorem acc_app (f:List Nat → Ex → Nat):∀ (l m:List Ex) (S:List Nat),accT f (l ++ m) S=accT f m (accT f l S)
 | [],m,S=>rfl
 | x :: r,m,S=>by rw [List.cons_append,accT,acc_app f r m,accT]
theorem acc_take (f:List Nat → Ex → Nat) (l:List Ex) (n:Nat) (hn:n ≤ l.length):(accT f l []).take n=accT f (l.take n) []:=by
 have h:=acc_app f (l.take n) (l.drop n) []
 rw [List.take_append_drop] at h
 have h2:=acc_pre f (l.drop n) (accT f (l.take n) [])
 rw [← h,acc_len,List.length_take,List.length_nil] at h2
 rwa [show 0 + min n l.length=n by omega] at h2
theorem acc_at (f:List Nat → Ex → Nat) {l:List Ex} {n:Nat} {x:Ex} (h:l[n]? = some x):(accT f l []).getD n 0=f ((accT f l []).take n) x:=by
 obtain ⟨hn,e⟩:=List.getElem?_eq_some_iff.1 h
 have ht:l.take (n + 1)=l.take n ++ [x]:=by rw [List.take_succ_eq_append_getElem hn,e]
 have h1:=acc_take f l (n + 1) (by omega)
 rw [ht,acc_app,accT,accT] at h1
 rw [acc_take f l n (by omega)]
 have hl:(accT f (l.take n) []).length=n:=by rw [acc_len,List.length_take,List.length_nil]; omega
 have h2:=congrArg (fun l=>l.getD n 0) h1
 simp only [List.getD,List.getElem?_take] at h2
 rw [if_pos (by omega),List.getElem?_append_right (by omega),hl,Nat.sub_self] at h2
 simpa [List.getD] using h2
theorem getS_take {S:List Nat} {n:Nat} {i:Int} (h:i < n):getS (S.take n) i=getS S i:=by
 unfold getS
 by_cases h0:i < 0
 ·rw [if_pos h0,if_pos h0]
 ·rw [if_neg h0,if_neg h0]
  simp [List.getD,show i.toNat < n by omega]
def sizeT (l:List Ex) (i:Int):Nat:=getS (accT nodeS l []) i
def depthT (l:List Ex) (i:Int):Nat:=getS (accT nodeD l []) i
theorem sizeT_out {l:List Ex} {i:Int} (h:i < 0 ∨ (l.length:Int) ≤ i):sizeT l i=0:=by
 unfold sizeT getS
 split
 ·rfl
 ·rw [List.getD,List.getElem?_eq_none (by rw [acc_len,List.length_nil]; omega)]; rfl
theorem sizeT_at {l:List Ex} {n:Nat} {x:Ex} (h:l[n]? = some x):sizeT l n =
  if x.op=1 then (if x.a=0 ∧ x.b=0 ∧ emptyB x.n=true ∧ rightV x.v=true then 1 else 0)
  else if x.op=17 then (if x.a=0 ∧ x.b=0 ∧ nameB x.n=true ∧ zeroV x.v=true then 1 else 0)
  else if x.op < 4 ∨ 16 < x.op ∨ emptyB x.n=false ∨ zeroV x.v=false then 0
  else if x.op ≤ 5 then (if x.a=(n:Int) - 1 ∧ x.b=0 ∧ sizeT l ((n:Int) - 1) ≠ 0 then sizeT l ((n:Int) - 1) + 1 else 0)
  else if sizeT l ((n:Int) - 1) ≠ 0 ∧ x.b=(n:Int) - 1 ∧ x.a=(n:Int) - 1 - (sizeT l ((n:Int) - 1):Nat) ∧ sizeT l ((n:Int) - 1 - (sizeT l ((n:Int) - 1):Nat)) ≠ 0 then
   sizeT l ((n:Int) - 1 - (sizeT l ((n:Int) - 1):Nat)) + sizeT l ((n:Int) - 1) + 1
  else 0:=by
 have hn:=(List.getElem?_eq_some_iff.1 h).1
 have hl:((accT nodeS l []).take n).length=n:=by rw [List.length_take,acc_len,List.length_nil]; omega
 have e:sizeT l n=nodeS ((accT nodeS l []).take n) x:=by
  rw [← acc_at nodeS h]
  unfold sizeT getS
  rw [if_neg (by omega)]; rfl
 have g1:getS ((accT nodeS l []).take n) ((n:Int) - 1)=sizeT l ((n:Int) - 1):=getS_take (by omega)
 have g2:getS ((accT nodeS l []).take n) ((n:Int) - 1 - (sizeT l ((n:Int) - 1):Nat))=sizeT l ((n:Int) - 1 - (sizeT l ((n:Int) - 1):Nat)):=getS_take (by omega)
 rw [e,nodeS,hl,g1,g2]
theorem sizeT_le (l:List Ex):∀ (n:Nat),sizeT l n ≤ n + 1:=by
 intro n
 induction n using Nat.strongRecOn with
 | ind n ih =>
  cases h:l[n]? with
  | none =>
   have:=List.getElem?_eq_none_iff.1 h
   rw [sizeT_out (.inr (by omega))]; omega
  | some x =>
   have hI:∀ i:Int,i < n → (sizeT l i:Int) ≤ i + 1 ∨ sizeT l i=0:=fun i hi=>by
    by_cases h0:i < 0
    ·exact .inr (sizeT_out (.inl h0))
    ·have:=ih i.toNat (by omega)
     rw [show ((i.toNat:Nat):Int)=i by omega] at this
     exact .inl (by omega)
   have h1:=hI ((n:Int) - 1) (by omega)
   have h2:=hI ((n:Int) - 1 - (sizeT l ((n:Int) - 1):Nat)) (by omega)
   rw [sizeT_at h]
   split
   ·split <;> omega
   ·split
    ·split <;> omega
    ·split
     ·omega
     ·split
      ·split <;> omega
      ·split <;> omega
theorem depthT_at {l:List Ex} {n:Nat} {x:Ex} (h:l[n]? = some x) (ha:x.a < n) (hb:x.b < n):depthT l n=if x.op=1 ∨ x.op=17 then 1 else if 5 < x.op then max (depthT l x.a) (depthT l x.b) + 1 else depthT l x.a + 1:=by
 have e:depthT l n=nodeD ((accT nodeD l []).take n) x:=by
  rw [← acc_at nodeD h]
  unfold depthT getS
  rw [if_neg (by omega)]; rfl
 rw [e,nodeD,getS_take ha,getS_take hb]
 rfl
def plE (x:Ex):Ex:=⟨x.op,x.a,x.b,x.n,x.v,0,0⟩
def shortB (s:Sy):Bool:=decide (s.ar.length ≤ 12) && s.ar.all (fun a=>decide (a.v.s.size ≤ 100))
def fewB (s:Tr):Bool :=
 decide (s.ds.length ≤ 12 ∧ s.qs.length ≤ 12 ∧ s.fs.length ≤ 12 ∧ s.st.length ≤ 12 ∧ s.al.length ≤ 12 ∧ s.ts.length ≤ 12) && s.ds.all (fun d=>decide (d.ks.length ≤ 12)) && s.fs.all (fun f=>decide (f.v.s.size ≤ 100)) && s.al.all shortB && s.ts.all (fun t=>shortB t.on && decide (t.ns.length ≤ 40) && decide (t.ss.length ≤ 12) && t.ns.all (fun x=>decide (x.v.s.size ≤ 100)))
end Go.Proofs.YtiafhfchjhffhaaGreatDoor
