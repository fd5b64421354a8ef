/- paclaim: TreeOpen PrOpen -/
import Derived.Test.YtiafhfchjhffhaaGreatDoorLowMem
import Derived.Deep.Slices
import Derived.ChangeSlices
import Derived.ChangeAt
import Derived.ChangeSame
import Derived.OpenShut
namespace Go.Proofs.YtiafhfchjhffhaaGreatDoor
open Go.ChangeShapes Go.WideShapes Go.ChangeAt Go.RowKit Go.Deep
set_option linter.unusedVariables false
theorem trod_field {H:Type} {enc:TypeId × Value → H} {W:World} {fuel:Nat} {t:TypeId} {fs:Array Field} {cs:List Value} {x:DataW H × List MemPlace} (ht:Tryz.prog.underlying t=some (.struct fs)) (h:DataW.trod enc Tryz.prog W 0 (fun _=>true) true fuel t cs=some x) {i:Nat} {f:Field} (hf:fs[i]? = some f) :
  ∃ n y,DataW.trod enc Tryz.prog W 0 (fun _=>true) true n f.type ((cs.drop f.offset).take (Tryz.prog.cellsOf f.type))=some y:=by
 obtain ⟨xs,n,_,_,_,hl,hx⟩:=DataW.trod_struct ht h
 have hi:=(Array.getElem?_eq_some_iff.1 hf).1
 exact ⟨n,xs[i]'(by omega),(hx i f hf).trans (List.getElem?_eq_getElem (by omega))⟩
theorem trod_len {H:Type} {enc:TypeId × Value → H} {W:World} {fuel:Nat} {t:TypeId} {fs:Array Field} {cs:List Value} {x:DataW H × List MemPlace} (ht:Tryz.prog.underlying t=some (.struct fs)) (h:DataW.trod enc Tryz.prog W 0 (fun _=>true) true fuel t cs=some x):cs.length=Tryz.prog.cellsOf t:=by
 obtain ⟨xs,n,_,_,hl,_⟩:=DataW.trod_struct ht h
 exact hl
theorem tr_add (g off n:Nat):(⟨g,off,none⟩:Addr).add n=⟨g,off + n,none⟩:=by unfold Addr.add; split <;> simp_all
theorem open_gin {α:Type} {R:World → List Value → α → Prop} {S E T:TypeId} {k:Nat} {H:Type} {enc:TypeId × Value → H} {W:World} (hu:Tryz.prog.underlying S=some (.slice E)) (hk:Tryz.prog.cellsOf E=k) (h0:0 < k)
  (hR:∀ fuel cs x,DataW.trod enc Tryz.prog W 0 (fun _=>true) true fuel E cs=some x → cs.length=k ∧ ∃ y,R W cs y) {fuel:Nat} {cs:List Value} {x:DataW H × List MemPlace} (h:DataW.trod enc Tryz.prog W 0 (fun _=>true) true fuel S cs=some x) :
  ∃ b L c,cs=[.slice b L.length c] ∧ GIn R T False k W b L.length L:=by
 rcases open_slice hu h with ⟨hcs,_⟩ | ⟨a,len,cap,m,n,D,Pl,hcs,_,hl,hm,hmm,_,hi⟩
 ·exact ⟨none,[],0,hcs,GIn.nil⟩
 ·simp only [if_true] at hmm
  rw [hk,hmm] at hi
  have key:∀ m,m ≤ len → ∃ L:List α,L.length=m ∧ ∀ (n:Nat) (x:α),L[n]? = some x → ∃ cs,cs.length=k ∧ (∀ i v,cs[i]? = some v → W.cell? ((a.add (n * k)).add i)=some v) ∧ R W cs x:=by
   intro m
   induction m with
   | zero=>exact fun _=>⟨[],rfl,fun n x h=>by simp at h⟩
   | succ m ih =>
    intro hm2
    obtain ⟨L,hL,hx⟩:=ih (by omega)
    obtain ⟨cs',hc,ht⟩:=hi m (by omega)
    obtain ⟨hlen,y,hy⟩:=hR _ _ _ ht
    obtain ⟨_,_,hat⟩:=World.cells?_some hc
    refine ⟨L ++ [y],by simp [hL],fun n x hn=>?_⟩
    by_cases hlt:n < L.length
    ·rw [List.getElem?_append_left hlt] at hn
     exact hx n x hn
    ·have hn2:=(List.getElem?_eq_some_iff.1 hn).1
     simp at hn2
     have:n=m:=by omega
     subst this
     rw [List.getElem?_append_right (by omega),hL,Nat.sub_self] at hn
     simp at hn
     subst hn
     exact ⟨cs',hlen,fun i v hv=>(hat i (by have:=(List.getElem?_eq_some_iff.1 hv).1; omega)).trans hv,hy⟩
  obtain ⟨L,hL,hx⟩:=key len (Nat.le_refl _)
  subst hL
  refine ⟨some a,L,cap,hcs,rfl,by unfold maxLen at hm; omega,fun n x hn=>?_⟩
  obtain ⟨cs',hlen,hc,hr⟩:=hx n x hn
  obtain ⟨v,hv⟩:∃ v,cs'[0]? = some v:=⟨cs'[0]'(by omega),List.getElem?_eq_getElem (by omega)⟩
  have hc0:=hc 0 v hv
  have hsp:∃ g off,a=⟨g,off,none⟩:=by
   obtain ⟨x0,hx0⟩:∃ x0,L[0]? = some x0:=⟨L[0]'(by have:=(List.getElem?_eq_some_iff.1 hn).1; omega),List.getElem?_eq_getElem _⟩
   obtain ⟨cs0,hlen0,hc0',_⟩:=hx 0 x0 hx0
   obtain ⟨v0,hv0⟩:∃ v,cs0[0]? = some v:=⟨cs0[0]'(by omega),List.getElem?_eq_getElem (by omega)⟩
   have h1:=hc0' 0 v0 hv0
   obtain ⟨g,off,spot⟩:=a
   have hspot:spot=none:=by simpa [Addr.add] using World.cell?_spot h1
   exact ⟨g,off,by rw [hspot]⟩
  obtain ⟨g,off,rfl⟩:=hsp
  simp only [tr_add] at hc hc0
  exact ⟨g,off,cs',rfl,by unfold World.cell? at hc0; exact (by
   rcases Nat.lt_or_ge g W.heap.size with h' | h'
   ·exact h'
   ·simp [Array.getElem?_eq_none h'] at hc0),hlen,hc,hr,fun h=>h.elim⟩
theorem of_len4 {α:Type}:∀ {l:List α},l.length=4 → ∃ a0 a1 a2 a3,l=[a0,a1,a2,a3]
 | [a0,a1,a2,a3],_=>⟨a0,a1,a2,a3,rfl⟩
theorem of_len10 {α:Type}:∀ {l:List α},l.length=10 → ∃ a0 a1 a2 a3 a4 a5 a6 a7 a8 a9,l=[a0,a1,a2,a3,a4,a5,a6,a7,a8,a9]
 | [a0,a1,a2,a3,a4,a5,a6,a7,a8,a9],_=>⟨a0,a1,a2,a3,a4,a5,a6,a7,a8,a9,rfl⟩
theorem tc_str:Tryz.prog.cellsOf 9=1:=by kernel_rfl
theorem tc_int:Tryz.prog.cellsOf 3=1:=by kernel_rfl
theorem tc_i64:Tryz.prog.cellsOf 2=1:=by kernel_rfl
theorem tc_bool:Tryz.prog.cellsOf 4=1:=by kernel_rfl
theorem tc_V:Tryz.prog.cellsOf 56=4:=by kernel_rfl
theorem tc_Ex:Tryz.prog.cellsOf 58=10:=by kernel_rfl
set_option maxRecDepth 100000 in
theorem open_V0 {H:Type} {enc:TypeId × Value → H} {W:World} {fuel:Nat} {cs:List Value} {x:DataW H × List MemPlace} (h:DataW.trod enc Tryz.prog W 0 (fun _=>true) true fuel 56 cs=some x):cs.length=4 ∧ ∃ y:Vd,cs=vC y ∧ okV y:=by
 obtain ⟨n0,y0,h0⟩:=trod_field Tryz.underlying56 h (i:=0) rfl
 obtain ⟨n1,y1,h1⟩:=trod_field Tryz.underlying56 h (i:=1) rfl
 obtain ⟨n2,y2,h2⟩:=trod_field Tryz.underlying56 h (i:=2) rfl
 obtain ⟨n3,y3,h3⟩:=trod_field Tryz.underlying56 h (i:=3) rfl
 have hl:=trod_len Tryz.underlying56 h
 rw [tc_V] at hl
 obtain ⟨a0,a1,a2,a3,rfl⟩:=of_len4 hl
 simp [tc_int] at h0
 simp [tc_i64] at h1
 simp [tc_str] at h2
 simp [tc_bool] at h3
 obtain ⟨i0,e0,_,z0⟩:=DataW.trod_int Tryz.underlying3 h0
 obtain ⟨i1,e1,_,z1⟩:=DataW.trod_int Tryz.underlying2 h1
 obtain ⟨s2,e2,_,z2⟩:=DataW.trod_string Tryz.underlying9 h2
 obtain ⟨b3,e3,_⟩:=DataW.trod_bool Tryz.underlying4 h3
 simp [List.cons.injEq] at e0 e1 e2 e3
 exact ⟨rfl,⟨i0,i1,s2,b3⟩,by simp [vC, *],by unfold okS; unfold maxLen at z2; omega,bounds_i64 z1⟩
set_option maxRecDepth 100000 in
theorem open_Ex0 {H:Type} {enc:TypeId × Value → H} {W:World} {fuel:Nat} {cs:List Value} {x:DataW H × List MemPlace} (h:DataW.trod enc Tryz.prog W 0 (fun _=>true) true fuel 58 cs=some x):cs.length=10 ∧ ∃ y:Ex,rEx W cs y:=by
 obtain ⟨n0,y0,h0⟩:=trod_field Tryz.underlying58 h (i:=0) rfl
 obtain ⟨n1,y1,h1⟩:=trod_field Tryz.underlying58 h (i:=1) rfl
 obtain ⟨n2,y2,h2⟩:=trod_field Tryz.underlying58 h (i:=2) rfl
 obtain ⟨n3,y3,h3⟩:=trod_field Tryz.underlying58 h (i:=3) rfl
 obtain ⟨n4,y4,h4⟩:=trod_field Tryz.underlying58 h (i:=4) rfl
 obtain ⟨n5,y5,h5⟩:=trod_field Tryz.underlying58 h (i:=5) rfl
 obtain ⟨n6,y6,h6⟩:=trod_field Tryz.underlying58 h (i:=6) rfl
 have hl:=trod_len Tryz.underlying58 h
 rw [tc_Ex] at hl
 obtain ⟨a0,a1,a2,a3,a4,a5,a6,a7,a8,a9,rfl⟩:=of_len10 hl
 simp [tc_int] at h0
 simp [tc_int] at h1
 simp [tc_int] at h2
 simp [tc_str] at h3
 simp [tc_V] at h4
 simp [tc_int] at h5
 simp [tc_int] at h6
 obtain ⟨i0,e0,_,z0⟩:=DataW.trod_int Tryz.underlying3 h0
 obtain ⟨i1,e1,_,z1⟩:=DataW.trod_int Tryz.underlying3 h1
 obtain ⟨i2,e2,_,z2⟩:=DataW.trod_int Tryz.underlying3 h2
 obtain ⟨s3,e3,_,z3⟩:=DataW.trod_string Tryz.underlying9 h3
 obtain ⟨_,v4,e4,z4⟩:=open_V0 h4
 obtain ⟨i5,e5,_,z5⟩:=DataW.trod_int Tryz.underlying3 h5
 obtain ⟨i6,e6,_,z6⟩:=DataW.trod_int Tryz.underlying3 h6
 simp [vC] at e0 e1 e2 e3 e4 e5 e6
 exact ⟨rfl,⟨i0,i1,i2,s3,v4,i5,i6⟩,by simp [exC, *],by unfold okS; unfold maxLen at z3; omega,z4⟩
theorem open_lEx {H:Type} {enc:TypeId × Value → H} {W:World} {fuel:Nat} {cs:List Value} {x:DataW H × List MemPlace} {T:TypeId} (h:DataW.trod enc Tryz.prog W 0 (fun _=>true) true fuel 40 cs=some x):∃ b L c,cs=[.slice b L.length c] ∧ GIn rEx T False 10 W b L.length L :=
 open_gin Tryz.underlying40 tc_Ex (by omega) (fun _ _ _ h=>open_Ex0 h) h
open Go Go.RowKit
theorem open_exs {H:Type} {enc:TypeId × Value → H} {W:World} {a:Option Addr} {len cap:Nat} {d:DataW H} {p:List MemPlace}
  (h:DataW.Trod enc Tryz.prog W 0 (fun _=>true) true 40 (.slice a len cap) d p):∃ L,GIn rEx 0 False 10 W a len L:=by
 obtain ⟨fuel,hf⟩:=h
 obtain ⟨b,L,c,hcs,hg⟩:=open_lEx (T:=0) hf
 simp [Value.cells] at hcs
 obtain ⟨rfl,rfl,rfl⟩:=hcs
 exact ⟨L,hg⟩
end Go.Proofs.YtiafhfchjhffhaaGreatDoor
