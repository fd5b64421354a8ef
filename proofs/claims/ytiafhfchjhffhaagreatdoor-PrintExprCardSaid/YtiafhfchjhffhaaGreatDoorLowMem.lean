/- paclaim: Blk TkMem Kp Gin TreeMem GinPut Row -/
import Derived.Test.YtiafhfchjhffhaaGreatDoorBase
import Derived.Maps.AppendAt
import Derived.OwnWalk
import Derived.Test.YtiafhfchjhffhaaGreatDoorLowMath
import Derived.Deep.RegionHeld3
import Derived.Laws.ResultCell
import Derived.Test.YtiafhfchjhffhaaGreatDoorLowVal
import Derived.Laws.IdiomCopy
namespace Go.Proofs.YtiafhfchjhffhaaGreatDoor
open Go.RowKit
set_option linter.unusedVariables false
theorem cs_parts {i:Option TypeInfo} {z:Value} {s b:Nat} (h:i.map (fun i=>(i.zero,i.size,i.bytes))=some (some z,s,b)):∃ i0,i=some i0 ∧ i0.zero=some z ∧ i0.size=s ∧ i0.bytes=b:=by
 cases i with
 | none=>cases h
 | some i0 =>
  simp only [Option.map_some,Option.some.injEq,Prod.mk.injEq] at h
  exact ⟨i0,rfl,h.1,h.2.1,h.2.2⟩
theorem cs_own {W:World} {base:Nat} {e:TypeId} {size:Nat} {v:Value} {k:Nat} {xs:List Value} (h:W.ownsRow base e size v k xs):∃ a c,v=.slice a k c:=by
 rcases h.2 with ⟨rfl,rfl⟩ | ⟨g,cap,cur,rfl,_⟩
 ·exact ⟨_,_,rfl⟩
 ·exact ⟨_,_,rfl⟩
theorem cs_ownBelow {B:Nat} {t:TypeId} {k:Nat} {v:Value} {n:Nat} {xs:List Value} {w w':World} (h:w.ownsRow B t k v n xs) (hb:Below w.heap.size w w'):w'.ownsRow B t k v n xs:=by
 obtain ⟨hl,hown⟩:=h
 refine ⟨hl,?_⟩
 rcases hown with hn | ⟨g,cap,cur,rfl,h1,hg,rest⟩
 ·exact .inl hn
 ·have hglt:g < w.heap.size:=(Array.getElem?_eq_some_iff.1 hg).1
  exact .inr ⟨g,cap,cur,rfl,h1,by rw [hb.block g hglt]; exact hg,rest⟩
theorem cs_ownBase {B B':Nat} {t:TypeId} {k:Nat} {v:Value} {n:Nat} {xs:List Value} {w:World} (h:w.ownsRow B t k v n xs) (hb:B' ≤ B):w.ownsRow B' t k v n xs:=by
 obtain ⟨hl,hown⟩:=h
 refine ⟨hl,?_⟩
 rcases hown with hn | ⟨g,cap,cur,rfl,h1,rest⟩
 ·exact .inl hn
 ·exact .inr ⟨g,cap,cur,rfl,Nat.le_trans hb h1,rest⟩
theorem cs_new (w:World) (v:Value) (t:TypeId):∀ j u,[v][j]? = some u → (w.alloc (.cells #[v] t)).cell? ((⟨w.heap.size,0,none⟩:Addr).add j)=some u:=by
 intro j u hj
 rw [show (⟨w.heap.size,0,none⟩:Addr).add j=⟨w.heap.size,j,none⟩ by unfold Addr.add; split <;> simp_all,World.cell?_alloc_at (hn:=rfl)]
 simpa using hj
theorem cs_set {w:World} {a:Addr} {u:Value}:w.grownBy (w.setCell a u) (some a.block) :=
 ⟨rfl,rfl,rfl,by rw [World.size_setCell]; exact Nat.le_refl _,fun k _ hne=>heap_setCell_other w _ k u (fun e=>hne (by rw [e]))⟩
def CBlk (w:World) (g:Nat) (t:TypeId):Prop:=∃ cs f,w.heap[g]? = some (.cells cs t f)
theorem CBlk.lt {w:World} {g:Nat} {t:TypeId} (h:CBlk w g t):g < w.heap.size:=by
 obtain ⟨cs,f,e⟩:=h
 exact (Array.getElem?_eq_some_iff.1 e).1
theorem CBlk.below {w w':World} {g:Nat} {t:TypeId} (h:CBlk w g t) (hb:Below w.heap.size w w'):CBlk w' g t:=by
 have hl:=h.lt
 obtain ⟨cs,f,e⟩:=h
 exact ⟨cs,f,(hb.block g hl).trans e⟩
theorem CBlk.ne {w:World} {g h:Nat} {t u:TypeId} (a:CBlk w g t) (b:CBlk w h u) (hne:t ≠ u):g ≠ h:=by
 rintro rfl
 obtain ⟨cs,f,e⟩:=a
 obtain ⟨ds,f',e'⟩:=b
 rw [e] at e'
 simp only [Option.some.injEq,Obj.cells.injEq] at e'
 exact hne e'.2.1
theorem CBlk.row {w:World} {B:Nat} {t:TypeId} {k:Nat} {v:Value} {n:Nat} {xs:List Value} (h:w.ownsRow B t k v n xs) {g:Nat} (e:v.ownBlock=some g):CBlk w g t:=by
 rcases h.2 with ⟨rfl,_⟩ | ⟨g',cap,cur,rfl,_,hg,_⟩
 ·cases e
 ·obtain rfl:g'=g:=Option.some.inj e
  exact ⟨cur,_,hg⟩
theorem CBlk.grown {w w':World} {g:Nat} {t:TypeId} {row:Option Nat} (h:CBlk w g t) (hg:w.grownBy w' row) (hne:some g ≠ row):CBlk w' g t:=by
 have hl:=h.lt
 obtain ⟨cs,f,e⟩:=h
 exact ⟨cs,f,(hg.block g hl hne).trans e⟩
theorem CBlk.far {w:World} {g:Nat} {t u:TypeId} (h:CBlk w g t) {B:Nat} {k:Nat} {v:Value} {n:Nat} {xs:List Value} (ho:w.ownsRow B u k v n xs) (hne:t ≠ u):some g ≠ v.ownBlock:=fun e =>
 h.ne (CBlk.row ho e.symm) hne rfl
theorem cs_ownKept {w w':World} {B:Nat} {t u:TypeId} {k:Nat} {v:Value} {n:Nat} {xs:List Value} {g:Nat} (ho:w.ownsRow B t k v n xs) (hb:CBlk w g u) (hne:t ≠ u) (hg:w.grownBy w' (some g)):w'.ownsRow B t k v n xs :=
 ho.kept hg (.inr fun e=>(CBlk.row ho e).ne hb hne rfl)
def tkC (x:Tk):List Value:=[.int .i64 (x.k:Nat),.string ⟨x.t.toArray⟩,.int .i64 (x.line:Nat),.int .i64 (x.col:Nat)]
def tkCs:List Tk → List Value
 | []=>[]
 | x :: M=>tkC x ++ tkCs M
theorem tkCs_snoc:∀ (M:List Tk) (x:Tk),tkCs (M ++ [x])=tkCs M ++ tkC x
 | [],x=>by simp [tkCs]
 | y :: M,x=>by rw [List.cons_append,tkCs,tkCs_snoc M x,tkCs,List.append_assoc]
theorem tkCs_at:∀ (M:List Tk) (n j:Nat) (x:Tk),M[n]? = some x → j < 4 → (tkCs M)[n * 4 + j]? = (tkC x)[j]?
 | [],n,j,x,h,_=>by simp at h
 | y :: M,0,j,x,h,hj=>by
  simp at h
  subst h
  rw [tkCs,Nat.zero_mul,Nat.zero_add,List.getElem?_append_left (by simpa [tkC] using hj)]
 | y :: M,n + 1,j,x,h,hj=>by
  have h2:M[n]? = some x:=by simpa using h
  have e:(tkC y).length=4:=rfl
  rw [tkCs,List.getElem?_append_right (by rw [e]; omega),e,show (n + 1) * 4 + j - 4=n * 4 + j by omega]
  exact tkCs_at M n j x h2 hj
structure TkIn (w:World) (T:TypeId) (a:Option Addr) (len:Nat) (M:List Tk):Prop where
 leng:M.length=len
 small:len ≤ 9223372036854775807
 at':∀ n x,M[n]? = some x → ∃ g off,a=some ⟨g,off,none⟩ ∧ CBlk w g T ∧ w.cell? ⟨g,off + n * 4,none⟩=some (.int .i64 (x.k:Nat)) ∧ w.cell? ⟨g,off + n * 4 + 1,none⟩=some (.string ⟨x.t.toArray⟩) ∧ w.cell? ⟨g,off + n * 4 + 2,none⟩=some (.int .i64 (x.line:Nat)) ∧ w.cell? ⟨g,off + n * 4 + 3,none⟩=some (.int .i64 (x.col:Nat))
theorem TkIn.kept {w w':World} {T:TypeId} {a:Option Addr} {len:Nat} {M:List Tk} (h:TkIn w T a len M) (hg:∀ g,CBlk w g T → w'.heap[g]? = w.heap[g]?):TkIn w' T a len M :=
 ⟨h.leng,h.small,fun n x hn=>by
  obtain ⟨g,off,e,hb,h1,h2,h3,h4⟩:=h.at' n x hn
  have key:∀ o,w'.cell? ⟨g,o,none⟩=w.cell? ⟨g,o,none⟩:=fun o=>World.cell?_of_block (a:=⟨g,o,none⟩) (hg g hb)
  obtain ⟨cs,f,eb⟩:=hb
  exact ⟨g,off,e,⟨cs,f,(hg g ⟨cs,f,eb⟩).trans eb⟩,(key _).trans h1,(key _).trans h2,(key _).trans h3,(key _).trans h4⟩⟩
theorem TkIn.below {w w':World} {T:TypeId} {a:Option Addr} {len:Nat} {M:List Tk} (h:TkIn w T a len M) (hb:Below w.heap.size w w'):TkIn w' T a len M :=
 h.kept (fun g k=>hb.block g k.lt)
theorem own_tkin {B:Nat} {T:TypeId} {o:Value} {M:List Tk} {w:World} (h:w.ownsRow B T 4 o M.length (tkCs M)):∃ a cap,o=.slice a M.length cap ∧ TkIn w T a M.length M:=by
 have h0:=h
 obtain ⟨hl,hown⟩:=h
 rcases hown with ⟨rfl,hz⟩ | ⟨g,cap,cur,rfl,h1,hg,hcap,hm,hsz,htk⟩
 ·exact ⟨none,0,by rw [hz],⟨rfl,by omega,fun n x h=>by have:=(List.getElem?_eq_some_iff.1 h).1; omega⟩⟩
 ·refine ⟨_,cap,rfl,⟨rfl,by unfold maxLen at hm; omega,fun n x hn=>?_⟩⟩
  have hnl:n < M.length:=(List.getElem?_eq_some_iff.1 hn).1
  have key:∀ j v,j < 4 → (tkC x)[j]? = some v → w.cell? ⟨g,0 + n * 4 + j,none⟩=some v:=fun j v hj hv=>by
   rw [Nat.zero_add,cell_of_row w g (n * 4 + j) cur _ (0,0) hg]
   have h2:=(tkCs_at M n j x hn hj).trans hv
   rw [← htk,List.getElem?_take,if_pos (by omega)] at h2
   simpa using h2
  exact ⟨g,0,rfl,CBlk.row h0 rfl,key 0 _ (by omega) rfl,key 1 _ (by omega) rfl,key 2 _ (by omega) rfl,key 3 _ (by omega) rfl⟩
theorem cs_gtrans {a b c:World} {r:Option Nat} (h:a.grownBy b r) (k:b.grownBy c r):a.grownBy c r :=
 ⟨k.os.trans h.os,k.tape.trans h.tape,k.output.trans h.output,Nat.le_trans h.size k.size,fun i hi hne=>(k.block i (Nat.lt_of_lt_of_le hi h.size) hne).trans (h.block i hi hne)⟩
theorem cs_result1 {fn:Func} {p:Tmp} {ty:TypeId} (h:fn.results=#[.cell p ty]) (tmps:Array Value) (P:Program) (w:World) {a:Addr} {v:Value}
  (h1:(asAddr (tmps.getD p undef)).run P w=.ok a w) (h2:(loadVar ty a).run P w=.ok v w):(results fn tmps).run P w=.ok v w:=by
 rw [Array.getD_eq_getD_getElem?] at h1
 simp [results,h,Sem.run_bind,Result.andThen,h1,h2]
theorem cs_gdrew {a b:World} {r:Option Nat} (h:a.grownBy b r):a.grownBy b.drew r:=⟨h.os,h.tape,h.output,h.size,h.block⟩
theorem cs_result2 {fn:Func} {p q:Tmp} {ty:TypeId} (h:fn.results=#[.tmp p,.cell q ty]) (tmps:Array Value) (P:Program) (w:World) {a:Addr} {u v:Value}
  (h0:tmps.getD p undef=u) (h1:(asAddr (tmps.getD q undef)).run P w=.ok a w) (h2:(loadVar ty a).run P w=.ok v w):(results fn tmps).run P w=.ok (.tuple #[u,v]) w:=by
 rw [Array.getD_eq_getD_getElem?] at h0 h1
 simp [results,h,Sem.run_bind,Result.andThen,h0,h1,h2]
structure Kp (S:Nat → Prop) (w w':World):Prop where
 os:w'.os=w.os
 tape:w'.tape=w.tape
 output:w'.output=w.output
 size:w.heap.size ≤ w'.heap.size
 block:∀ k,k < w.heap.size → ¬ S k → w'.heap[k]? = w.heap[k]?
theorem Kp.refl (S:Nat → Prop) (w:World):Kp S w w:=⟨rfl,rfl,rfl,Nat.le_refl _,fun _ _ _=>rfl⟩
theorem Kp.trans {S:Nat → Prop} {a b c:World} (h:Kp S a b) (k:Kp S b c):Kp S a c :=
 ⟨k.os.trans h.os,k.tape.trans h.tape,k.output.trans h.output,Nat.le_trans h.size k.size,fun i hi hn=>(k.block i (Nat.lt_of_lt_of_le hi h.size) hn).trans (h.block i hi hn)⟩
theorem Kp.of_below {S:Nat → Prop} {a b:World} (k:Below a.heap.size a b):Kp S a b:=⟨k.os,k.tape,k.output,k.size,fun i hi _=>k.block i hi⟩
theorem Kp.of_grown {S:Nat → Prop} {a b:World} {r:Nat} (k:a.grownBy b (some r)) (hr:S r):Kp S a b :=
 ⟨k.os,k.tape,k.output,k.size,fun i hi hn=>k.block i hi (fun e=>hn (by cases e; exact hr))⟩
theorem Kp.below {S:Nat → Prop} {a b c:World} (h:Kp S a b) (k:Below b.heap.size b c):Kp S a c:=h.trans (Kp.of_below k)
theorem Kp.grown {S:Nat → Prop} {a b c:World} {r:Nat} (h:Kp S a b) (k:b.grownBy c (some r)) (hr:S r):Kp S a c:=h.trans (Kp.of_grown k hr)
theorem Kp.alloc {S:Nat → Prop} {a b:World} (h:Kp S a b) (o:Obj):Kp S a (b.alloc o):=h.below ((Below.refl _ _).alloc (Nat.le_refl _) _)
theorem Kp.drew {S:Nat → Prop} {a b:World} (h:Kp S a b):Kp S a b.drew:=⟨h.os,h.tape,h.output,h.size,h.block⟩
theorem Kp.set {S:Nat → Prop} {a b:World} (h:Kp S a b) {g o:Nat} (hr:S g) (v:Value):Kp S a (b.setCell ⟨g,o,none⟩ v):=h.grown (cs_set (a:=⟨g,o,none⟩)) hr
theorem Kp.to_below {S:Nat → Prop} {w a b:World} {B:Nat} (h:Kp S a b) (hb:Below B w a) (hB:B ≤ a.heap.size) (hS:∀ k,S k → B ≤ k):Below B w b :=
 ⟨h.os.trans hb.os,h.tape.trans hb.tape,h.output.trans hb.output,Nat.le_trans hb.size h.size,fun k hk=>(h.block k (Nat.lt_of_lt_of_le hk hB) (fun hs=>absurd (hS k hs) (by omega))).trans (hb.block k hk)⟩
theorem CBlk.un {w:World} {g:Nat} {t u:TypeId} (h:CBlk w g t) (hne:t ≠ u):¬ CBlk w g u:=fun k=>h.ne k hne rfl
structure GIn {α:Type} (R:World → List Value → α → Prop) (T:TypeId) (O:Prop) (k:Nat) (w:World) (a:Option Addr) (len:Nat) (L:List α):Prop where
 leng:L.length=len
 small:len ≤ 9223372036854775807
 at':∀ (n:Nat) (x:α),L[n]? = some x → ∃ g off cs,a=some ⟨g,off,none⟩ ∧ g < w.heap.size ∧ cs.length=k ∧ (∀ j v,cs[j]? = some v → w.cell? ⟨g,off + n * k + j,none⟩=some v) ∧ R w cs x ∧ (O → CBlk w g T)
theorem GIn.nil {α:Type} {R:World → List Value → α → Prop} {T:TypeId} {O:Prop} {k:Nat} {w:World} {a:Option Addr}:GIn R T O k w a 0 [] :=
 ⟨rfl,by omega,fun n x h=>by simp at h⟩
theorem GIn.below {α:Type} {R:World → List Value → α → Prop} {T:TypeId} {O:Prop} {k:Nat} {w w':World} {a:Option Addr} {len:Nat} {L:List α} (h:GIn R T O k w a len L) (hb:Below w.heap.size w w') (hR:∀ cs x,x ∈ L → R w cs x → R w' cs x):GIn R T O k w' a len L :=
 ⟨h.leng,h.small,fun n x hx=>by
  obtain ⟨g,off,cs,e,hg,hl,hc,hr,ho⟩:=h.at' n x hx
  exact ⟨g,off,cs,e,Nat.lt_of_lt_of_le hg hb.size,hl,fun j v hj=>(hb.cell (p:=⟨g,off + n * k + j,none⟩) hg).trans (hc j v hj),hR cs x (List.mem_of_getElem? hx) hr,fun o=>(ho o).below hb⟩⟩
theorem GIn.kept {α:Type} {R:World → List Value → α → Prop} {T:TypeId} {O:Prop} {k:Nat} {w w':World} {a:Option Addr} {len:Nat} {L:List α} (h:GIn R T O k w a len L) (hO:O) (hsz:w.heap.size ≤ w'.heap.size) (hg:∀ g,CBlk w g T → w'.heap[g]? = w.heap[g]?) (hR:∀ cs x,x ∈ L → R w cs x → R w' cs x):GIn R T O k w' a len L :=
 ⟨h.leng,h.small,fun n x hx=>by
  obtain ⟨g,off,cs,e,hgl,hl,hc,hr,ho⟩:=h.at' n x hx
  have hb:=hg g (ho hO)
  obtain ⟨ds,f,ed⟩:=ho hO
  exact ⟨g,off,cs,e,Nat.lt_of_lt_of_le hgl hsz,hl,fun j v hj=>(World.cell?_of_block (a:=⟨g,off + n * k + j,none⟩) hb).trans (hc j v hj),hR cs x (List.mem_of_getElem? hx) hr,fun _=>⟨ds,f,hb.trans ed⟩⟩⟩
theorem GIn.mono {α:Type} {R:World → List Value → α → Prop} {T:TypeId} {O O':Prop} {k:Nat} {w:World} {a:Option Addr} {len:Nat} {L:List α} (h:GIn R T O k w a len L) (ho:O' → O):GIn R T O' k w a len L :=
 ⟨h.leng,h.small,fun n x hx=>by
  obtain ⟨g,off,cs,e,hg,hl,hc,hr,h5⟩:=h.at' n x hx
  exact ⟨g,off,cs,e,hg,hl,hc,hr,fun o=>h5 (ho o)⟩⟩
def RF {α:Type} (C:α → List Value) (P:α → Prop):World → List Value → α → Prop:=fun _ cs x=>cs=C x ∧ P x
theorem RF.any {α:Type} {C:α → List Value} {P:α → Prop} {w w':World} {cs:List Value} {x:α} (h:RF C P w cs x):RF C P w' cs x:=h
theorem GIn.flat {α:Type} {C:α → List Value} {P:α → Prop} {T:TypeId} {O:Prop} {k:Nat} {w:World} {a:Option Addr} {len:Nat} {L:List α} (h:GIn (RF C P) T O k w a len L) {n:Nat} {x:α} (hx:L[n]? = some x) :
  ∃ g off,a=some ⟨g,off,none⟩ ∧ g < w.heap.size ∧ (∀ j v,(C x)[j]? = some v → w.cell? ⟨g,off + n * k + j,none⟩=some v) ∧ P x:=by
 obtain ⟨g,off,cs,e,hg,hl,hc,⟨rfl,hp⟩,_⟩:=h.at' n x hx
 exact ⟨g,off,e,hg,hc,hp⟩
theorem GIn.take {α:Type} {R:World → List Value → α → Prop} {T:TypeId} {O:Prop} {k:Nat} {w:World} {a:Option Addr} {len:Nat} {L:List α} (h:GIn R T O k w a len L) {n:Nat} (hn:n ≤ len):GIn R T O k w a n (L.take n) :=
 ⟨by rw [List.length_take,h.leng]; omega,by have:=h.small; omega,fun j x hj=>by
  rw [List.getElem?_take] at hj
  split at hj
  ·exact h.at' j x hj
  ·cases hj⟩
structure Gs {α:Type} (R:World → List Value → α → Prop) (k:Nat) (w:World) (css:List (List Value)) (L:List α):Prop where
 leng:css.length=L.length
 all:∀ cs ∈ css,cs.length=k
 at':∀ (n:Nat) (x:α),L[n]? = some x → ∃ cs,css[n]? = some cs ∧ R w cs x
theorem Gs.nil {α:Type} {R:World → List Value → α → Prop} {k:Nat} {w:World}:Gs R k w [] ([]:List α):=⟨rfl,fun cs h=>by simp at h,fun n x h=>by simp at h⟩
theorem Gs.kept {α:Type} {R:World → List Value → α → Prop} {k:Nat} {w w':World} {css:List (List Value)} {L:List α} (h:Gs R k w css L) (hR:∀ cs x,x ∈ L → R w cs x → R w' cs x):Gs R k w' css L :=
 ⟨h.leng,h.all,fun n x hx=>by
  obtain ⟨c,e,r⟩:=h.at' n x hx
  exact ⟨c,e,hR c x (List.mem_of_getElem? hx) r⟩⟩
theorem flat_at {k:Nat}:∀ (css:List (List Value)) (n j:Nat) (cs:List Value),(∀ c ∈ css,c.length=k) → css[n]? = some cs → j < k → css.flatten[n * k + j]? = cs[j]?
 | [],n,j,cs,_,h,_=>by simp at h
 | c :: css,0,j,cs,ha,h,hj=>by
  simp at h
  subst h
  rw [List.flatten_cons,Nat.zero_mul,Nat.zero_add,List.getElem?_append_left (by rw [ha c (by simp)]; exact hj)]
 | c :: css,n + 1,j,cs,ha,h,hj=>by
  have h2:css[n]? = some cs:=by simpa using h
  have hc:=ha c (by simp)
  rw [List.flatten_cons,List.getElem?_append_right (by rw [hc,Nat.succ_mul]; omega),hc,show (n + 1) * k + j - k=n * k + j by rw [Nat.succ_mul]; omega]
  exact flat_at css n j cs (fun d hd=>ha d (by simp [hd])) h2 hj
theorem own_gin {α:Type} {R:World → List Value → α → Prop} {B:Nat} {T:TypeId} {k:Nat} {o:Value} {L:List α} {css:List (List Value)} {w:World} (h:w.ownsRow B T k o L.length css.flatten) (hv:Gs R k w css L) :
  ∃ a cap,o=.slice a L.length cap ∧ GIn R T True k w a L.length L ∧ L.length ≤ cap ∧ cap ≤ 9223372036854775807:=by
 have h0:=h
 obtain ⟨hl,hown⟩:=h
 rcases hown with ⟨rfl,hz⟩ | ⟨g,cap,cur,rfl,h1,hg,hcap,hm,hsz,htk⟩
 ·have hnil:L=[]:=List.length_eq_zero_iff.1 hz
  subst hnil
  exact ⟨none,0,rfl,GIn.nil,by simp,by omega⟩
 ·refine ⟨_,cap,rfl,⟨rfl,by unfold maxLen at hm; omega,fun n x hx=>?_⟩,by unfold maxLen at hm; omega,by unfold maxLen at hm; omega⟩
  obtain ⟨cs,e,r⟩:=hv.at' n x hx
  have hk:=hv.all cs (List.mem_of_getElem? e)
  refine ⟨g,0,cs,rfl,(Array.getElem?_eq_some_iff.1 hg).1,hk,fun j v hj=>?_,r,fun _=>CBlk.row h0 rfl⟩
  have hjk:j < k:=by rw [← hk]; exact (List.getElem?_eq_some_iff.1 hj).1
  have hnl:n < L.length:=(List.getElem?_eq_some_iff.1 hx).1
  rw [Nat.zero_add,cell_of_row w g (n * k + j) cur _ (0,0) hg]
  have h2:=(flat_at css n j cs hv.all e hjk).trans hj
  have hlt:n * k + j < L.length * k:=by
   have:(n + 1) * k ≤ L.length * k:=Nat.mul_le_mul_right k hnl
   rw [Nat.succ_mul] at this
   omega
  rw [← htk,List.getElem?_take,if_pos hlt] at h2
  simpa using h2
theorem new_cells (w:World) (cs:List Value) (T:TypeId):∀ j u,cs[j]? = some u → (w.alloc (.cells cs.toArray T)).cell? ((⟨w.heap.size,0,none⟩:Addr).add j)=some u:=by
 intro j u hj
 have hadd:(⟨w.heap.size,0,none⟩:Addr).add j=⟨w.heap.size,j,none⟩:=by unfold Addr.add; split <;> simp_all
 rw [hadd,World.cell?_alloc_at (hn:=rfl)]
 simpa using hj
def vC (v:Vd):List Value:=[.int .i64 v.k,.int .i64 v.i,.string v.s,.bool v.b]
def exC (x:Ex):List Value:=[.int .i64 x.op,.int .i64 x.a,.int .i64 x.b,.string x.n,.int .i64 x.v.k,.int .i64 x.v.i,.string x.v.s,.bool x.v.b,.int .i64 x.l,.int .i64 x.c]
def agC (x:Ag):List Value:=[.int .i64 x.k,.string x.n,.int .i64 x.v.k,.int .i64 x.v.i,.string x.v.s,.bool x.v.b,.int .i64 x.l,.int .i64 x.c]
def seC (x:Se):List Value:=[.string x.n.t,.int .i64 x.n.l,.int .i64 x.n.c,.int .i64 x.e]
def quC (x:Qu):List Value:=[.bool x.all,.string x.n.t,.int .i64 x.n.l,.int .i64 x.n.c,.int .i64 x.t]
def frC (x:Fr):List Value:=[.string x.n.t,.int .i64 x.n.l,.int .i64 x.n.c,.int .i64 x.v.k,.int .i64 x.v.i,.string x.v.s,.bool x.v.b]
def staC (x:Sta):List Value:=[.string x.n.t,.int .i64 x.n.l,.int .i64 x.n.c,.bool x.nx,.bool x.ac]
def okS (s:ByteArray):Prop:=s.size ≤ 9223372036854775807
def okV (v:Vd):Prop:=okS v.s ∧ -9223372036854775808 ≤ v.i ∧ v.i ≤ 9223372036854775807
def okE (x:Ex):Prop:=okS x.n ∧ okV x.v
def okA (x:Ag):Prop:=okS x.n ∧ okV x.v
structure TyT where
 (ag ex se de qu fr st sy ts int:TypeId)
structure KeptT (Y:TyT) (w w':World):Prop where
 size:w.heap.size ≤ w'.heap.size
 ag:∀ g,CBlk w g Y.ag → w'.heap[g]? = w.heap[g]?
 ex:∀ g,CBlk w g Y.ex → w'.heap[g]? = w.heap[g]?
 se:∀ g,CBlk w g Y.se → w'.heap[g]? = w.heap[g]?
 de:∀ g,CBlk w g Y.de → w'.heap[g]? = w.heap[g]?
 qu:∀ g,CBlk w g Y.qu → w'.heap[g]? = w.heap[g]?
 fr:∀ g,CBlk w g Y.fr → w'.heap[g]? = w.heap[g]?
 st:∀ g,CBlk w g Y.st → w'.heap[g]? = w.heap[g]?
 sy:∀ g,CBlk w g Y.sy → w'.heap[g]? = w.heap[g]?
 ts:∀ g,CBlk w g Y.ts → w'.heap[g]? = w.heap[g]?
 int:∀ g,CBlk w g Y.int → w'.heap[g]? = w.heap[g]?
abbrev rAg:World → List Value → Ag → Prop:=RF agC okA
abbrev rEx:World → List Value → Ex → Prop:=RF exC okE
abbrev rSe:World → List Value → Se → Prop:=RF seC (fun x=>okS x.n.t)
abbrev rQu:World → List Value → Qu → Prop:=RF quC (fun x=>okS x.n.t)
abbrev rFr:World → List Value → Fr → Prop:=RF frC (fun x=>okS x.n.t ∧ okV x.v)
abbrev rSta:World → List Value → Sta → Prop:=RF staC (fun x=>okS x.n.t)
abbrev rInt:World → List Value → Int → Prop:=RF (fun k=>[.int .i64 k]) (fun _=>True)
def rSy (Y:TyT) (O:Prop) (w:World) (cs:List Value) (s:Sy):Prop:=∃ a c,cs=[.string s.n,.slice a s.ar.length c,.int .i64 s.l,.int .i64 s.c] ∧ GIn rAg Y.ag O 8 w a s.ar.length s.ar ∧ okS s.n
def rDe (Y:TyT) (O:Prop) (w:World) (cs:List Value) (d:De):Prop:=∃ a c,cs=[.string d.n.t,.int .i64 d.n.l,.int .i64 d.n.c,.slice a d.ks.length c] ∧ GIn rInt Y.int O 1 w a d.ks.length d.ks ∧ okS d.n.t
def rTs (Y:TyT) (O:Prop) (w:World) (cs:List Value) (t:Ts):Prop:=∃ oa oc na nc sa sc,cs=[.string t.f.t,.int .i64 t.f.l,.int .i64 t.f.c,.string t.t.t,.int .i64 t.t.l,.int .i64 t.t.c,.string t.on.n,.slice oa t.on.ar.length oc,.int .i64 t.on.l,.int .i64 t.on.c,.slice na t.ns.length nc,.int .i64 t.g,.slice sa t.ss.length sc] ∧
 GIn rAg Y.ag O 8 w oa t.on.ar.length t.on.ar ∧ GIn rEx Y.ex O 10 w na t.ns.length t.ns ∧ GIn rSe Y.se O 4 w sa t.ss.length t.ss ∧ okS t.f.t ∧ okS t.t.t ∧ okS t.on.n
structure TrIn (Y:TyT) (O:Prop) (w:World) (cs:List Value) (s:Tr):Prop where
 ex':∃ da dc qa qc fa fc ta tc la lc xa xc,cs=[.string s.n.t,.int .i64 s.n.l,.int .i64 s.n.c,.slice da s.ds.length dc,.slice qa s.qs.length qc,.slice fa s.fs.length fc,.slice ta s.st.length tc,.string s.s.t,.int .i64 s.s.l,.int .i64 s.s.c,.slice la s.al.length lc,.slice xa s.ts.length xc] ∧
  GIn (rDe Y O) Y.de O 4 w da s.ds.length s.ds ∧ GIn rQu Y.qu O 5 w qa s.qs.length s.qs ∧ GIn rFr Y.fr O 7 w fa s.fs.length s.fs ∧ GIn rSta Y.st O 5 w ta s.st.length s.st ∧ GIn (rSy Y O) Y.sy O 4 w la s.al.length s.al ∧ GIn (rTs Y O) Y.ts O 13 w xa s.ts.length s.ts
 names:okS s.n.t ∧ okS s.s.t
theorem GIn.belowF {α:Type} {C:α → List Value} {P:α → Prop} {T:TypeId} {O:Prop} {k:Nat} {w w':World} {a:Option Addr} {len:Nat} {L:List α} (h:GIn (RF C P) T O k w a len L) (hb:Below w.heap.size w w'):GIn (RF C P) T O k w' a len L :=
 h.below hb (fun _ _ _ h=>h)
theorem GIn.keptF {α:Type} {C:α → List Value} {P:α → Prop} {T:TypeId} {O:Prop} {k:Nat} {w w':World} {a:Option Addr} {len:Nat} {L:List α} (h:GIn (RF C P) T O k w a len L) (hO:O) (hsz:w.heap.size ≤ w'.heap.size) (hg:∀ g,CBlk w g T → w'.heap[g]? = w.heap[g]?):GIn (RF C P) T O k w' a len L :=
 h.kept hO hsz hg (fun _ _ _ h=>h)
theorem rSy_below {Y:TyT} {O:Prop} {w w':World} {cs:List Value} {s:Sy} (h:rSy Y O w cs s) (hb:Below w.heap.size w w'):rSy Y O w' cs s:=by
 obtain ⟨a,c,e,h1,h2⟩:=h
 exact ⟨a,c,e,h1.belowF hb,h2⟩
theorem rDe_below {Y:TyT} {O:Prop} {w w':World} {cs:List Value} {d:De} (h:rDe Y O w cs d) (hb:Below w.heap.size w w'):rDe Y O w' cs d:=by
 obtain ⟨a,c,e,h1,h2⟩:=h
 exact ⟨a,c,e,h1.belowF hb,h2⟩
theorem rTs_below {Y:TyT} {O:Prop} {w w':World} {cs:List Value} {t:Ts} (h:rTs Y O w cs t) (hb:Below w.heap.size w w'):rTs Y O w' cs t:=by
 obtain ⟨oa,oc,na,nc,sa,sc,e,h1,h2,h3,h4⟩:=h
 exact ⟨oa,oc,na,nc,sa,sc,e,h1.belowF hb,h2.belowF hb,h3.belowF hb,h4⟩
theorem rSy_kept {Y:TyT} {O:Prop} {w w':World} {cs:List Value} {s:Sy} (h:rSy Y O w cs s) (hO:O) (hk:KeptT Y w w'):rSy Y O w' cs s:=by
 obtain ⟨a,c,e,h1,h2⟩:=h
 exact ⟨a,c,e,h1.keptF hO hk.size hk.ag,h2⟩
theorem rDe_kept {Y:TyT} {O:Prop} {w w':World} {cs:List Value} {d:De} (h:rDe Y O w cs d) (hO:O) (hk:KeptT Y w w'):rDe Y O w' cs d:=by
 obtain ⟨a,c,e,h1,h2⟩:=h
 exact ⟨a,c,e,h1.keptF hO hk.size hk.int,h2⟩
theorem rTs_kept {Y:TyT} {O:Prop} {w w':World} {cs:List Value} {t:Ts} (h:rTs Y O w cs t) (hO:O) (hk:KeptT Y w w'):rTs Y O w' cs t:=by
 obtain ⟨oa,oc,na,nc,sa,sc,e,h1,h2,h3,h4⟩:=h
 exact ⟨oa,oc,na,nc,sa,sc,e,h1.keptF hO hk.size hk.ag,h2.keptF hO hk.size hk.ex,h3.keptF hO hk.size hk.se,h4⟩
theorem TrIn.below {Y:TyT} {O:Prop} {w w':World} {cs:List Value} {s:Tr} (h:TrIn Y O w cs s) (hb:Below w.heap.size w w'):TrIn Y O w' cs s:=by
 obtain ⟨⟨da,dc,qa,qc,fa,fc,ta,tc,la,lc,xa,xc,e,h1,h2,h3,h4,h5,h6⟩,hn⟩:=h
 exact ⟨⟨da,dc,qa,qc,fa,fc,ta,tc,la,lc,xa,xc,e,h1.below hb (fun _ _ _ h=>rDe_below h hb),h2.belowF hb,h3.belowF hb,h4.belowF hb,h5.below hb (fun _ _ _ h=>rSy_below h hb),h6.below hb (fun _ _ _ h=>rTs_below h hb)⟩,hn⟩
theorem TrIn.kept {Y:TyT} {O:Prop} {w w':World} {cs:List Value} {s:Tr} (h:TrIn Y O w cs s) (hO:O) (hk:KeptT Y w w'):TrIn Y O w' cs s:=by
 obtain ⟨⟨da,dc,qa,qc,fa,fc,ta,tc,la,lc,xa,xc,e,h1,h2,h3,h4,h5,h6⟩,hn⟩:=h
 exact ⟨⟨da,dc,qa,qc,fa,fc,ta,tc,la,lc,xa,xc,e,h1.kept hO hk.size hk.de (fun _ _ _ h=>rDe_kept h hO hk),h2.keptF hO hk.size hk.qu,h3.keptF hO hk.size hk.fr,h4.keptF hO hk.size hk.st,h5.kept hO hk.size hk.sy (fun _ _ _ h=>rSy_kept h hO hk),h6.kept hO hk.size hk.ts (fun _ _ _ h=>rTs_kept h hO hk)⟩,hn⟩
theorem setCells_blk {b:Nat} {T:TypeId}:∀ (vs:List Value) (o:Nat) (w:World),(∃ cur,w.heap[b]? = some (.cells cur T (0,0))) → ∃ cur,(w.setCells b o vs).heap[b]? = some (.cells cur T (0,0))
 | [],_,_,h=>h
 | v :: r,o,w,⟨cur,h⟩=>setCells_blk r (o + 1) _ ⟨_,heap_setCell_same w b o cur T v h⟩
theorem setCells_below {B b:Nat} {a:World} (hb:B ≤ b):∀ (vs:List Value) (o:Nat) (w:World),Below B a w → Below B a (w.setCells b o vs)
 | [],_,_,h=>h
 | v :: r,o,w,h=>setCells_below hb r (o + 1) _ (h.setCell hb v)
structure Ea (T:TypeId) (k:Nat) (w0:World) (g:Nat) (css:List (List Value)) (n:Nat) (w:World):Prop where
 below:Below w0.heap.size w0 w
 own:w0.heap.size ≤ g
 blk:∃ cur,w.heap[g]? = some (.cells cur T (0,0))
 todo:∀ j cs,n ≤ j → css[j]? = some cs → ∀ i v,cs[i]? = some v → w.cell? ⟨g,j * k + i,none⟩=some v
theorem Ea.lt {T:TypeId} {k:Nat} {w0:World} {g:Nat} {css:List (List Value)} {n:Nat} {w:World} (h:Ea T k w0 g css n w):g < w.heap.size:=by
 obtain ⟨cur,e⟩:=h.blk
 exact (Array.getElem?_eq_some_iff.1 e).1
theorem Ea.cblk {T:TypeId} {k:Nat} {w0:World} {g:Nat} {css:List (List Value)} {n:Nat} {w:World} (h:Ea T k w0 g css n w):CBlk w g T:=by
 obtain ⟨cur,e⟩:=h.blk
 exact ⟨cur,_,e⟩
theorem Ea.frozen {T:TypeId} {k:Nat} {w0:World} {g:Nat} {css:List (List Value)} {n:Nat} {w:World} (h:Ea T k w0 g css n w) (j:Nat):w.frozen? ⟨g,j,none⟩=false:=by
 obtain ⟨cur,e⟩:=h.blk
 exact frozen_of_row w g j cur T e
theorem Ea.start {w0 w':World} {T:TypeId} {k n:Nat} {css:List (List Value)} {v:Value} (ho:w'.ownsRow w0.heap.size T k v n css.flatten) (hne:v ≠ .slice none 0 0) (hb:Below w0.heap.size w0 w') (hk:∀ cs ∈ css,cs.length=k) :
  ∃ g c,v=.slice (some ⟨g,0,none⟩) n c ∧ n ≤ c ∧ Ea T k w0 g css 0 w':=by
 obtain ⟨hl,hown⟩:=ho
 rcases hown with ⟨rfl,hz⟩ | ⟨g,cap,cur,rfl,h1,hg,hcap,hm,hsz,htk⟩
 ·exact absurd rfl hne
 ·refine ⟨g,cap,rfl,hcap,hb,h1,⟨cur,hg⟩,fun j cs _ hj i v hi=>?_⟩
  have hik:i < k:=by rw [← hk cs (List.mem_of_getElem? hj)]; exact (List.getElem?_eq_some_iff.1 hi).1
  rw [cell_of_row w' g (j * k + i) cur _ (0,0) hg]
  have h2:=(flat_at css j i cs hk hj hik).trans hi
  have hlt:=(List.getElem?_eq_some_iff.1 h2).1
  rw [hl] at hlt
  rw [← htk,List.getElem?_take,if_pos hlt] at h2
  simpa using h2
theorem Ea.call {T:TypeId} {k:Nat} {w0:World} {g:Nat} {css:List (List Value)} {n:Nat} {w w':World} (h:Ea T k w0 g css n w) (hb:Below w.heap.size w w'):Ea T k w0 g css n w':=by
 have hlt:=h.lt
 obtain ⟨cur,e⟩:=h.blk
 exact ⟨h.below.trans (hb.mono h.below.size),h.own,⟨cur,(hb.block g hlt).trans e⟩,fun j cs hj hc i v hi=>(hb.cell (p:=⟨g,j * k + i,none⟩) hlt).trans (h.todo j cs hj hc i v hi)⟩
theorem Ea.put {T:TypeId} {k:Nat} {w0:World} {g:Nat} {css:List (List Value)} {n:Nat} {w:World} (h:Ea T k w0 g css n w) (vs:List Value) (hl:vs.length=k):Ea T k w0 g css (n + 1) (w.setCells g (n * k) vs) :=
 ⟨setCells_below h.own vs _ _ h.below,h.own,setCells_blk vs _ _ h.blk,fun j cs hj hc i v hi=>by
  rw [World.cell?_setCells_out g vs (n * k) w ⟨g,j * k + i,none⟩ (fun _ _=>.inr (by
   show n * k + vs.length ≤ j * k + i
   have:=Nat.mul_le_mul_right k hj
   rw [Nat.succ_mul] at this
   omega))]
  exact h.todo j cs (by omega) hc i v hi⟩
def KU (U:TypeId) (w w':World):Prop:=w.heap.size ≤ w'.heap.size ∧ ∀ g,g < w.heap.size → ¬ CBlk w g U → w'.heap[g]? = w.heap[g]?
theorem KU.of_below {U:TypeId} {w w':World} (h:Below w.heap.size w w'):KU U w w':=⟨h.size,fun g hg _=>h.block g hg⟩
theorem KU.trans {U:TypeId} {w w1 w2:World} (h:KU U w w1) (k:KU U w1 w2):KU U w w2 :=
 ⟨Nat.le_trans h.1 k.1,fun g hg hn=>by
  have e:=h.2 g hg hn
  rw [k.2 g (Nat.lt_of_lt_of_le hg h.1) (fun ⟨cs,f,c⟩=>hn ⟨cs,f,e.symm.trans c⟩),e]⟩
theorem KU.grown {U:TypeId} {B k n:Nat} {w w':World} {v:Value} {xs:List Value} (ho:w.ownsRow B U k v n xs) (hg:w.grownBy w' v.ownBlock):KU U w w' :=
 ⟨hg.size,fun g hl hn=>hg.block g hl (fun e=>hn (CBlk.row ho e.symm))⟩
theorem KU.set {U:TypeId} {w:World} {b:Nat} (hb:CBlk w b U) (o:Nat) (v:Value):KU U w (w.setCell ⟨b,o,none⟩ v) :=
 ⟨by simp,fun g _ hn=>heap_setCell_other w ⟨b,o,none⟩ g v (fun e=>hn (by rw [show g=b from e]; exact hb))⟩
theorem KU.kept {U T:TypeId} {w w':World} (h:KU U w w') {g:Nat} (hc:CBlk w g T) (hne:T ≠ U):w'.heap[g]? = w.heap[g]? :=
 h.2 g hc.lt (fun hu=>hc.ne hu hne rfl)
theorem KU.obj {U T:TypeId} {w w':World} (h:KU U w w') {g:Nat} {A:Array Value} {f:Nat × Nat} (hc:w.heap[g]? = some (.cells A T f)) (hne:T ≠ U):w'.heap[g]? = some (.cells A T f) :=
 (h.kept ⟨A,f,hc⟩ hne).trans hc
theorem GIn.ku {α:Type} {C:α → List Value} {P:α → Prop} {T U:TypeId} {k:Nat} {w w':World} {a:Option Addr} {len:Nat} {L:List α} (h:GIn (RF C P) T True k w a len L) (hk:KU U w w') (hne:T ≠ U):GIn (RF C P) T True k w' a len L :=
 h.keptF trivial hk.1 (fun g hc=>hk.kept hc hne)
def Row {α:Type} (R:World → List Value → α → Prop) (T:TypeId) (k B:Nat) (w:World) (v:Value) (L:List α):Prop :=
 ∃ css,w.ownsRow B T k v L.length css.flatten ∧ Gs R k w css L
theorem Row.nil {α:Type} {R:World → List Value → α → Prop} {T:TypeId} {k B:Nat} {w:World}:Row R T k B w (.slice none 0 0) ([]:List α) :=
 ⟨[],World.ownsRow_nil _ _ _ _,Gs.nil⟩
theorem ownsRow_heap {w w':World} {B:Nat} {T:TypeId} {k n:Nat} {v:Value} {xs:List Value} (h:w.ownsRow B T k v n xs) (hk:∀ g,CBlk w g T → w'.heap[g]? = w.heap[g]?):w'.ownsRow B T k v n xs:=by
 obtain ⟨hl,hown⟩:=h
 refine ⟨hl,?_⟩
 rcases hown with ⟨rfl,hz⟩ | ⟨g,cap,cur,rfl,h1,hg,hcap,hm,hsz,htk⟩
 ·exact .inl ⟨rfl,hz⟩
 ·exact .inr ⟨g,cap,cur,rfl,h1,(hk g ⟨cur,_,hg⟩).trans hg,hcap,hm,hsz,htk⟩
theorem Row.below {α:Type} {R:World → List Value → α → Prop} {T:TypeId} {k B:Nat} {w w':World} {v:Value} {L:List α} (h:Row R T k B w v L) (hb:Below w.heap.size w w') (hR:∀ cs x,x ∈ L → R w cs x → R w' cs x):Row R T k B w' v L:=by
 obtain ⟨css,ho,hs⟩:=h
 exact ⟨css,ownsRow_heap ho (fun g hc=>hb.block g hc.lt),hs.kept hR⟩
theorem Row.ku {α:Type} {R:World → List Value → α → Prop} {T U:TypeId} {k B:Nat} {w w':World} {v:Value} {L:List α} (h:Row R T k B w v L) (hk:KU U w w') (hne:T ≠ U) (hR:∀ cs x,x ∈ L → R w cs x → R w' cs x):Row R T k B w' v L:=by
 obtain ⟨css,ho,hs⟩:=h
 exact ⟨css,ownsRow_heap ho (fun g hc=>hk.kept hc hne),hs.kept hR⟩
theorem Row.slice {α:Type} {R:World → List Value → α → Prop} {T:TypeId} {k B:Nat} {w:World} {v:Value} {L:List α} (h:Row R T k B w v L):∃ a c,v=.slice a L.length c:=by
 obtain ⟨css,ho,_⟩:=h
 exact cs_own ho
section
variable {P:Program} {w:World}
end
end Go.Proofs.YtiafhfchjhffhaaGreatDoor
