/- paclaim: ParPl ParNs ParJoin ParTopMath -/
import Derived.Test.YtiafhfchjhffhaaGreatDoorLowPa2
import Derived.Test.YtiafhfchjhffhaaGreatDoorLowMem
namespace Go.Proofs.YtiafhfchjhffhaaGreatDoor
open Go.RowKit
set_option linter.unusedVariables false
def K1 (g:Nat):Nat → Prop:=fun k=>k=g
theorem kp_set1 {g:Nat} {a b:World} (h:Kp (K1 g) a b) (o:Nat) (v:Value):Kp (K1 g) a (b.setCell ⟨g,o,none⟩ v):=h.set (S:=K1 g) (g:=g) rfl v
def tkV (x:Tk):Value:=.agg #[.int .i64 (x.k:Nat),.string ⟨x.t.toArray⟩,.int .i64 (x.line:Nat),.int .i64 (x.col:Nat)]
def parC (ta:Option Addr) (tl tc:Nat) (p:Pl) (ev:Value):Array Value:=#[.slice ta tl tc,.int .i64 (p.a:Nat),ev,.int .i64 p.op]
def errC (line col er:Nat):Array Value:=#[.int .i64 (line:Nat),.int .i64 (col:Nat),.iface 44 (.int .i64 (er:Nat))]
def ErrAt (w:World) (p:Pl) (ev:Value):Prop :=
 (p.er=0 → ev=.nilIface) ∧ (p.er ≠ 0 → ∃ h,ev=.iface 168 (.pointer (some ⟨h,0,none⟩)) ∧ w.heap[h]? = some (.cells (errC p.line p.col p.er) 173 (0,0)))
theorem ErrAt.kept {w w':World} {p:Pl} {ev:Value} (h:ErrAt w p ev) (hk:∀ k,CBlk w k 173 → w'.heap[k]? = w.heap[k]?):ErrAt w' p ev :=
 ⟨h.1,fun e=>by
  obtain ⟨b,e1,e2⟩:=h.2 e
  exact ⟨b,e1,(hk b ⟨_,_,e2⟩).trans e2⟩⟩
structure PlAt (w:World) (g:Nat) (ta:Option Addr) (tl tc:Nat) (M:List Tk) (p:Pl):Prop where
 obj:∃ ev,w.heap[g]? = some (.cells (parC ta tl tc p ev) 167 (0,0)) ∧ ErrAt w p ev
 tk:TkIn w 183 ta tl M
 at':p.a ≤ M.length
structure MOk (M:List Tk):Prop where
 len:M.length ≤ 1000000
 kinds:∀ t ∈ M,1 ≤ t.k ∧ t.k ≤ 5
 nums:NumTk M
 texts:∀ t ∈ M,t.t.length ≤ 4096
theorem PlAt.cblk {w:World} {g tl tc:Nat} {ta:Option Addr} {M:List Tk} {p:Pl} (h:PlAt w g ta tl tc M p):CBlk w g 167:=by
 obtain ⟨ev,h1,_⟩:=h.obj
 exact ⟨_,_,h1⟩
theorem PlAt.lt {w:World} {g tl tc:Nat} {ta:Option Addr} {M:List Tk} {p:Pl} (h:PlAt w g ta tl tc M p):g < w.heap.size:=h.cblk.lt
theorem PlAt.below {w w':World} {g tl tc:Nat} {ta:Option Addr} {M:List Tk} {p:Pl} (h:PlAt w g ta tl tc M p) (b:Below w.heap.size w w'):PlAt w' g ta tl tc M p:=by
 obtain ⟨ev,h1,h2⟩:=h.obj
 exact ⟨⟨ev,(b.block g h.lt).trans h1,h2.kept (fun k hk=>b.block k hk.lt)⟩,h.tk.below b,h.at'⟩
theorem PlAt.cells {w:World} {g tl tc:Nat} {ta:Option Addr} {M:List Tk} {p:Pl} (h:PlAt w g ta tl tc M p) :
  ∃ ev,(p.er=0 → ev=.nilIface) ∧ (p.er ≠ 0 → ∃ b,ev=.iface 168 (.pointer (some ⟨b,0,none⟩)) ∧ w.heap[b]? = some (.cells (errC p.line p.col p.er) 173 (0,0))) ∧ w.cell? ⟨g,0,none⟩=some (.slice ta tl tc) ∧ w.cell? ⟨g,1,none⟩=some (.int .i64 (p.a:Nat)) ∧ w.cell? ⟨g,2,none⟩=some ev ∧ w.cell? ⟨g,3,none⟩=some (.int .i64 p.op) ∧
   w.frozen? ⟨g,1,none⟩=false ∧ w.frozen? ⟨g,2,none⟩=false ∧ w.frozen? ⟨g,3,none⟩=false:=by
 obtain ⟨ev,h1,h2⟩:=h.obj
 refine ⟨ev,h2.1,h2.2,?_,?_,?_,?_,frozen_of_row w g 1 _ _ h1,frozen_of_row w g 2 _ _ h1,frozen_of_row w g 3 _ _ h1⟩
 ·rw [cell_of_row w g 0 _ _ _ h1]; rfl
 ·rw [cell_of_row w g 1 _ _ _ h1]; rfl
 ·rw [cell_of_row w g 2 _ _ _ h1]; rfl
 ·rw [cell_of_row w g 3 _ _ _ h1]; rfl
theorem tk_blocks {w w':World} {g tl:Nat} {ta:Option Addr} {M:List Tk} (h:TkIn w 183 ta tl M) (hg:CBlk w g 167) (hk:Kp (K1 g) w w'):TkIn w' 183 ta tl M :=
 h.kept (fun k c=>hk.block k c.lt (fun e=>by
  have e2:k=g:=e
  exact c.ne hg (by decide) e2))
theorem PlAt.skip {w:World} {g tl tc:Nat} {ta:Option Addr} {M:List Tk} {p:Pl} (h:PlAt w g ta tl tc M p) (ha:p.a < M.length):PlAt (w.setCell ⟨g,1,none⟩ (.int .i64 ((p.a + 1:Nat):Int))) g ta tl tc M (skipP p):=by
 obtain ⟨ev,h1,h2⟩:=h.obj
 have hK:Kp (K1 g) w (w.setCell ⟨g,1,none⟩ (.int .i64 ((p.a + 1:Nat):Int))):=kp_set1 (Kp.refl _ w) _ _
 exact ⟨⟨ev,heap_setCell_same w g 1 _ _ _ h1,h2.kept (fun k c=>hK.block k c.lt (fun e=>c.ne h.cblk (by decide) e))⟩,tk_blocks h.tk h.cblk hK,ha⟩
theorem PlAt.opened {w:World} {g tl tc:Nat} {ta:Option Addr} {M:List Tk} {p:Pl} (h:PlAt w g ta tl tc M p) (k:Int):PlAt (w.setCell ⟨g,3,none⟩ (.int .i64 k)) g ta tl tc M ⟨p.a,p.er,p.line,p.col,k⟩:=by
 obtain ⟨ev,h1,h2⟩:=h.obj
 have hK:Kp (K1 g) w (w.setCell ⟨g,3,none⟩ (.int .i64 k)):=kp_set1 (Kp.refl _ w) _ _
 exact ⟨⟨ev,heap_setCell_same w g 3 _ _ _ h1,h2.kept (fun k c=>hK.block k c.lt (fun e=>c.ne h.cblk (by decide) e))⟩,tk_blocks h.tk h.cblk hK,h.at'⟩
theorem tk_cells {w:World} {tl n:Nat} {ta:Option Addr} {M:List Tk} (h:TkIn w 183 ta tl M) (hn:n < M.length):∃ b off,ta=some ⟨b,off,none⟩ ∧ b < w.heap.size ∧ w.cell? ⟨b,off + n * 4,none⟩=some (.int .i64 ((tkAt M n).k:Nat)) ∧ w.cell? ⟨b,off + n * 4 + 1,none⟩=some (.string ⟨(tkAt M n).t.toArray⟩) ∧ w.cell? ⟨b,off + n * 4 + 2,none⟩=some (.int .i64 ((tkAt M n).line:Nat)) ∧ w.cell? ⟨b,off + n * 4 + 3,none⟩=some (.int .i64 ((tkAt M n).col:Nat)):=by
 obtain ⟨b,off,e,c,h1,h2,h3,h4⟩:=h.at' n _ (tk_at hn)
 exact ⟨b,off,e,c.lt,h1,h2,h3,h4⟩
def Ho (w:World) (g:Nat) (cs:Array Value) (T:TypeId):Prop:=w.heap[g]? = some (.cells cs T (0,0))
theorem Ho.lt {w:World} {g:Nat} {cs:Array Value} {T:TypeId} (h:Ho w g cs T):g < w.heap.size:=(Array.getElem?_eq_some_iff.1 h).1
theorem Ho.alloc {w:World} {g:Nat} {cs:Array Value} {T:TypeId} (h:Ho w g cs T) (o:Obj):Ho (w.alloc o) g cs T:=(heap_alloc_old w o h.lt).trans h
theorem Ho.new (w:World) (cs:Array Value) (T:TypeId) {g:Nat} (e:g=w.heap.size):Ho (w.alloc (.cells cs T)) g cs T:=by
 subst e
 exact heap_alloc_new w _
theorem Ho.drewN {w:World} {g:Nat} {cs:Array Value} {T:TypeId} (h:Ho w g cs T) (n:Nat):Ho (w.drewN n) g cs T:=h
theorem Ho.drew {w:World} {g:Nat} {cs:Array Value} {T:TypeId} (h:Ho w g cs T):Ho w.drew g cs T:=h
theorem Ho.other {w:World} {g b o:Nat} {cs:Array Value} {T:TypeId} {v:Value} (h:Ho w g cs T) (hne:g ≠ b):Ho (w.setCell ⟨b,o,none⟩ v) g cs T:=(heap_setCell_other w ⟨b,o,none⟩ g v hne).trans h
theorem Ho.set {w:World} {g o:Nat} {cs ds:Array Value} {T:TypeId} {v:Value} (h:Ho w g cs T) (e:ds=cs.set! o v):Ho (w.setCell ⟨g,o,none⟩ v) g ds T:=by
 subst e
 exact heap_setCell_same w g o _ _ v h
theorem par_setNew {S:Nat → Prop} {a b:World} (h:Kp S a b) {g o:Nat} (hg:a.heap.size ≤ g) (v:Value):Kp S a (b.setCell ⟨g,o,none⟩ v) :=
 ⟨h.os,h.tape,h.output,by rw [World.size_setCell]; exact h.size,fun k hk hn=>(heap_setCell_other b _ k v (by simp; omega)).trans (h.block k hk hn)⟩
theorem PlAt.ho {w:World} {g tl tc:Nat} {ta:Option Addr} {M:List Tk} {p:Pl} (h:PlAt w g ta tl tc M p):∃ ev,Ho w g (parC ta tl tc p ev) 167 ∧ ErrAt w p ev:=h.obj
theorem PlAt.put {w W:World} {g tl tc:Nat} {ta:Option Addr} {M:List Tk} {p q:Pl} {ev:Value} (h:PlAt w g ta tl tc M p) (hk:Kp (K1 g) w W) (ho:Ho W g (parC ta tl tc q ev) 167) (he:ErrAt W q ev) (hq:q.a ≤ M.length):PlAt W g ta tl tc M q :=
 ⟨⟨ev,ho,he⟩,tk_blocks h.tk h.cblk hk,hq⟩
theorem ErrAt.kp {w W:World} {g:Nat} {p q:Pl} {ev:Value} (h:ErrAt w p ev) (hg:CBlk w g 167) (hk:Kp (K1 g) w W) (e:q.er=p.er) (e1:q.line=p.line) (e2:q.col=p.col):ErrAt W q ev:=by
 have h2:=h.kept (w':=W) (fun k c=>hk.block k c.lt (fun e=>c.ne hg (by decide) e))
 unfold ErrAt at h2 ⊢
 rw [e,e1,e2]
 exact h2
theorem par_drewN {B:Nat} {a w:World} (h:Below B a w) (n:Nat):Below B a (w.drewN n):=⟨h.os,h.tape,h.output,h.size,h.block⟩
theorem Kp1.below {g:Nat} {w w':World} (h:Below w.heap.size w w'):Kp (K1 g) w w':=Kp.of_below h
def exV (x:Ex):Value:=.agg #[.int .i64 x.op,.int .i64 x.a,.int .i64 x.b,.string x.n,.int .i64 x.v.k,.int .i64 x.v.i,.string x.v.s,.bool x.v.b,.int .i64 x.l,.int .i64 x.c]
def exCs (L:List Ex):List Value:=(L.map exC).flatten
theorem exCs_app (L M:List Ex):exCs (L ++ M)=exCs L ++ exCs M:=by unfold exCs; rw [List.map_append,List.flatten_append]
theorem exCs_len:∀ (L:List Ex),(exCs L).length=L.length * 10
 | []=>rfl
 | x :: r=>by
  have h:=exCs_len r
  unfold exCs at h ⊢
  rw [List.map_cons,List.flatten_cons,List.length_append,h,List.length_cons]
  show 10 + _=_
  omega
theorem exCs_one (L:List Ex):∀ u ∈ exCs L,u.oneCell'=true:=by
 intro u hu
 unfold exCs at hu
 obtain ⟨cs,hc,hu⟩:=List.mem_flatten.1 hu
 obtain ⟨x,_,rfl⟩:=List.mem_map.1 hc
 simp only [exC,List.mem_cons,List.not_mem_nil,or_false] at hu
 rcases hu with rfl | rfl | rfl | rfl | rfl | rfl | rfl | rfl | rfl | rfl <;> rfl
theorem exCs_at {L:List Ex} {n j:Nat} {x:Ex} (h:L[n]? = some x) (hj:j < 10):(exCs L)[n * 10 + j]? = (exC x)[j]? :=
 flat_at (k:=10) (L.map exC) n j (exC x) (fun c hc=>by obtain ⟨y,_,rfl⟩:=List.mem_map.1 hc; rfl) (by rw [List.getElem?_map,h]; rfl) hj
def NsAt (B:Nat) (w:World) (v:Value) (L:List Ex):Prop:=w.ownsRow B 58 10 v L.length (exCs L)
theorem NsAt.nil {B:Nat} {w:World}:NsAt B w (.slice none 0 0) []:=World.ownsRow_nil _ _ _ _
theorem NsAt.heap {B:Nat} {w W:World} {v:Value} {L:List Ex} (h:NsAt B w v L) (hk:∀ g,CBlk w g 58 → W.heap[g]? = w.heap[g]?):NsAt B W v L:=ownsRow_heap h hk
theorem NsAt.below {B:Nat} {w W:World} {v:Value} {L:List Ex} (h:NsAt B w v L) (hb:Below w.heap.size w W):NsAt B W v L:=h.heap (fun g c=>hb.block g c.lt)
theorem NsAt.base {B B':Nat} {w:World} {v:Value} {L:List Ex} (h:NsAt B w v L) (hb:B' ≤ B):NsAt B' w v L:=cs_ownBase h hb
theorem NsAt.kp {B g:Nat} {w W:World} {v:Value} {L:List Ex} (h:NsAt B w v L) (hg:CBlk w g 167) (hk:Kp (K1 g) w W):NsAt B W v L :=
 h.heap (fun k c=>hk.block k c.lt (fun e=>c.ne hg (by decide) e))
theorem NsAt.slice {B:Nat} {w:World} {v:Value} {L:List Ex} (h:NsAt B w v L):∃ a c,v=.slice a L.length c:=cs_own h
theorem NsAt.block {B:Nat} {w:World} {v:Value} {L:List Ex} (h:NsAt B w v L) (h0:L ≠ []):∃ g c,v=.slice (some ⟨g,0,none⟩) L.length c ∧ B ≤ g ∧ CBlk w g 58 ∧ (∀ j u,(exCs L)[j]? = some u → w.cell? ((⟨g,0,none⟩:Addr).add j)=some u):=by
 have h9:=h
 obtain ⟨hl,hown⟩:=h
 rcases hown with ⟨rfl,hz⟩ | ⟨g,cap,cur,rfl,h1,hg,hcap,hm,hsz,htk⟩
 ·exact absurd (List.length_eq_zero_iff.1 hz) h0
 ·refine ⟨g,cap,rfl,h1,⟨_,_,hg⟩,fun j u hj=>?_⟩
  have hadd:(⟨g,0,none⟩:Addr).add j=⟨g,j,none⟩:=by unfold Addr.add; split <;> simp_all
  rw [hadd,cell_of_row w g j cur _ (0,0) hg]
  have hjl:=(List.getElem?_eq_some_iff.1 hj).1
  rw [hl] at hjl
  rw [← htk,List.getElem?_take,if_pos hjl] at hj
  simpa using hj
theorem NsAt.new {B g:Nat} (w:World) (x:Ex) (hB:B ≤ w.heap.size) (e:g=w.heap.size):NsAt B (w.alloc (.cells #[.int .i64 x.op,.int .i64 x.a,.int .i64 x.b,.string x.n,.int .i64 x.v.k,.int .i64 x.v.i,.string x.v.s,.bool x.v.b,.int .i64 x.l,.int .i64 x.c] 58)) (.slice (some ⟨g,0,none⟩) 1 1) [x]:=by
 subst e
 exact ⟨rfl,.inr ⟨w.heap.size,1,_,rfl,hB,heap_alloc_new w _,Nat.le_refl _,by unfold maxLen; omega,rfl,rfl⟩⟩
theorem cells_below {w W:World} {g:Nat} {xs:List Value} (h:∀ j u,xs[j]? = some u → w.cell? ((⟨g,0,none⟩:Addr).add j)=some u) (hg:g < w.heap.size) (hb:Below w.heap.size w W):∀ j u,xs[j]? = some u → W.cell? ((⟨g,0,none⟩:Addr).add j)=some u:=fun j u hj=>by
 have h1:=h j u hj
 have hadd:(⟨g,0,none⟩:Addr).add j=⟨g,j,none⟩:=by unfold Addr.add; split <;> simp_all
 rw [hadd] at h1 ⊢
 exact (hb.cell (p:=⟨g,j,none⟩) hg).trans h1
theorem ex_new (w:World) (x:Ex) (T:TypeId) {g:Nat} (e:g=w.heap.size):∀ j u,(exCs [x])[j]? = some u → (w.alloc (.cells #[.int .i64 x.op,.int .i64 x.a,.int .i64 x.b,.string x.n,.int .i64 x.v.k,.int .i64 x.v.i,.string x.v.s,.bool x.v.b,.int .i64 x.l,.int .i64 x.c] T)).cell? ((⟨g,0,none⟩:Addr).add j)=some u:=by
 subst e
 exact new_cells w (exC x) T
theorem ns_set {B b o:Nat} {w:World} {v u:Value} {n:Nat} {xs:List Value} {T:TypeId} (h:w.ownsRow B 58 10 v n xs) (hb:CBlk w b T) (hne:T ≠ 58):(w.setCell ⟨b,o,none⟩ u).ownsRow B 58 10 v n xs :=
 ownsRow_heap h (fun k c=>heap_setCell_other w _ k u (fun e=>hb.ne c hne e.symm))
theorem PlAt.setT {w:World} {g tl tc b o:Nat} {ta:Option Addr} {M:List Tk} {p:Pl} {u:Value} {T:TypeId} (h:PlAt w g ta tl tc M p) (hb:CBlk w b T) (h1:T ≠ 167) (h2:T ≠ 183) (h3:T ≠ 173):PlAt (w.setCell ⟨b,o,none⟩ u) g ta tl tc M p:=by
 have key:∀ k U,CBlk w k U → T ≠ U → (w.setCell ⟨b,o,none⟩ u).heap[k]? = w.heap[k]? := fun k U c hne=>heap_setCell_other w _ k u (fun e=>hb.ne c hne e.symm)
 obtain ⟨ev,k1,k2⟩:=h.obj
 exact ⟨⟨ev,(key g _ h.cblk h1).trans k1,k2.kept (fun k c=>key k _ c h3)⟩,h.tk.kept (fun k c=>key k _ c h2),h.at'⟩
theorem Ho.cblk {w:World} {g:Nat} {cs:Array Value} {T:TypeId} (h:Ho w g cs T):CBlk w g T:=⟨_,_,h⟩
theorem Ho.ku {w W:World} {g:Nat} {cs:Array Value} {T U:TypeId} (h:Ho w g cs T) (hk:KU U w W) (hne:T ≠ U):Ho W g cs T:=hk.obj h hne
theorem infoEx:(Tryz.prog.info? 58).map (fun i=>(i.zero,i.size,i.bytes))=some (some (.agg #[.int .i64 0,.int .i64 0,.int .i64 0,.string ⟨#[]⟩,.int .i64 0,.int .i64 0,.string ⟨#[]⟩,.bool false,.int .i64 0,.int .i64 0]),10,96):=by kernel_rfl
def CxAt (B:Nat) (w:World) (v:Value) (c:Cx):Prop:=∃ nv,v=.agg #[nv,.int .i64 (c.d:Nat)] ∧ NsAt B w nv c.ns
theorem CxAt.below {B:Nat} {w W:World} {v:Value} {c:Cx} (h:CxAt B w v c) (hb:Below w.heap.size w W):CxAt B W v c:=by
 obtain ⟨nv,e,hn⟩:=h
 exact ⟨nv,e,hn.below hb⟩
theorem CxAt.base {B B':Nat} {w:World} {v:Value} {c:Cx} (h:CxAt B w v c) (hb:B' ≤ B):CxAt B' w v c:=by
 obtain ⟨nv,e,hn⟩:=h
 exact ⟨nv,e,hn.base hb⟩
theorem CxAt.kp {B g:Nat} {w W:World} {v:Value} {c:Cx} (h:CxAt B w v c) (hg:CBlk w g 167) (hk:Kp (K1 g) w W):CxAt B W v c:=by
 obtain ⟨nv,e,hn⟩:=h
 exact ⟨nv,e,hn.kp hg hk⟩
structure PsAt (B:Nat) (w:World) (b:Nat) (L:List Cx):Prop where
 blk:CBlk w b 136
 at':∀ n c,L[n]? = some c → ∃ nv,w.cell? ⟨b,n * 2,none⟩=some nv ∧ w.cell? ⟨b,n * 2 + 1,none⟩=some (.int .i64 (c.d:Nat)) ∧ NsAt B w nv c.ns
theorem PsAt.below {B b:Nat} {w W:World} {L:List Cx} (h:PsAt B w b L) (hb:Below w.heap.size w W):PsAt B W b L :=
 ⟨h.blk.below hb,fun n c hn=>by
  obtain ⟨nv,h1,h2,h3⟩:=h.at' n c hn
  exact ⟨nv,(hb.cell (p:=⟨b,n * 2,none⟩) h.blk.lt).trans h1,(hb.cell (p:=⟨b,n * 2 + 1,none⟩) h.blk.lt).trans h2,h3.below hb⟩⟩
theorem ps_one {B b:Nat} {w:World} {nv:Value} {c:Cx} (h:NsAt B w nv c.ns) (e:b=w.heap.size):PsAt B (w.alloc (.cells #[nv,.int .i64 (c.d:Nat)] 136)) b [c]:=by
 subst e
 exact ⟨⟨_,_,heap_alloc_new w _⟩,fun n d hn=>by
  have hl:=(List.getElem?_eq_some_iff.1 hn).1
  rw [List.length_singleton] at hl
  obtain rfl:n=0:=by omega
  cases hn
  have hB:=(Below.refl w.heap.size w).alloc (Nat.le_refl _) (.cells #[nv,.int .i64 (c.d:Nat)] 136)
  exact ⟨nv,by rw [cell_of_row _ _ 0 _ _ _ (heap_alloc_new w _)]; rfl,by rw [cell_of_row _ _ 1 _ _ _ (heap_alloc_new w _)]; rfl,h.below hB⟩⟩
theorem ps_two {B b:Nat} {w:World} {nv mv:Value} {c d:Cx} (h:NsAt B w nv c.ns) (k:NsAt B w mv d.ns) (e:b=w.heap.size):PsAt B (w.alloc (.cells #[nv,.int .i64 (c.d:Nat),mv,.int .i64 (d.d:Nat)] 136)) b [c,d]:=by
 subst e
 exact ⟨⟨_,_,heap_alloc_new w _⟩,fun n x hn=>by
  have hl:=(List.getElem?_eq_some_iff.1 hn).1
  have hB:=(Below.refl w.heap.size w).alloc (Nat.le_refl _) (.cells #[nv,.int .i64 (c.d:Nat),mv,.int .i64 (d.d:Nat)] 136)
  have hl2:n=0 ∨ n=1:=by simp at hl; omega
  rcases hl2 with rfl | rfl
  ·cases hn
   exact ⟨nv,by rw [cell_of_row _ _ 0 _ _ _ (heap_alloc_new w _)]; rfl,by rw [cell_of_row _ _ 1 _ _ _ (heap_alloc_new w _)]; rfl,h.below hB⟩
  ·cases hn
   exact ⟨mv,by rw [cell_of_row _ _ 2 _ _ _ (heap_alloc_new w _)]; rfl,by rw [cell_of_row _ _ 3 _ _ _ (heap_alloc_new w _)]; rfl,k.below hB⟩⟩
def catN (L:List Cx):List Ex:=(L.map Cx.ns).flatten
def depN (L:List Cx):Nat:=L.foldl (fun n c=>max n c.d) 0
theorem catN_snoc {L:List Cx} {n:Nat} {c:Cx} (h:L[n]? = some c):catN (L.take (n + 1))=catN (L.take n) ++ c.ns:=by
 obtain ⟨hn,e⟩:=List.getElem?_eq_some_iff.1 h
 unfold catN
 rw [List.take_succ_eq_append_getElem hn,e,List.map_append,List.flatten_append]
 simp
theorem depN_snoc {L:List Cx} {n:Nat} {c:Cx} (h:L[n]? = some c):depN (L.take (n + 1))=max (depN (L.take n)) c.d:=by
 obtain ⟨hn,e⟩:=List.getElem?_eq_some_iff.1 h
 unfold depN
 rw [List.take_succ_eq_append_getElem hn,e,List.foldl_append]
 rfl
theorem overL_eq (p:Pl) (t:Tk) (op:Int) (L:List Cx):overL p t op L=(⟨catN L ++ [opE t op],depN L + 1⟩,if 64 < depN L + 1 then failC p t 13 else p):=rfl
theorem depN_le:∀ (L:List Cx) (n:Nat),(∀ c ∈ L,c.d ≤ 1000000) → depN (L.take n) ≤ 1000000:=by
 intro L n h
 have key:∀ (M:List Cx) (k:Nat),k ≤ 1000000 → (∀ c ∈ M,c.d ≤ 1000000) → M.foldl (fun n c=>max n c.d) k ≤ 1000000:=by
  intro M
  induction M with
  | nil=>intro k hk _; exact hk
  | cons x r ih =>
   intro k hk hM
   exact ih _ (Nat.max_le.2 ⟨hk,hM x (by simp)⟩) (fun c hc=>hM c (by simp [hc]))
 exact key _ 0 (by omega) (fun c hc=>h c (List.mem_of_mem_take hc))
theorem catN_le {L:List Cx} {n:Nat}:(catN (L.take n)).length ≤ (catN L).length:=by
 unfold catN
 conv=>rhs; rw [← List.take_append_drop n L,List.map_append,List.flatten_append,List.length_append]
 exact Nat.le_add_right _ _
def OpOk (p:Pl):Prop:=0 ≤ p.op ∧ p.op ≤ 129 ∧ (p.er=0 → p.op ≤ 128)
theorem OpOk.of {M:List Tk} {b:Nat} {p:Pl} {r:Cx × Pl} (h:OpOk p) (c:Cok M b p r):OpOk r.2:=by
 have:=c.op
 exact ⟨by rw [this]; exact h.1,by rw [this]; exact h.2.1,fun e=>by rw [this]; exact h.2.2 (c.er e)⟩
theorem OpOk.skip {p:Pl} (h:OpOk p):OpOk (skipP p):=h
theorem OpOk.within {p:Pl} {t:Tk} (h:OpOk p) (he:p.er=0):OpOk (withinC p t):=by
 obtain ⟨h1,h2,h3⟩:=h
 have:=h3 he
 obtain ⟨_,w2,_,w4⟩:=within_at p t
 exact ⟨by omega,by omega,fun e=>by have:=w4 e; omega⟩
theorem net_ne {l:List Ex} (h:Net l):l ≠ []:=fun e=>by
 subst e
 have:=h 0
 cases this
structure JI (M:List Tk) (lv k:Nat) (F:Cx × Pl) (q:Pl) (l:Cx) (j:Nat):Prop where
 need:needP M (lv + 1) q ≤ j
 le:j ≤ k
 eq:exprC M j (lv + 1) q l=F
 net:Net l.ns
 dep:l.d ≤ l.ns.length
 len:l.ns.length ≤ q.a + 1
 len0:q.er=0 → l.ns.length ≤ q.a
 op:OpOk q
 at':q.a ≤ M.length
theorem up_join {lv:Nat} (h:lv=0 ∨ lv=2 ∨ lv=6 ∨ lv=8):joinL (lv + 1) ∧ ¬ joinL (lv + 2) ∧ lv + 2 ≤ 10 ∧ rankP (lv + 2) < rankP lv ∧ rankP (lv + 1) < rankP lv:=by
 rcases h with rfl | rfl | rfl | rfl
 ·exact ⟨by unfold joinL; omega,by unfold joinL; omega,by omega,by decide,by decide⟩
 ·exact ⟨by unfold joinL; omega,by unfold joinL; omega,by omega,by decide,by decide⟩
 ·exact ⟨by unfold joinL; omega,by unfold joinL; omega,by omega,by decide,by decide⟩
 ·exact ⟨by unfold joinL; omega,by unfold joinL; omega,by omega,by decide,by decide⟩
theorem JI.start {M:List Tk} {lv k:Nat} {p:Pl} (hlv:lv=0 ∨ lv=2 ∨ lv=6 ∨ lv=8) (hn:needP M lv p ≤ k + 1) (hp:p.a ≤ M.length) (ho:OpOk p) :
  JI M lv k (exprC M (k + 1) lv p z0) (exprC M k (lv + 2) p z0).2 (exprC M k (lv + 2) p z0).1 k ∧ needP M (lv + 2) p ≤ k:=by
 obtain ⟨h1,h2,h3,h4,h5⟩:=up_join hlv
 have hn2:needP M (lv + 2) p ≤ k:=by unfold needP at hn ⊢; omega
 have c:=(expr_cok M k (lv + 2) p hn2 h3 hp).1 h2
 have hm:=c.mu
 refine ⟨⟨by unfold needP at hn ⊢; omega,Nat.le_refl _,(exprC_up hlv).symm,c.net,c.dep,?_,fun e=>?_,ho.of c,c.a2⟩,hn2⟩
 ·have:=c.len; omega
 ·have:=c.len0 e; omega
theorem JI.done {M:List Tk} {lv k j:Nat} {F:Cx × Pl} {q:Pl} {l:Cx} (h:JI M lv k F q l j) (hj:joinL (lv + 1)) (h0:firstOp M q (opsL (lv + 1))=0):F=(l,q):=by
 have h1:=h.need
 have h2:=rank_pos (lv + 1)
 obtain ⟨i,rfl⟩:∃ i,j=i + 1:=⟨j - 1,by unfold needP at h1; omega⟩
 rw [← h.eq,exprC_end hj h0]
theorem JI.more {M:List Tk} {lv k j:Nat} {F:Cx × Pl} {q:Pl} {l:Cx} (h:JI M lv k F q l j) (hM:M.length ≤ 1000000) (hlv:lv=0 ∨ lv=2 ∨ lv=6 ∨ lv=8) (h0:¬ firstOp M q (opsL (lv + 1))=0) :
  ∃ i,i ≤ k ∧ needP M (lv + 2) (skipP q) ≤ i ∧ q.er=0 ∧ q.a < M.length ∧
   JI M lv k F (overL (exprC M i (lv + 2) (skipP q) z0).2 (tkAt M q.a) (firstOp M q (opsL (lv + 1))) [l,(exprC M i (lv + 2) (skipP q) z0).1]).2 (overL (exprC M i (lv + 2) (skipP q) z0).2 (tkAt M q.a) (firstOp M q (opsL (lv + 1))) [l,(exprC M i (lv + 2) (skipP q) z0).1]).1 i ∧
   (∀ c ∈ [l,(exprC M i (lv + 2) (skipP q) z0).1],c.ns ≠ []) ∧ (∀ c ∈ [l,(exprC M i (lv + 2) (skipP q) z0).1],c.d ≤ 1000000) ∧ (catN [l,(exprC M i (lv + 2) (skipP q) z0).1]).length ≤ 2000000 ∧
   q.a < (overL (exprC M i (lv + 2) (skipP q) z0).2 (tkAt M q.a) (firstOp M q (opsL (lv + 1))) [l,(exprC M i (lv + 2) (skipP q) z0).1]).2.a:=by
 obtain ⟨u1,u2,u3,u4,u5⟩:=up_join hlv
 have h1:=h.need
 have h2:=rank_pos (lv + 1)
 obtain ⟨i,rfl⟩:∃ i,j=i + 1:=⟨j - 1,by unfold needP at h1; omega⟩
 obtain ⟨ss,hs⟩:=firstOp_some _ h0
 obtain ⟨her,hin⟩:=isP_some hs
 have hms:=mu_skip hs
 have hr:=rank_le (lv + 2)
 have hn2:needP M (lv + 2) (skipP q) ≤ i:=by unfold needP at h1 ⊢; omega
 have esk:(skipP q).a=q.a + 1:=rfl
 have eso:(skipP q).op=q.op:=rfl
 have c:=(expr_cok M i (lv + 2) (skipP q) hn2 u3 (by omega)).1 u2
 have hop:=ops_ok u1 h0
 have hq:=h.len0 her
 have hd:=h.dep
 have heq:=h.eq
 have hle:=h.le
 rw [exprC_more u1 h0] at heq
 refine ⟨i,by omega,hn2,her,hin,?_⟩
 generalize exprC M i (lv + 2) (skipP q) z0=r at c heq ⊢
 have b1:=c.a1
 have b2:=c.a2
 have b3:=c.op
 have b4:=c.len
 have b5:=c.dep
 obtain ⟨n1,n2,n3⟩:=two_net (p:=r.2) (t:=tkAt M q.a) (op:=firstOp M q (opsL (lv + 1))) (by omega) h.net c.net h.dep c.dep
 obtain ⟨o1,o2,o3,o4⟩:=over_op r.2 (tkAt M q.a) (firstOp M q (opsL (lv + 1))) [l,r.1]
 have hcat:(catN [l,r.1]).length=l.ns.length + r.1.ns.length:=by unfold catN; simp
 generalize overL r.2 (tkAt M q.a) (firstOp M q (opsL (lv + 1))) [l,r.1]=v at n1 n2 n3 o1 o2 o3 o4 heq ⊢
 have hmv:muP M v.2 ≤ muP M r.2:=by
  unfold muP
  by_cases e:v.2.er=0
  ·rw [if_pos e,if_pos (o3 e),o2]; exact Nat.le_refl _
  ·rw [if_neg e]; exact Nat.zero_le _
 have hmr:=c.mu
 have hoq:=h.op
 refine ⟨⟨by unfold needP at h1 ⊢; omega,by omega,heq,n1,n2,by omega,fun e=>?_,⟨?_,?_,fun e=>?_⟩,by omega⟩,?_,?_,?_,?_⟩
 ·have:=c.len0 (o3 e); omega
 ·have:=hoq.1; omega
 ·have:=hoq.2.1; omega
 ·have:=hoq.2.2 her; omega
 ·intro x hx
  simp only [List.mem_cons,List.not_mem_nil,or_false] at hx
  rcases hx with rfl | rfl
  ·exact net_ne h.net
  ·exact net_ne c.net
 ·intro x hx
  simp only [List.mem_cons,List.not_mem_nil,or_false] at hx
  rcases hx with rfl | rfl
  ·omega
  ·omega
 ·rw [hcat]; omega
 ·omega
def atOf:Option Value → Nat
 | some (.int .i64 n)=>n.toNat
 | _=>0
theorem at_of {w:World} {g tl tc:Nat} {ta:Option Addr} {M:List Tk} {p:Pl} (h:PlAt w g ta tl tc M p):atOf (w.cell? ⟨g,1,none⟩)=p.a:=by
 obtain ⟨ev,_,_,_,c1,_⟩:=h.cells
 rw [c1]
 show ((p.a:Nat):Int).toNat=p.a
 omega
def ErOk (p:Pl):Prop:=p.er=0 ∨ p.er=5 ∨ p.er=13 ∨ p.er=16
theorem fail_ok {p:Pl} {t:Tk} {e:Nat} (h:ErOk p) (he:e=5 ∨ e=13):ErOk (failC p t e):=by
 unfold failC
 split
 ·rcases he with rfl | rfl
  ·exact .inr (.inl rfl)
  ·exact .inr (.inr (.inl rfl))
 ·exact h
theorem stop_ok {M:List Tk} {p:Pl} (h:ErOk p):ErOk (stopP M p 16):=by
 unfold stopP
 split
 ·split <;> exact .inr (.inr (.inr rfl))
 ·exact h
theorem over_ok {p:Pl} {t:Tk} {op:Int} {L:List Cx} (h:ErOk p):ErOk (overL p t op L).2:=by
 unfold overL
 dsimp only
 split
 ·exact fail_ok h (.inr rfl)
 ·exact h
theorem within_ok {p:Pl} {t:Tk} (h:ErOk p):ErOk (withinC p t):=by
 unfold withinC
 split
 ·exact fail_ok (p:=⟨p.a,p.er,p.line,p.col,p.op + 1⟩) h (.inr rfl)
 ·exact h
theorem want_ok {M:List Tk} {p:Pl} {s:List UInt8} (h:ErOk p):ErOk (wantP M p s):=by
 unfold wantP
 split
 ·exact h
 ·exact stop_ok h
theorem valueC1_ok {M:List Tk} {p:Pl} {b:Bool} (h:ErOk p):ErOk (valueC1 M p b).2:=by
 unfold valueC1
 split
 ·unfold numberC
  dsimp only
  split
  ·exact fail_ok (p:=skipP p) h (.inl rfl)
  ·exact h
 ·split
  ·exact stop_ok h
  ·split
   ·exact h
   ·split
    ·exact h
    ·split
     ·exact h
     ·exact stop_ok h
theorem valueC_ok {M:List Tk} {p:Pl} (h:ErOk p):ErOk (valueC M p).2:=by
 unfold valueC
 split
 ·exact valueC1_ok (p:=skipP p) h
 ·exact valueC1_ok h
theorem exprC_ok (M:List Tk):∀ (n lv:Nat) (p:Pl) (l:Cx),ErOk p → ErOk (exprC M n lv p l).2
 | 0,_,p,l,h=>h
 | n + 1,lv,p,l,h=>by
  have X:=exprC_ok M n
  by_cases hu:lv=0 ∨ lv=2 ∨ lv=6 ∨ lv=8
  ·rw [exprC_up hu]
   exact X _ _ _ (X _ _ _ h)
  ·by_cases hj:joinL lv
   ·by_cases h0:firstOp M p (opsL lv)=0
    ·rw [exprC_end hj h0]
     exact h
    ·rw [exprC_more hj h0]
     exact X _ _ _ (over_ok (X _ _ _ (show ErOk (skipP p) from h)))
   ·rw [exprC,if_neg hu,if_neg hj]
    split
    ·unfold notC
     split
     ·exact over_ok (show ErOk (shutP _) from X _ _ _ (within_ok (show ErOk (skipP p) from h)))
     ·exact X _ _ _ h
    ·split
     ·unfold cmpC
      split
      ·exact X _ _ _ h
      ·split
       ·exact over_ok (X _ _ _ (show ErOk (skipP _) from X _ _ _ h))
       ·exact over_ok (X _ _ _ (show ErOk (skipP _) from X _ _ _ h))
     ·unfold unaryC
      split
      ·exact over_ok (show ErOk (shutP _) from X _ _ _ (within_ok (show ErOk (skipP p) from h)))
      ·split
       ·exact want_ok (show ErOk (shutP _) from X _ _ _ (within_ok (show ErOk (skipP p) from h)))
       ·split
        ·exact h
        ·exact valueC_ok h
theorem digit_isD:∀ c:UInt8,digitB c=isD c:=all8 (by decide +kernel)
theorem word_more {x t:List UInt8} {k n:Nat} (h:wordT x=.ok (k,t,n)) (hx:x ≠ []):t.length ≤ 4096 ∧ (k=3 → t ≠ [] ∧ t.all isD=true ∧ (t.head? = some 48 → t=[48])):=by
 unfold wordT at h
 split at h
 ·split at h
  ·cases h
  ·rename_i ha
   split at h
   ·cases h
   ·rename_i h0
    split at h
    ·cases h
    ·rename_i hl
     cases h
     refine ⟨by omega,fun _=>⟨hx,?_,fun h48=>?_⟩⟩
     ·have ha2:x.all digitB=true:=by simpa using ha
      rw [List.all_eq_true] at ha2 ⊢
      exact fun c hc=>by rw [← digit_isD]; exact ha2 c hc
     ·have h1:x.length ≤ 1:=by
       by_cases k:1 < x.length
       ·exact absurd ⟨k,h48⟩ h0
       ·omega
      cases x with
      | nil=>exact absurd rfl hx
      | cons c r =>
       cases r with
       | nil=>cases h48; rfl
       | cons d r=>simp at h1
 ·split at h
  ·cases h
  ·rename_i hl
   split at h
   ·cases h
    exact ⟨by omega,fun e=>absurd e (by decide)⟩
   ·cases h
    exact ⟨by omega,fun e=>absurd e (by decide)⟩
theorem first_more {x t:List UInt8} {k n:Nat} (h:firstT x=.ok (k,t,n)):t.length ≤ 4096 ∧ (k=3 → t ≠ [] ∧ t.all isD=true ∧ (t.head? = some 48 → t=[48])):=by
 unfold firstT at h
 split at h
 ·split at h
  ·cases h
  ·split at h
   ·cases h
   ·rename_i t' _ hle
    cases h
    exact ⟨by omega,fun e=>absurd e (by decide)⟩
 ·split at h
  ·split at h
   ·cases h
   ·cases h
    refine ⟨?_,fun e=>absurd e (by decide)⟩
    rw [List.length_take]
    rcases sign_cases x with e | e | e <;> omega
  ·rename_i hne
   exact word_more h hne
theorem tk_mok {l:List UInt8} {M:List Tk} (h:tokL l=.ok M):MOk M ∧ M.length ≤ 65536:=by
 unfold tokL at h
 split at h
 ·cases h
 ·rename_i hl
  unfold tokT at h
  obtain ⟨h1,_,h3⟩:=tok_tks _ _ _ _ h
  have key:∀ t ∈ M,(1 ≤ t.k ∧ t.k ≤ 5) ∧ t.t.length ≤ 4096 ∧ (t.k=3 → t.t ≠ [] ∧ t.t.all isD=true ∧ (t.t.head? = some 48 → t.t=[48])):=fun t ht=>by
   obtain ⟨l',n,hT⟩:=h1 t ht
   have h4:=hT.same [] (.inl rfl)
   exact ⟨hT.kind,first_more h4⟩
  exact ⟨⟨by omega,fun t ht=>(key t ht).1,fun t ht=>(key t ht).2.2,fun t ht=>(key t ht).2.1⟩,by omega⟩
def endC (M:List Tk) (C:Cx × Pl):Pl:=if C.2.a < M.length then stopP M C.2 16 else C.2
def xC (M:List Tk):Cx × Pl:=exprC M (needP M 0 pl0) 0 pl0 z0
def exprX (M:List Tk):Except (Nat × Nat × Nat) (List Ex) :=
 if (endC M (xC M)).er=0 then .ok (linkS 0 (xC M).1.ns 0 []).1 else .error ((endC M (xC M)).er,(endC M (xC M)).line,(endC M (xC M)).col)
noncomputable def exprL (l:List UInt8):Except (Nat × Nat × Nat) (List Ex) :=
 match tokL l with
 | .error e=>.error e
 | .ok M=>exprX M
theorem end_ok (M:List Tk):ErOk (endC M (xC M)):=by
 unfold endC
 split
 ·exact stop_ok (exprC_ok M _ _ _ _ (.inl rfl))
 ·exact exprC_ok M _ _ _ _ (.inl rfl)
theorem x_cok (M:List Tk):Cok M 0 pl0 (xC M):=(expr_cok M _ 0 pl0 (Nat.le_refl _) (by omega) (Nat.zero_le _)).1 (by unfold joinL; omega)
end Go.Proofs.YtiafhfchjhffhaaGreatDoor
