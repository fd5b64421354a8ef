/- paclaim: PrRefX -/
import Derived.Test.YtiafhfchjhffhaaGreatDoorPrRefSm
import Derived.Test.YtiafhfchjhffhaaGreatDoorLowPr2
import Derived.Test.YtiafhfchjhffhaaGreatDoorLowRv
import Derived.Test.YtiafhfchjhffhaaGreatDoorLowPr3
import Derived.Deep.RegionHeld3
namespace Go.Proofs.YtiafhfchjhffhaaGreatDoor
open Go.RowKit
set_option linter.unusedVariables false
theorem brkL_ge (b:Bool) (x:List UInt8):x.length ≤ (brkL b x).length:=by
 unfold brkL
 split
 ·simp; omega
 ·omega
set_option maxHeartbeats 2000000 in
theorem rx_val {T:TypeId} {O:Prop} (w0:World) (a:Option Addr) (len cap n:Nat) (L:List Ex) (h0:GIn rEx T O 10 w0 a len L) (v:Vd) (h:IsE L n (.val v)) (ho:vOk v):RxC w0 a len cap n (valTx v):=by
 intro w hb
 obtain ⟨x,hx,he⟩:=h
 have hop:x.op=1:=congrArg Ex.op he
 have hxv:x.v=v:=congrArg Ex.v he
 have HG:=Lib.hid (fun w2 (h2:Below w0.heap.size w0 w2)=>ex_gin h0 hx h2)
 obtain ⟨g,off,rfl,hg,hnl,hsm,hok,c0,c1,c2,c3,c4,c5,c6,c7,c8,c9⟩:=HG.out w hb
 have hb1:Below w.heap.size w (w.alloc (.cells (exA x) 58)):=(Below.refl _ _).alloc (Nat.le_refl _) _
 have hn1:(w.alloc (.cells (exA x) 58)).heap[w.heap.size]? = some (.cells (exA x) 58 (0,0)):=heap_alloc_new w _
 have HB1:=Lib.hid (hb.trans (hb1.mono hb.size))
 have HW1:=Lib.hid hb1
 have HN1:=Lib.hid hn1
 generalize hw1:w.alloc (.cells (exA x) 58)=w1 at HN1 HB1 HW1
 have y0:w1.cell? ⟨w.heap.size,0,none⟩=some (.int .i64 1):=by rw [cell_of_row _ _ 0 _ _ _ HN1.out,← hop]; rfl
 obtain ⟨_,_,_,_,y4,y5,y6,y7,_,_⟩:=ex_box HN1.out
 rw [hxv] at y4 y5 y6 y7
 have HV:=Lib.hid (refVText_calls v.k v.i v.s v.b w1 ho.2 ho.1)
 obtain ⟨s,hs⟩:∃ s:ByteArray,s=⟨(valText v.k v.i v.s v.b).toArray⟩:=⟨_,rfl⟩
 rw [← hs] at HV
 have hs2:(⟨(valTx v).toArray⟩:ByteArray)=s:=hs.symm
 rw [hs2]
 clear h0 hx he hop hxv hok hb hb1 hn1 hs hs2 ho HG
 go_enter Tryz.func21,Tryz.ntmps21
 go_upto_region 2 with fail
 try rw [hw1]
 clear c0 c1 c2 c3 c4 c5 c6 c7 c8 c9 hw1
 go_wp2_with fail
 refine HV.out.mono ?_
 rintro e w2 ⟨rfl,k1⟩
 have HW2:=Lib.hid (HW1.out.trans (k1.mono HW1.out.size))
 clear k1
 go_wp2_with fail
 go_ret
 exact ⟨rfl,HW2.out⟩
set_option maxHeartbeats 2000000 in
theorem rx_nam {T:TypeId} {O:Prop} (w0:World) (a:Option Addr) (len cap n:Nat) (L:List Ex) (h0:GIn rEx T O 10 w0 a len L) (s:ByteArray) (h:IsE L n (.nam s)):RxC w0 a len cap n s.data.toList:=by
 intro w hb
 obtain ⟨x,hx,he⟩:=h
 have hop:x.op=17:=congrArg Ex.op he
 have hxs:x.n=s:=congrArg Ex.n he
 have HG:=Lib.hid (fun w2 (h2:Below w0.heap.size w0 w2)=>ex_gin h0 hx h2)
 obtain ⟨g,off,rfl,hg,hnl,hsm,hok,c0,c1,c2,c3,c4,c5,c6,c7,c8,c9⟩:=HG.out w hb
 have hb1:Below w.heap.size w (w.alloc (.cells (exA x) 58)):=(Below.refl _ _).alloc (Nat.le_refl _) _
 have hn1:(w.alloc (.cells (exA x) 58)).heap[w.heap.size]? = some (.cells (exA x) 58 (0,0)):=heap_alloc_new w _
 have HB1:=Lib.hid (hb.trans (hb1.mono hb.size))
 have HW1:=Lib.hid hb1
 have HN1:=Lib.hid hn1
 generalize hw1:w.alloc (.cells (exA x) 58)=w1 at HN1 HB1 HW1
 have y0:w1.cell? ⟨w.heap.size,0,none⟩=some (.int .i64 17):=by rw [cell_of_row _ _ 0 _ _ _ HN1.out,← hop]; rfl
 have y3:w1.cell? ⟨w.heap.size,3,none⟩=some (.string s):=by rw [cell_of_row _ _ 3 _ _ _ HN1.out,← hxs]; rfl
 have hs2:(⟨s.data.toList.toArray⟩:ByteArray)=s:=by rw [Array.toArray_toList]
 rw [hs2]
 clear h0 hx he hop hxs hok hb hb1 hn1 hs2 HG
 go_enter Tryz.func21,Tryz.ntmps21
 go_upto_region 2 with fail
 try rw [hw1]
 clear c0 c1 c2 c3 c4 c5 c6 c7 c8 c9 hw1
 go_wp2_with fail
 go_ret
 exact ⟨rfl,HW1.out⟩
set_option maxHeartbeats 2000000 in
theorem rx_not {T:TypeId} {O:Prop} (w0:World) (a:Option Addr) (len cap n:Nat) (L:List Ex) (h0:GIn rEx T O 10 w0 a len L) (e1:Et) (h:IsE L n (.un 4 e1)) (hl:e1.tx.length ≤ 100000000000) (hP:∀ m,IsE L m e1 → RwC w0 a len cap m 3 (brkL (decide (e1.lv < 3)) e1.tx)):RxC w0 a len cap n (Et.un 4 e1).tx:=by
 intro w hb
 obtain ⟨x,m,rfl,hx,he,hi⟩:=h
 have hop:x.op=4:=congrArg Ex.op he
 have hxa:x.a=(m:Int):=congrArg Ex.a he
 have hE:(Et.un 4 e1).tx=kwNot ++ 32 :: brkL (decide (e1.lv < 3)) e1.tx:=rfl
 have HG:=Lib.hid (fun w2 (h2:Below w0.heap.size w0 w2)=>ex_gin h0 hx h2)
 obtain ⟨g,off,rfl,hg,hnl,hsm,hok,c0,c1,c2,c3,c4,c5,c6,c7,c8,c9⟩:=HG.out w hb
 have hb1:Below w.heap.size w (w.alloc (.cells (exA x) 58)):=(Below.refl _ _).alloc (Nat.le_refl _) _
 have hn1:(w.alloc (.cells (exA x) 58)).heap[w.heap.size]? = some (.cells (exA x) 58 (0,0)):=heap_alloc_new w _
 have HB1:=Lib.hid (hb.trans (hb1.mono hb.size))
 have HW1:=Lib.hid hb1
 have HN1:=Lib.hid hn1
 generalize hw1:w.alloc (.cells (exA x) 58)=w1 at HN1 HB1 HW1
 have y0:w1.cell? ⟨w.heap.size,0,none⟩=some (.int .i64 4):=by rw [cell_of_row _ _ 0 _ _ _ HN1.out,← hop]; rfl
 have y1:w1.cell? ⟨w.heap.size,1,none⟩=some (.int .i64 (m:Int)):=by rw [cell_of_row _ _ 1 _ _ _ HN1.out,← hxa]; rfl
 have hbl:=brkL_few (decide (e1.lv < 3)) e1.tx
 have q1:=cat_at [110,111,116,32] (brkL (decide (e1.lv < 3)) e1.tx) (Et.un 4 e1).tx (by rw [hE]; simp [kwNot]) (by rw [hE]; simp [kwNot]; omega)
 have HP:=Lib.hid (hP m hi w1 HB1.out)
 obtain ⟨s,hs⟩:∃ s:ByteArray,s=⟨(brkL (decide (e1.lv < 3)) e1.tx).toArray⟩:=⟨_,rfl⟩
 obtain ⟨s1,hs1⟩:∃ s:ByteArray,s=⟨(Et.un 4 e1).tx.toArray⟩:=⟨_,rfl⟩
 rw [← hs] at HP
 rw [← hs,← hs1] at q1
 rw [← hs1]
 have q1:∀ w,(Op.stringOp .add ⟨#[110,111,116,32]⟩ s).run Tryz.prog w=.ok (.string s1) w:=q1
 clear h0 hx he hop hxa hok hb hb1 hn1 hP hi hE hs hs1 hl hbl HG
 go_enter Tryz.func21,Tryz.ntmps21
 go_upto_region 2 with fail
 try rw [hw1]
 clear c0 c1 c2 c3 c4 c5 c6 c7 c8 c9 hw1
 go_wp2_with fail
 refine HP.out.mono ?_
 rintro e w2 ⟨rfl,k1⟩
 have HW2:=Lib.hid (HW1.out.trans (k1.mono HW1.out.size))
 clear k1
 go_wp2_with fail
 go_ret
 exact ⟨rfl,HW2.out⟩
set_option maxHeartbeats 4000000 in
theorem rx_neg {T:TypeId} {O:Prop} (w0:World) (a:Option Addr) (len cap n:Nat) (L:List Ex) (h0:GIn rEx T O 10 w0 a len L) (e1:Et) (h:IsE L n (.un 5 e1)) (ho:e1.ok) (hl:e1.tx.length ≤ 100000000000) (hX:∀ m,IsE L m e1 → RxC w0 a len cap m e1.tx) (hP:∀ m,IsE L m e1 → RwC w0 a len cap m 7 (brkL (decide (e1.lv < 7)) e1.tx)):RxC w0 a len cap n (Et.un 5 e1).tx:=by
 intro w hb
 obtain ⟨x,m,rfl,hx,he,hi⟩:=h
 have hop:x.op=5:=congrArg Ex.op he
 have hxa:x.a=(m:Int):=congrArg Ex.a he
 have hE:(Et.un 5 e1).tx=45 :: brkL (negB e1) e1.tx:=rfl
 obtain ⟨z,hz,hzl,hzp⟩:=isE_lv hi ho
 have HG2:=Lib.hid (fun w2 (h2:Below w0.heap.size w0 w2)=>ex_gin h0 hz h2)
 have hml:m < len:=by rw [← h0.leng]; exact (List.getElem?_eq_some_iff.1 hz).1
 have HG:=Lib.hid (fun w2 (h2:Below w0.heap.size w0 w2)=>ex_gin h0 hx h2)
 obtain ⟨g,off,rfl,hg,hnl,hsm,hok,c0,c1,c2,c3,c4,c5,c6,c7,c8,c9⟩:=HG.out w hb
 have hb1:Below w.heap.size w (w.alloc (.cells (exA x) 58)):=(Below.refl _ _).alloc (Nat.le_refl _) _
 have hn1:(w.alloc (.cells (exA x) 58)).heap[w.heap.size]? = some (.cells (exA x) 58 (0,0)):=heap_alloc_new w _
 have HB1:=Lib.hid (hb.trans (hb1.mono hb.size))
 have HW1:=Lib.hid hb1
 have HN1:=Lib.hid hn1
 generalize hw1:w.alloc (.cells (exA x) 58)=w1 at HN1 HB1 HW1
 have y0:w1.cell? ⟨w.heap.size,0,none⟩=some (.int .i64 5):=by rw [cell_of_row _ _ 0 _ _ _ HN1.out,← hop]; rfl
 have y1:w1.cell? ⟨w.heap.size,1,none⟩=some (.int .i64 (m:Int)):=by rw [cell_of_row _ _ 1 _ _ _ HN1.out,← hxa]; rfl
 have hneg:negB e1=(decide (e1.lv < 7) || posE e1):=rfl
 rw [← hzp] at hneg
 have hbl:=brkL_few (negB e1) e1.tx
 obtain ⟨g',off',eg,_,_,_,_,d0,d1,d2,d3,d4,d5,d6,d7,d8,d9⟩:=HG2.out w1 HB1.out
 obtain ⟨rfl,rfl⟩:g=g' ∧ off=off':=by cases eg; exact ⟨rfl,rfl⟩
 have hb2:Below w1.heap.size w1 (w1.alloc (.cells (exA z) 58)):=(Below.refl _ _).alloc (Nat.le_refl _) _
 have HB2:=Lib.hid (HB1.out.trans (hb2.mono HB1.out.size))
 have HW2:=Lib.hid (HW1.out.trans (hb2.mono HW1.out.size))
 have HN2:=Lib.hid ((hb2.block _ (Array.getElem?_eq_some_iff.1 HN1.out).1).trans HN1.out)
 have HZ2:Hid ((w1.alloc (.cells (exA z) 58)).heap[w1.heap.size]? = some (.cells (exA z) 58 (0,0))):=Lib.hid (heap_alloc_new w1 _)
 obtain ⟨s1,hs1⟩:∃ s:ByteArray,s=⟨(Et.un 5 e1).tx.toArray⟩:=⟨_,rfl⟩
 have HX:=Lib.hid (hX m hi _ HB2.out)
 have HP:=Lib.hid (hP m hi _ HB2.out)
 rw [← hs1]
 have hlv:=(lv_bounds e1).2
 clear h0 hx he hop hok hb hb1 hn1 hX hP hi HG HG2 hz hzl hzp eg hb2
 generalize hw2:w1.alloc (.cells (exA z) 58)=w2 at HB2 HW2 HN2 HZ2 HX HP
 obtain ⟨z0,_,_,_,z4,z5,_,_,_,_⟩:=ex_box HZ2.out
 have x1:w2.cell? ⟨w.heap.size,1,none⟩=some (.int .i64 (m:Int)):=by rw [cell_of_row _ _ 1 _ _ _ HN2.out,← hxa]; rfl
 clear hxa
 cases hpl:plainB z
 case true =>
  have hq:(Et.un 5 e1).tx=45 :: 40 :: (e1.tx ++ [41]):=by rw [hE,hneg,hpl,Bool.or_true]; rfl
  have q1:=cat_at [45,40] e1.tx (45 :: 40 :: e1.tx) rfl (by simp; omega)
  have q2:=cat_at (45 :: 40 :: e1.tx) [41] (Et.un 5 e1).tx (by rw [hq]; simp) (by rw [hq]; simp; omega)
  obtain ⟨s,hs⟩:∃ s:ByteArray,s=⟨e1.tx.toArray⟩:=⟨_,rfl⟩
  obtain ⟨s2,hs2⟩:∃ s:ByteArray,s=⟨(45 :: 40 :: e1.tx).toArray⟩:=⟨_,rfl⟩
  rw [← hs] at HX
  rw [← hs,← hs2] at q1
  rw [← hs2,← hs1] at q2
  have q1:∀ w,(Op.stringOp .add ⟨#[45,40]⟩ s).run Tryz.prog w=.ok (.string s2) w:=q1
  have q2:∀ w,(Op.stringOp .add s2 ⟨#[41]⟩).run Tryz.prog w=.ok (.string s1) w:=q2
  have t1:(z.op == 1)=true:=by unfold plainB at hpl; simp only [Bool.and_eq_true] at hpl; exact hpl.1.1
  have t2:(z.v.k == 1)=true:=by unfold plainB at hpl; simp only [Bool.and_eq_true] at hpl; exact hpl.1.2
  have t3:decide (0 ≤ z.v.i)=true:=by unfold plainB at hpl; simp only [Bool.and_eq_true] at hpl; exact hpl.2
  clear hE hs hs1 hs2 hl hbl hq hneg hpl HP hlv
  go_enter Tryz.func21,Tryz.ntmps21
  go_upto_region 2 with fail
  try rw [hw1]
  clear c0 c1 c2 c3 c4 c5 c6 c7 c8 c9 hw1
  go_upto_region 10 with fail
  try rw [hw2]
  clear d0 d1 d2 d3 d4 d5 d6 d7 d8 d9 hw2
  go_wp2_with fail
  refine HX.out.mono ?_
  rintro e w3 ⟨rfl,k1⟩
  have HW3:=Lib.hid (HW2.out.trans (k1.mono HW2.out.size))
  clear k1
  go_wp2_with fail
  go_ret
  exact ⟨rfl,HW3.out⟩
 case false =>
  have hq:(Et.un 5 e1).tx=45 :: brkL (decide (e1.lv < 7)) e1.tx:=by rw [hE,hneg,hpl,Bool.or_false]
  have hbl2:=brkL_few (decide (e1.lv < 7)) e1.tx
  have q1:=cat_at [45] (brkL (decide (e1.lv < 7)) e1.tx) (Et.un 5 e1).tx (by rw [hq]; rfl) (by rw [hq]; simp; omega)
  obtain ⟨s,hs⟩:∃ s:ByteArray,s=⟨(brkL (decide (e1.lv < 7)) e1.tx).toArray⟩:=⟨_,rfl⟩
  rw [← hs] at HP
  rw [← hs,← hs1] at q1
  have q1:∀ w,(Op.stringOp .add ⟨#[45]⟩ s).run Tryz.prog w=.ok (.string s1) w:=q1
  have ht:(z.op == 1)=false ∨ ((z.op == 1)=true ∧ (z.v.k == 1)=false) ∨ ((z.op == 1)=true ∧ (z.v.k == 1)=true ∧ decide (0 ≤ z.v.i)=false):=by
   unfold plainB at hpl
   cases h1:(z.op == 1)
   ·exact .inl rfl
   cases h2:(z.v.k == 1)
   ·exact .inr (.inl ⟨rfl,rfl⟩)
   rw [h1,h2] at hpl
   exact .inr (.inr ⟨rfl,rfl,by simpa using hpl⟩)
  clear hE hs hs1 hl hbl hbl2 hq hneg hpl HX hlv
  rcases ht with t1 | ⟨t1,t2⟩ | ⟨t1,t2,t3⟩
  all_goals
   go_enter Tryz.func21,Tryz.ntmps21
   go_upto_region 2 with fail
   try rw [hw1]
   clear c0 c1 c2 c3 c4 c5 c6 c7 c8 c9 hw1
   go_upto_region 10 with fail
   try rw [hw2]
   clear d0 d1 d2 d3 d4 d5 d6 d7 d8 d9 hw2
   go_wp2_with fail
   refine HP.out.mono ?_
   rintro e w3 ⟨rfl,k1⟩
   have HW3:=Lib.hid (HW2.out.trans (k1.mono HW2.out.size))
   clear k1
   go_wp2_with fail
   go_ret
   exact ⟨rfl,HW3.out⟩
def RxS (w0 w:World) (q:Nat) (o i j:Int) (W:World):Prop:=Below w0.heap.size w0 W ∧ Below w.heap.size w W ∧ ∃ A:Array Value,W.heap[q]? = some (.cells A 58 (0,0)) ∧ A[0]? = some (.int .i64 o) ∧ A[1]? = some (.int .i64 i) ∧ A[2]? = some (.int .i64 j)
theorem RxS.drew {w0 w W:World} {q:Nat} {o i j:Int} (h:RxS w0 w q o i j W):RxS w0 w q o i j W.drew:=⟨h.1.drew,h.2.1.drew,h.2.2⟩
theorem RxS.call {w0 w W W':World} {q:Nat} {o i j:Int} (h:RxS w0 w q o i j W) (k:Below W.heap.size W W'):RxS w0 w q o i j W':=by
 obtain ⟨A,e,r⟩:=h.2.2
 exact ⟨h.1.trans (k.mono h.1.size),h.2.1.trans (k.mono h.2.1.size),A,(k.block _ (Array.getElem?_eq_some_iff.1 e).1).trans e,r⟩
theorem RxS.cells {w0 w W:World} {q:Nat} {o i j:Int} (h:RxS w0 w q o i j W):W.cell? ⟨q,0,none⟩=some (.int .i64 o) ∧ W.cell? ⟨q,1,none⟩=some (.int .i64 i) ∧ W.cell? ⟨q,2,none⟩=some (.int .i64 j):=by
 obtain ⟨A,e,h0,h1,h2⟩:=h.2.2
 exact ⟨by rw [cell_of_row _ _ 0 _ _ _ e]; exact h0,by rw [cell_of_row _ _ 1 _ _ _ e]; exact h1,by rw [cell_of_row _ _ 2 _ _ _ e]; exact h2⟩
set_option maxHeartbeats 8000000 in
set_option maxRecDepth 100000 in
theorem rx_bin {T:TypeId} {O:Prop} (w0:World) (a:Option Addr) (len cap n:Nat) (L:List Ex) (h0:GIn rEx T O 10 w0 a len L) (op:Int) (e1 e2:Et) (h:IsE L n (.bin op e1 e2)) (ho1:6 ≤ op) (ho2:op ≤ 16) (hl1:e1.tx.length ≤ 100000000000) (hl2:e2.tx.length ≤ 100000000000) (hP:∀ m,IsE L m e1 → ∀ k,k ≤ 9 → RwC w0 a len cap m k (brkL (decide (e1.lv < k)) e1.tx)) (hQ:∀ m,IsE L m e2 → ∀ k,k ≤ 9 → RwC w0 a len cap m k (brkL (decide (e2.lv < k)) e2.tx)):RxC w0 a len cap n (Et.bin op e1 e2).tx:=by
 intro w hb
 obtain ⟨x,m,j,hn,hmj,hx,he,hi,hk⟩:=h
 have hop:x.op=op:=congrArg Ex.op he
 have hxa:x.a=(j:Int):=congrArg Ex.a he
 have hxb:x.b=(m:Int):=congrArg Ex.b he
 have hE:(Et.bin op e1 e2).tx=brkL (decide (e1.lv < lefL op)) e1.tx ++ 32 :: ((signT op).2 ++ 32 :: brkL (decide (e2.lv < lvO op + 1)) e2.tx):=rfl
 obtain ⟨q,hq⟩:∃ q:Nat,op=(q:Int):=⟨op.toNat,by omega⟩
 obtain ⟨g,off,rfl,hg,hnl,hsm,hok,c0,c1,c2,c3,c4,c5,c6,c7,c8,c9⟩:=ex_gin h0 hx hb
 have hb1:Below w.heap.size w (w.alloc (.cells (exA x) 58)):=(Below.refl _ _).alloc (Nat.le_refl _) _
 have hn1:(w.alloc (.cells (exA x) 58)).heap[w.heap.size]? = some (.cells (exA x) 58 (0,0)):=heap_alloc_new w _
 have HB1:=Lib.hid (hb.trans (hb1.mono hb.size))
 have HW1:=Lib.hid hb1
 have HN1:=Lib.hid hn1
 generalize hw1:w.alloc (.cells (exA x) 58)=w1 at HN1 HB1 HW1
 obtain ⟨z0,z1,z2,z3,z4,z5,z6,z7,z8,z9⟩:=ex_box HN1.out
 have HLv:=Lib.hid (fun w=>refLevel_calls x w (by omega))
 have hlv:lvO op ≤ 8:=by
  unfold lvO
  repeat' split
  all_goals omega
 have hle:lefL op ≤ 8:=by unfold lefL; split <;> omega
 have hlef:lefL op=if lvO op=4 then 5 else lvO op:=rfl
 have hA:=hP j hi (lefL op) (by omega)
 have hC:=hQ m hk (lvO op + 1) (by omega)
 have b1:=brkL_few (decide (e1.lv < lefL op)) e1.tx
 have b2:=brkL_few (decide (e2.lv < lvO op + 1)) e2.tx
 generalize brkL (decide (e1.lv < lefL op)) e1.tx=tA at hA hE b1
 generalize brkL (decide (e2.lv < lvO op + 1)) e2.tx=tB at hC hE b2
 have hsg:=tokA_sign q (by omega) (by omega)
 have hs3:=tokA_size q
 have HG:=Lib.hid (fun w=>refSignT_calls q w (by omega) (by omega))
 have hsl:(signT op).2.length ≤ 3:=by rw [hq,← hsg,← pr_size]; exact hs3
 have q1:=cat_at tA [32] (tA ++ [32]) rfl (by simp; omega)
 have q2:=cat_at (tA ++ [32]) (signT op).2 (tA ++ 32 :: (signT op).2) (by simp) (by simp; omega)
 have q3:=cat_at (tA ++ 32 :: (signT op).2) [32] (tA ++ 32 :: ((signT op).2 ++ [32])) (by simp) (by simp; omega)
 have q4:=cat_at (tA ++ 32 :: ((signT op).2 ++ [32])) tB (Et.bin op e1 e2).tx (by rw [hE]; simp) (by rw [hE]; simp; omega)
 obtain ⟨sA,hsA⟩:∃ s:ByteArray,s=⟨tA.toArray⟩:=⟨_,rfl⟩
 obtain ⟨sB,hsB⟩:∃ s:ByteArray,s=⟨tB.toArray⟩:=⟨_,rfl⟩
 obtain ⟨sT,hsT⟩:∃ s:ByteArray,s=⟨(signT op).2.toArray⟩:=⟨_,rfl⟩
 obtain ⟨u1,hu1⟩:∃ s:ByteArray,s=⟨(tA ++ [32]).toArray⟩:=⟨_,rfl⟩
 obtain ⟨u2,hu2⟩:∃ s:ByteArray,s=⟨(tA ++ 32 :: (signT op).2).toArray⟩:=⟨_,rfl⟩
 obtain ⟨u3,hu3⟩:∃ s:ByteArray,s=⟨(tA ++ 32 :: ((signT op).2 ++ [32])).toArray⟩:=⟨_,rfl⟩
 obtain ⟨s1,hs1⟩:∃ s:ByteArray,s=⟨(Et.bin op e1 e2).tx.toArray⟩:=⟨_,rfl⟩
 have htok:tokA q=sT:=by
  rw [hsT,hq,← hsg]
 rw [htok] at HG
 unfold RwC at hA hC
 rw [← hsA] at hA
 rw [← hsB] at hC
 rw [← hsA,← hu1] at q1
 rw [← hu1,← hsT,← hu2] at q2
 rw [← hu2,← hu3] at q3
 rw [← hu3,← hsB,← hs1] at q4
 rw [← hs1]
 have q1:∀ w,(Op.stringOp .add sA ⟨#[32]⟩).run Tryz.prog w=.ok (.string u1) w:=q1
 have q3:∀ w,(Op.stringOp .add u2 ⟨#[32]⟩).run Tryz.prog w=.ok (.string u3) w:=q3
 have HS1:Hid (RxS w0 w w.heap.size (q:Int) (j:Int) (m:Int) w1):=Lib.hid ⟨HB1.out,HW1.out,_,HN1.out,by rw [← hq,← hop]; rfl,by rw [← hxa]; rfl,by rw [← hxb]; rfl⟩
 rw [hop] at HLv
 have eq1:((lvO op + 1:Nat):Int)=(lvO op:Int) + 1:=by omega
 rw [eq1] at hC
 rw [hlef] at hA
 rw [hop,hq] at z0
 have t1:((q:Int) == 1)=false:=by rw [beq_eq_false_iff_ne]; omega
 have t2:((q:Int) == 17)=false:=by rw [beq_eq_false_iff_ne]; omega
 have t3:((q:Int) == 4)=false:=by rw [beq_eq_false_iff_ne]; omega
 have t4:((q:Int) == 5)=false:=by rw [beq_eq_false_iff_ne]; omega
 have hxop:x.op=(q:Int):=hop.trans hq
 clear h0 hx he hxa hxb hok hb hb1 hn1 hP hQ hi hk hE hn hmj hs1 hu1 hu2 hu3 hsA hsB hsT htok hsg hs3 hsl b1 b2 hl1 hl2 hle hlef eq1 HB1 HW1 HN1 ho1 ho2 hop
 generalize lvO op=lv at HLv hA hC hlv
 clear hq
 have HLv:Hid (∀ w,Calls Tryz.prog 82 #[.agg #[.int .i64 (q:Int),.int .i64 x.a,.int .i64 x.b,.string x.n,.int .i64 x.v.k,.int .i64 x.v.i,.string x.v.s,.bool x.v.b,.int .i64 x.l,.int .i64 x.c]] w fun e w'=>e=.returned (.int .i64 lv) ∧ Below w.heap.size w w'):=Lib.hid (by rw [← hxop]; exact HLv.out)
 have HC:=Lib.hid hC
 have hwr:IntKind.i64.wrap ((lv:Int) + 1)=(lv:Int) + 1:=by rw [IntKind.wrap_i64]; omega
 by_cases h4:lv=4
 ·rw [if_pos h4] at hA
  have HA:Hid (∀ (w:World),Below w0.heap.size w0 w → Calls Tryz.prog 81 #[.slice (some ⟨g,off,none⟩) len cap,.int .i64 j,.int .i64 5] w fun e w'=>e=.returned (.string sA) ∧ Below w.heap.size w w'):=Lib.hid hA
  have t5:((lv:Int) == 4)=true:=by rw [beq_iff_eq]; omega
  clear hA hC hxop h4
  go_enter Tryz.func21,Tryz.ntmps21
  go_upto_region 2 with fail
  try rw [hw1]
  clear c0 c1 c2 c3 c4 c5 c6 c7 c8 c9 hw1
  go_wp2_with fail
  refine (HLv.out _).mono ?_
  rintro e w2 ⟨rfl,k1⟩
  have HS:=Lib.hid (HS1.out.call k1)
  clear k1 z0 z1 z2 z3 z4 z5 z6 z7 z8 z9
  go_wp2_with fail
  refine wp_region_held_drew (S:=RxS w0 w w.heap.size (q:Int) (j:Int) (m:Int)) (by kernel_rfl) HS.out.drew (fun hH0=>?_)
  refine wpAnyH_take (i:=0) (v:=.slice (some ⟨g,off,none⟩) len cap) rfl (by kernel_rfl) (by kernel_rfl) (by kernel_rfl) (fun _ _ _ h=>h) (Or.inl ⟨by kernel_rfl,fun wS hSw=>by go_simp⟩) hH0 ?_
  refine wpAnyH_take (i:=1) (v:=.pointer (some ⟨w.heap.size,1,none⟩)) rfl (by kernel_rfl) (by kernel_rfl) (by kernel_rfl) (fun _ _ _ h=>h) (Or.inl ⟨by kernel_rfl,fun wS hSw=>by go_simp⟩) hH0 ?_
  refine wpAnyH_take (i:=2) (v:=.int .i64 (j:Int)) rfl (by kernel_rfl) (by kernel_rfl) (by kernel_rfl) (fun _ _ _ h=>h) (Or.inl ⟨by kernel_rfl,fun wS hSw=>by obtain ⟨y0,y1,y2⟩:=RxS.cells hSw; go_simp⟩) hH0 ?_
  refine wpAnyH_take (i:=3) (v:=.int .i64 5) rfl (by kernel_rfl) (by kernel_rfl) (by kernel_rfl) (fun _ _ _ h=>h) (Or.inl ⟨by kernel_rfl,fun wS hSw=>by go_simp⟩) hH0 ?_
  refine wpAnyH_take (i:=6) (v:=.pointer (some ⟨w.heap.size,0,none⟩)) rfl (by kernel_rfl) (by kernel_rfl) (by kernel_rfl) (fun _ _ _ h=>h) (Or.inl ⟨by kernel_rfl,fun wS hSw=>by go_simp⟩) hH0 ?_
  refine wpAnyH_take (i:=7) (v:=.int .i64 (q:Int)) rfl (by kernel_rfl) (by kernel_rfl) (by kernel_rfl) (fun _ _ _ h=>h) (Or.inl ⟨by kernel_rfl,fun wS hSw=>by obtain ⟨y0,y1,y2⟩:=RxS.cells hSw; go_simp⟩) hH0 ?_
  refine wpAnyH_take (i:=11) (v:=.slice (some ⟨g,off,none⟩) len cap) rfl (by kernel_rfl) (by kernel_rfl) (by kernel_rfl) (fun _ _ _ h=>h) (Or.inl ⟨by kernel_rfl,fun wS hSw=>by go_simp⟩) hH0 ?_
  refine wpAnyH_take (i:=12) (v:=.pointer (some ⟨w.heap.size,2,none⟩)) rfl (by kernel_rfl) (by kernel_rfl) (by kernel_rfl) (fun _ _ _ h=>h) (Or.inl ⟨by kernel_rfl,fun wS hSw=>by go_simp⟩) hH0 ?_
  refine wpAnyH_take (i:=13) (v:=.int .i64 (m:Int)) rfl (by kernel_rfl) (by kernel_rfl) (by kernel_rfl) (fun _ _ _ h=>h) (Or.inl ⟨by kernel_rfl,fun wS hSw=>by obtain ⟨y0,y1,y2⟩:=RxS.cells hSw; go_simp⟩) hH0 ?_
  refine wpAnyH_take (i:=14) (v:=.int .i64 (lv:Int)) rfl (by kernel_rfl) (by kernel_rfl) (by kernel_rfl) (fun _ _ _ h=>h) (Or.inl ⟨by kernel_rfl,fun wS hSw=>by go_simp⟩) hH0 ?_
  refine wpAnyH_take (i:=15) (v:=.int .i64 ((lv:Int) + 1)) rfl (by kernel_rfl) (by kernel_rfl) (by kernel_rfl) (fun _ _ _ h=>h) (Or.inl ⟨by kernel_rfl,fun wS hSw=>by go_simp⟩) hH0 ?_
  refine wpAnyH_ready (rs:=[4]) (by kernel_rfl) (by simp) ?_
  refine AllReadyH.cons rfl (fun K hK=>?_) AllReadyH.nil
  rw [if_pos (by kernel_rfl)]
  go_simp
  refine (HA.out _ hH0.1).mono ?_
  rintro e w4 ⟨rfl,k6⟩
  refine hK.out _ _ (RxS.call hH0 k6) (fun hH1=>?_)
  clear hK K k6
  refine wpAnyH_take (i:=5) (v:=.string u1) rfl (by kernel_rfl) (by kernel_rfl) (by kernel_rfl) (fun _ _ _ h=>h) (Or.inl ⟨by kernel_rfl,fun wS hSw=>by go_simp⟩) hH1 ?_
  refine wpAnyH_ready (rs:=[8]) (by kernel_rfl) (by simp) ?_
  refine AllReadyH.cons rfl (fun K hK=>?_) AllReadyH.nil
  rw [if_pos (by kernel_rfl)]
  go_simp
  refine (HG.out _).mono ?_
  rintro e w5 ⟨rfl,k6⟩
  refine hK.out _ _ (RxS.call hH1 k6) (fun hH2=>?_)
  clear hK K k6
  refine wpAnyH_take (i:=9) (v:=.string u2) rfl (by kernel_rfl) (by kernel_rfl) (by kernel_rfl) (fun _ _ _ h=>h) (Or.inl ⟨by kernel_rfl,fun wS hSw=>by go_simp⟩) hH2 ?_
  refine wpAnyH_take (i:=10) (v:=.string u3) rfl (by kernel_rfl) (by kernel_rfl) (by kernel_rfl) (fun _ _ _ h=>h) (Or.inl ⟨by kernel_rfl,fun wS hSw=>by go_simp⟩) hH2 ?_
  refine wpAnyH_ready (rs:=[16]) (by kernel_rfl) (by simp) ?_
  refine AllReadyH.cons rfl (fun K hK=>?_) AllReadyH.nil
  rw [if_pos (by kernel_rfl)]
  go_simp
  refine (HC.out _ hH2.1).mono ?_
  rintro e w6 ⟨rfl,k6⟩
  refine hK.out _ _ (RxS.call hH2 k6) (fun hH3=>?_)
  clear hK K k6
  refine wpAnyH_take (i:=17) (v:=.string s1) rfl (by kernel_rfl) (by kernel_rfl) (by kernel_rfl) (fun _ _ _ h=>h) (Or.inl ⟨by kernel_rfl,fun wS hSw=>by go_simp⟩) hH3 ?_
  refine wpAnyH_take (i:=18) (v:=.string s1) rfl (by kernel_rfl) (by kernel_rfl) (by kernel_rfl) (fun _ _ _ h=>h) (Or.inl ⟨by kernel_rfl,fun wS hSw=>by go_simp⟩) hH3 ?_
  refine wpAnyH_done (by kernel_rfl) ?_ _
  go_simp
  go_wp2_with fail
  go_ret
  exact ⟨rfl,hH3.2.1⟩
 ·rw [if_neg h4] at hA
  have HA:=Lib.hid hA
  have t5:((lv:Int) == 4)=false:=by rw [beq_eq_false_iff_ne]; omega
  clear hA hC hxop h4
  go_enter Tryz.func21,Tryz.ntmps21
  go_upto_region 2 with fail
  try rw [hw1]
  clear c0 c1 c2 c3 c4 c5 c6 c7 c8 c9 hw1
  go_wp2_with fail
  refine (HLv.out _).mono ?_
  rintro e w2 ⟨rfl,k1⟩
  have HS:=Lib.hid (HS1.out.call k1)
  clear k1 z0 z1 z2 z3 z4 z5 z6 z7 z8 z9
  go_wp2_with fail
  refine wp_region_held_drew (S:=RxS w0 w w.heap.size (q:Int) (j:Int) (m:Int)) (by kernel_rfl) HS.out.drew (fun hH0=>?_)
  refine wpAnyH_take (i:=0) (v:=.slice (some ⟨g,off,none⟩) len cap) rfl (by kernel_rfl) (by kernel_rfl) (by kernel_rfl) (fun _ _ _ h=>h) (Or.inl ⟨by kernel_rfl,fun wS hSw=>by go_simp⟩) hH0 ?_
  refine wpAnyH_take (i:=1) (v:=.pointer (some ⟨w.heap.size,1,none⟩)) rfl (by kernel_rfl) (by kernel_rfl) (by kernel_rfl) (fun _ _ _ h=>h) (Or.inl ⟨by kernel_rfl,fun wS hSw=>by go_simp⟩) hH0 ?_
  refine wpAnyH_take (i:=2) (v:=.int .i64 (j:Int)) rfl (by kernel_rfl) (by kernel_rfl) (by kernel_rfl) (fun _ _ _ h=>h) (Or.inl ⟨by kernel_rfl,fun wS hSw=>by obtain ⟨y0,y1,y2⟩:=RxS.cells hSw; go_simp⟩) hH0 ?_
  refine wpAnyH_take (i:=3) (v:=.int .i64 (lv:Int)) rfl (by kernel_rfl) (by kernel_rfl) (by kernel_rfl) (fun _ _ _ h=>h) (Or.inl ⟨by kernel_rfl,fun wS hSw=>by go_simp⟩) hH0 ?_
  refine wpAnyH_take (i:=6) (v:=.pointer (some ⟨w.heap.size,0,none⟩)) rfl (by kernel_rfl) (by kernel_rfl) (by kernel_rfl) (fun _ _ _ h=>h) (Or.inl ⟨by kernel_rfl,fun wS hSw=>by go_simp⟩) hH0 ?_
  refine wpAnyH_take (i:=7) (v:=.int .i64 (q:Int)) rfl (by kernel_rfl) (by kernel_rfl) (by kernel_rfl) (fun _ _ _ h=>h) (Or.inl ⟨by kernel_rfl,fun wS hSw=>by obtain ⟨y0,y1,y2⟩:=RxS.cells hSw; go_simp⟩) hH0 ?_
  refine wpAnyH_take (i:=11) (v:=.slice (some ⟨g,off,none⟩) len cap) rfl (by kernel_rfl) (by kernel_rfl) (by kernel_rfl) (fun _ _ _ h=>h) (Or.inl ⟨by kernel_rfl,fun wS hSw=>by go_simp⟩) hH0 ?_
  refine wpAnyH_take (i:=12) (v:=.pointer (some ⟨w.heap.size,2,none⟩)) rfl (by kernel_rfl) (by kernel_rfl) (by kernel_rfl) (fun _ _ _ h=>h) (Or.inl ⟨by kernel_rfl,fun wS hSw=>by go_simp⟩) hH0 ?_
  refine wpAnyH_take (i:=13) (v:=.int .i64 (m:Int)) rfl (by kernel_rfl) (by kernel_rfl) (by kernel_rfl) (fun _ _ _ h=>h) (Or.inl ⟨by kernel_rfl,fun wS hSw=>by obtain ⟨y0,y1,y2⟩:=RxS.cells hSw; go_simp⟩) hH0 ?_
  refine wpAnyH_take (i:=14) (v:=.int .i64 (lv:Int)) rfl (by kernel_rfl) (by kernel_rfl) (by kernel_rfl) (fun _ _ _ h=>h) (Or.inl ⟨by kernel_rfl,fun wS hSw=>by go_simp⟩) hH0 ?_
  refine wpAnyH_take (i:=15) (v:=.int .i64 ((lv:Int) + 1)) rfl (by kernel_rfl) (by kernel_rfl) (by kernel_rfl) (fun _ _ _ h=>h) (Or.inl ⟨by kernel_rfl,fun wS hSw=>by go_simp⟩) hH0 ?_
  refine wpAnyH_ready (rs:=[4]) (by kernel_rfl) (by simp) ?_
  refine AllReadyH.cons rfl (fun K hK=>?_) AllReadyH.nil
  rw [if_pos (by kernel_rfl)]
  go_simp
  refine (HA.out _ hH0.1).mono ?_
  rintro e w4 ⟨rfl,k6⟩
  refine hK.out _ _ (RxS.call hH0 k6) (fun hH1=>?_)
  clear hK K k6
  refine wpAnyH_take (i:=5) (v:=.string u1) rfl (by kernel_rfl) (by kernel_rfl) (by kernel_rfl) (fun _ _ _ h=>h) (Or.inl ⟨by kernel_rfl,fun wS hSw=>by go_simp⟩) hH1 ?_
  refine wpAnyH_ready (rs:=[8]) (by kernel_rfl) (by simp) ?_
  refine AllReadyH.cons rfl (fun K hK=>?_) AllReadyH.nil
  rw [if_pos (by kernel_rfl)]
  go_simp
  refine (HG.out _).mono ?_
  rintro e w5 ⟨rfl,k6⟩
  refine hK.out _ _ (RxS.call hH1 k6) (fun hH2=>?_)
  clear hK K k6
  refine wpAnyH_take (i:=9) (v:=.string u2) rfl (by kernel_rfl) (by kernel_rfl) (by kernel_rfl) (fun _ _ _ h=>h) (Or.inl ⟨by kernel_rfl,fun wS hSw=>by go_simp⟩) hH2 ?_
  refine wpAnyH_take (i:=10) (v:=.string u3) rfl (by kernel_rfl) (by kernel_rfl) (by kernel_rfl) (fun _ _ _ h=>h) (Or.inl ⟨by kernel_rfl,fun wS hSw=>by go_simp⟩) hH2 ?_
  refine wpAnyH_ready (rs:=[16]) (by kernel_rfl) (by simp) ?_
  refine AllReadyH.cons rfl (fun K hK=>?_) AllReadyH.nil
  rw [if_pos (by kernel_rfl)]
  go_simp
  refine (HC.out _ hH2.1).mono ?_
  rintro e w6 ⟨rfl,k6⟩
  refine hK.out _ _ (RxS.call hH2 k6) (fun hH3=>?_)
  clear hK K k6
  refine wpAnyH_take (i:=17) (v:=.string s1) rfl (by kernel_rfl) (by kernel_rfl) (by kernel_rfl) (fun _ _ _ h=>h) (Or.inl ⟨by kernel_rfl,fun wS hSw=>by go_simp⟩) hH3 ?_
  refine wpAnyH_take (i:=18) (v:=.string s1) rfl (by kernel_rfl) (by kernel_rfl) (by kernel_rfl) (fun _ _ _ h=>h) (Or.inl ⟨by kernel_rfl,fun wS hSw=>by go_simp⟩) hH3 ?_
  refine wpAnyH_done (by kernel_rfl) ?_ _
  go_simp
  go_wp2_with fail
  go_ret
  exact ⟨rfl,hH3.2.1⟩
theorem refExprP_calls {T:TypeId} {O:Prop} (w0:World) (a:Option Addr) (len cap:Nat) (L:List Ex) (h0:GIn rEx T O 10 w0 a len L) :
  ∀ (e:Et) (n:Nat),IsE L n e → e.ok → e.tx.length ≤ 100000000000 → RxC w0 a len cap n e.tx:=by
 have key:∀ e:Et,e.ok → e.tx.length ≤ 100000000000 → (∀ n,IsE L n e → RxC w0 a len cap n e.tx) → ∀ m,IsE L m e → ∀ k,k ≤ 9 → RwC w0 a len cap m k (brkL (decide (e.lv < k)) e.tx):=fun e ho hl ih m hi k hk=>by
  obtain ⟨x,hx,hlv,_⟩:=isE_lv hi ho
  have hop:x.op=1 ∨ (4 ≤ x.op ∧ x.op ≤ 17):=by
   by_cases h:x.op=1 ∨ (4 ≤ x.op ∧ x.op ≤ 17)
   ·exact h
   ·have h2:lvL x.op=0:=if_neg h
    have:=(lv_bounds e).1
    omega
  rw [← hlv,show lvL x.op=lvO x.op from if_pos hop]
  exact refWithin_calls w0 a len cap m k L x e.tx h0 hx hop hk hl (ih m hi)
 intro e
 induction e with
 | val v=>exact fun n h ho hl=>rx_val w0 a len cap n L h0 v h ho
 | nam s=>exact fun n h ho hl=>rx_nam w0 a len cap n L h0 s h
 | un op a' ih =>
  intro n h ho hl
  obtain ⟨ho4,hoa⟩:=ho
  have hbl:a'.tx.length ≤ 100000000000:=by
   have h2:(Et.un op a').tx=if op=4 then kwNot ++ 32 :: brkL (decide (a'.lv < 3)) a'.tx else 45 :: brkL (negB a') a'.tx:=rfl
   rw [h2] at hl
   have g1:=brkL_ge (decide (a'.lv < 3)) a'.tx
   have g2:=brkL_ge (negB a') a'.tx
   split at hl
   ·rw [List.length_append,List.length_cons] at hl; omega
   ·rw [List.length_cons] at hl; omega
  have ih:=fun n h=>ih n h hoa hbl
  rcases ho4 with rfl | rfl
  ·exact rx_not w0 a len cap n L h0 a' h hbl (fun m hi=>key a' hoa hbl ih m hi 3 (by decide))
  ·exact rx_neg w0 a len cap n L h0 a' h hoa hbl ih (fun m hi=>key a' hoa hbl ih m hi 7 (by decide))
 | bin op a' b' ih1 ih2 =>
  intro n h ho hl
  obtain ⟨o1,o2,hoa,hob⟩:=ho
  have h2:(Et.bin op a' b').tx=brkL (decide (a'.lv < lefL op)) a'.tx ++ 32 :: ((signT op).2 ++ 32 :: brkL (decide (b'.lv < lvO op + 1)) b'.tx):=rfl
  rw [h2] at hl
  have g1:=brkL_ge (decide (a'.lv < lefL op)) a'.tx
  have g2:=brkL_ge (decide (b'.lv < lvO op + 1)) b'.tx
  simp only [List.length_append,List.length_cons] at hl
  have hla:a'.tx.length ≤ 100000000000:=by omega
  have hlb:b'.tx.length ≤ 100000000000:=by omega
  exact rx_bin w0 a len cap n L h0 op a' b' h o1 o2 hla hlb (key a' hoa hla (fun n h=>ih1 n h hoa hla)) (key b' hob hlb (fun n h=>ih2 n h hob hlb))
end Go.Proofs.YtiafhfchjhffhaaGreatDoor
