/- paclaim: ParLinked ParLinkF -/
import Derived.Test.YtiafhfchjhffhaaGreatDoorLowPa6
import Derived.Deep.Cut
namespace Go.Proofs.YtiafhfchjhffhaaGreatDoor
open Go.RowKit
set_option linter.unusedVariables false
theorem row_take {w:World} {B:Nat} {T:TypeId} {k n m:Nat} {a:Option Addr} {c:Nat} {xs:List Value} (h:w.ownsRow B T k (.slice a n c) n xs) (hm:m ≤ n) (ha:a ≠ none):w.ownsRow B T k (.slice a m c) m (xs.take (m * k)):=by
 obtain ⟨hl,hown⟩:=h
 have hmk:m * k ≤ n * k:=Nat.mul_le_mul_right k hm
 rcases hown with ⟨e,hz⟩ | ⟨g,cap,cur,e,h1,hg,hcap,hx,hsz,htk⟩
 ·cases e
  exact absurd rfl ha
 ·cases e
  refine ⟨by rw [List.length_take,hl,Nat.min_eq_left hmk],.inr ⟨g,c,cur,rfl,h1,hg,by omega,hx,hsz,?_⟩⟩
  rw [← htk,List.take_take,Nat.min_eq_left hmk]
theorem row_set {w:World} {B:Nat} {T:TypeId} {k n g c j:Nat} {xs:List Value} {v:Value} (h:w.ownsRow B T k (.slice (some ⟨g,0,none⟩) n c) n xs):(w.setCell ⟨g,j,none⟩ v).ownsRow B T k (.slice (some ⟨g,0,none⟩) n c) n (xs.set j v):=by
 obtain ⟨hl,hown⟩:=h
 rcases hown with ⟨e,hz⟩ | ⟨g',cap,cur,e,h1,hg,hcap,hx,hsz,htk⟩
 ·cases e
 ·cases e
  refine ⟨by rw [List.length_set]; exact hl,.inr ⟨g,c,_,rfl,h1,heap_setCell_same w g j _ _ v hg,hcap,hx,?_,?_⟩⟩
  ·simp [hsz]
  ·show (cur.setIfInBounds j v).toList.take (n * k)=xs.set j v
   rw [← htk,Array.toList_setIfInBounds,List.take_set]
theorem row_cell {w:World} {B:Nat} {T:TypeId} {k n g c j:Nat} {xs:List Value} {v:Value} (h:w.ownsRow B T k (.slice (some ⟨g,0,none⟩) n c) n xs) (hj:xs[j]? = some v):w.cell? ⟨g,j,none⟩=some v ∧ w.frozen? ⟨g,j,none⟩=false ∧ g < w.heap.size ∧ n ≤ c ∧ c ≤ 9223372036854775807:=by
 obtain ⟨hl,hown⟩:=h
 rcases hown with ⟨e,hz⟩ | ⟨g',cap,cur,e,h1,hg,hcap,hx,hsz,htk⟩
 ·cases e
 ·cases e
  refine ⟨?_,frozen_of_row w g j _ _ hg,(Array.getElem?_eq_some_iff.1 hg).1,hcap,by unfold maxLen at hx; omega⟩
  rw [cell_of_row w g j cur _ (0,0) hg]
  have hjl:=(List.getElem?_eq_some_iff.1 hj).1
  rw [hl] at hjl
  rw [← htk,List.getElem?_take,if_pos hjl] at hj
  simpa using hj
theorem row_setOther {w:World} {B:Nat} {T U:TypeId} {k n b o:Nat} {v u:Value} {xs:List Value} (h:w.ownsRow B T k v n xs) (hb:CBlk w b U) (hne:U ≠ T):(w.setCell ⟨b,o,none⟩ u).ownsRow B T k v n xs :=
 ownsRow_heap h (fun k c=>heap_setCell_other w _ k u (fun e=>hb.ne c hne e.symm))
theorem exCs_set:∀ (l:List Ex) (n j:Nat) (x y:Ex) (v:Value),l[n]? = some x → j < 10 → exC y=(exC x).set j v → (exCs l).set (n * 10 + j) v=exCs (l.set n y)
 | [],n,j,x,y,v,h,_,_=>by simp at h
 | z :: r,0,j,x,y,v,h,hj,e=>by
  simp only [List.getElem?_cons_zero,Option.some.injEq] at h
  subst h
  show ((exC z ++ exCs r).set (0 * 10 + j) v)=exC y ++ exCs r
  rw [Nat.zero_mul,Nat.zero_add,List.set_append,if_pos (by show j < 10; exact hj),e]
 | z :: r,n + 1,j,x,y,v,h,hj,e=>by
  have h2:r[n]? = some x:=by simpa using h
  show ((exC z ++ exCs r).set ((n + 1) * 10 + j) v)=exC z ++ exCs (r.set n y)
  have hl:(exC z).length=10:=rfl
  rw [List.set_append,if_neg (by rw [hl]; omega),hl,show (n + 1) * 10 + j - 10=n * 10 + j by omega,exCs_set r n j x y v h2 hj e]
def intsV (l:List Int):List Value:=l.map (fun k=>.int .i64 k)
theorem linkS_len (z:Int):∀ (l:List Ex) (k:Int) (st:List Int),(linkS z l k st).1.length=l.length
 | [],_,_=>rfl
 | x :: r,k,st=>by rw [linkS,List.length_cons,linkS_len z r,List.length_cons]
structure LS (L:List Ex) (n:Nat) (l:List Ex) (st:List Int):Prop where
 le:n ≤ L.length
 nodes:l=(linkS 0 (L.take n) 0 []).1 ++ L.drop n
 roots:st=(linkS 0 (L.take n) 0 []).2
 height:∃ k,hgt (L.drop n) st.length=some k
theorem LS.start {L:List Ex} (h:∃ k,hgt L 0=some k):LS L 0 L []:=⟨Nat.zero_le _,by simp [linkS],rfl,h⟩
theorem LS.done {L l:List Ex} {n:Nat} {st:List Int} (h:LS L n l st) (hn:¬ n < L.length):l=(linkS 0 L 0 []).1:=by
 have h1:=h.le
 have h2:=h.nodes
 rw [List.take_of_length_le (by omega),List.drop_of_length_le (by omega),List.append_nil] at h2
 exact h2
theorem LS.len {L l:List Ex} {n:Nat} {st:List Int} (h:LS L n l st):l.length=L.length:=by
 have:=h.le
 rw [h.nodes,List.length_append,linkS_len,List.length_take,List.length_drop]
 omega
theorem LS.at' {L l:List Ex} {n:Nat} {st:List Int} (h:LS L n l st) {x:Ex} (hx:L[n]? = some x):l[n]? = some x:=by
 have:=h.le
 have hlen:(linkS 0 (L.take n) 0 []).1.length=n:=by rw [linkS_len,List.length_take]; omega
 rw [h.nodes,List.getElem?_append_right (by omega),hlen,Nat.sub_self,List.getElem?_drop]
 simpa using hx
theorem LS.step {L l:List Ex} {n:Nat} {st:List Int} (h:LS L n l st) {x:Ex} (hx:L[n]? = some x) :
  LS L (n + 1) (l.set n (stepL 0 x n st).1) (stepL 0 x n st).2 ∧ ((x.op=1 ∨ x.op=17) ∨ ((x.op=4 ∨ x.op=5) ∧ 1 ≤ st.length) ∨ (¬ (x.op=1 ∨ x.op=17) ∧ ¬ (x.op=4 ∨ x.op=5) ∧ 2 ≤ st.length)):=by
 obtain ⟨hn,he⟩:=List.getElem?_eq_some_iff.1 hx
 have hd:L.drop n=x :: L.drop (n + 1):=by rw [List.drop_eq_getElem_cons hn,he]
 have ht:L.take (n + 1)=L.take n ++ [x]:=by rw [List.take_succ_eq_append_getElem hn,he]
 obtain ⟨kh,hh⟩:=h.height
 rw [hd,hgt] at hh
 have hlen:(linkS 0 (L.take n) 0 []).1.length=n:=by rw [linkS_len,List.length_take]; omega
 have hs:linkS 0 (L.take (n + 1)) 0 []=((linkS 0 (L.take n) 0 []).1 ++ [(stepL 0 x n st).1],(stepL 0 x n st).2):=by
  rw [ht,linkS_app,← h.roots]
  have e:(0:Int) + ((L.take n).length:Nat)=(n:Int):=by rw [List.length_take]; omega
  rw [e]
  rfl
 have hnodes:l.set n (stepL 0 x n st).1=(linkS 0 (L.take (n + 1)) 0 []).1 ++ L.drop (n + 1):=by
  rw [h.nodes,hs,hd,List.set_append,if_neg (by omega),hlen,Nat.sub_self,List.set_cons_zero,List.append_assoc]
  rfl
 have hsl:∀ q,stepL 0 x n st=q → q.2.length=(if x.op=1 ∨ x.op=17 then st.length + 1 else if x.op=4 ∨ x.op=5 then st.length - 1 + 1 else st.length - 1 - 1 + 1):=by
  rintro _ rfl
  unfold stepL
  split
  ·rfl
  ·split
   ·simp
   ·simp
 have hl2:=hsl _ rfl
 by_cases h1:x.op=1 ∨ x.op=17
 ·rw [if_pos h1] at hh hl2
  exact ⟨⟨hn,hnodes,by rw [hs],kh,by rw [hl2]; exact hh⟩,.inl h1⟩
 ·rw [if_neg h1] at hh hl2
  by_cases h4:x.op=4 ∨ x.op=5
  ·rw [if_pos h4] at hh hl2
   split at hh
   ·cases hh
   ·rename_i h0
    exact ⟨⟨hn,hnodes,by rw [hs],kh,by rw [hl2,show st.length - 1 + 1=st.length by omega]; exact hh⟩,.inr (.inl ⟨h4,by omega⟩)⟩
  ·rw [if_neg h4] at hh hl2
   split at hh
   ·cases hh
   ·rename_i h0
    exact ⟨⟨hn,hnodes,by rw [hs],kh,by rw [hl2,show st.length - 1 - 1 + 1=st.length - 1 by omega]; exact hh⟩,.inr (.inr ⟨h1,h4,by omega⟩)⟩
set_option maxHeartbeats 2000000 in
theorem pop_calls (R rb m c:Nat) (r:Int) (w:World) (h0:Ho w R #[.slice (some ⟨rb,0,none⟩) (m + 1) c] 61) (hr:w.cell? ⟨rb,m,none⟩=some (.int .i64 r)) (hm:m ≤ 1000000) (hc:m + 1 ≤ c) (hc2:c ≤ 9223372036854775807) (hrb:rb < w.heap.size) :
  Calls Tryz.prog 143 #[.pointer (some ⟨R,0,none⟩)] w fun e w'=>e=.returned (.int .i64 r) ∧ w'=w.setCell ⟨R,0,none⟩ (.slice (some ⟨rb,0,none⟩) m c):=by
 have c0:w.cell? ⟨R,0,none⟩=some (.slice (some ⟨rb,0,none⟩) (m + 1) c):=by rw [cell_of_row _ _ 0 _ _ _ h0]; rfl
 have f0:w.frozen? ⟨R,0,none⟩=false:=frozen_of_row _ _ 0 _ _ h0
 have hR:=h0.lt
 clear h0
 go_enter Tryz.func143,Tryz.ntmps143
 go_wp2_with fail
 go_ret
 exact ⟨rfl,rfl⟩
theorem par_infoInt:(Tryz.prog.info? 3).map (fun i=>(i.zero,i.size,i.bytes))=some (some (.int .i64 0),1,8):=by kernel_rfl
theorem row_block {w:World} {B:Nat} {T:TypeId} {k n:Nat} {v:Value} {xs:List Value} (h:w.ownsRow B T k v n xs) (h0:n ≠ 0):∃ g c,v=.slice (some ⟨g,0,none⟩) n c ∧ B ≤ g ∧ CBlk w g T:=by
 obtain ⟨hl,hown⟩:=h
 rcases hown with ⟨e,hz⟩ | ⟨g,cap,cur,e,h1,hg,hcap,hx,hsz,htk⟩
 ·exact absurd hz h0
 ·exact ⟨g,cap,e,h1,⟨_,_,hg⟩⟩
theorem kp_grown_new {S:Nat → Prop} {a b c:World} {r:Option Nat} (h:Kp S a b) (k:b.grownBy c r) (hr:∀ j,r=some j → a.heap.size ≤ j):Kp S a c :=
 ⟨k.os.trans h.os,k.tape.trans h.tape,k.output.trans h.output,Nat.le_trans h.size k.size,fun j hj hn=>(k.block j (Nat.lt_of_lt_of_le hj h.size) (fun e=>by have:=hr j e.symm; omega)).trans (h.block j hj hn)⟩
theorem ints_top (st:List Int) (r:Int):(intsV (r :: st).reverse)[st.length]? = some (.int .i64 r):=by
 unfold intsV
 rw [List.reverse_cons,List.map_append,List.getElem?_append_right (by simp)]
 simp
theorem ints_pop (st:List Int) (r:Int):(intsV (r :: st).reverse).take (st.length * 1)=intsV st.reverse:=by
 unfold intsV
 rw [List.reverse_cons,List.map_append,Nat.mul_one,show st.length=(st.reverse.map (fun k=>Value.int .i64 k)).length by simp,List.take_left]
theorem ints_push (st:List Int) (r:Int):intsV (r :: st).reverse=intsV st.reverse ++ [.int .i64 r]:=by
 unfold intsV
 rw [List.reverse_cons,List.map_append]; rfl
set_option maxHeartbeats 16000000 in
set_option maxRecDepth 100000 in
theorem linked_calls (B b c:Nat) (L:List Ex) (w:World) (h:NsAt B w (.slice (some ⟨b,0,none⟩) L.length c) L) (hnet:∃ k,hgt L 0=some k) (hne:L ≠ []) (hl:L.length ≤ 1000000) :
  Calls Tryz.prog 79 #[.slice (some ⟨b,0,none⟩) L.length c] w fun e w'=>e=.returned (.slice (some ⟨b,0,none⟩) L.length c) ∧ NsAt B w' (.slice (some ⟨b,0,none⟩) L.length c) (linkS 0 L 0 []).1 ∧ Kp (K1 b) w w':=by
 have eg:∀ args w,(callFunc 143 args).run Tryz.prog w=.ok (.enter 143 args) w:=enters_of Tryz.func143 (by kernel_rfl) rfl
 obtain ⟨i0,hi,z0',z1,z2⟩:=cs_parts par_infoInt
 have HI:=Lib.hid hi
 have HZ0:=Lib.hid z0'
 have HZ1:=Lib.hid z1
 have HZ2:=Lib.hid z2
 have hbl:b < w.heap.size:=by
  obtain ⟨g',c',e,h1,h2,h3⟩:=h.block hne
  cases e
  exact h2.lt
 have hA:Below w.heap.size w (w.alloc (.cells #[.slice none 0 0] 61)):=(Below.refl _ _).alloc (Nat.le_refl _) _
 have HN0:=Lib.hid (h.below hA)
 have HR0:Hid (Ho (w.alloc (.cells #[.slice none 0 0] 61)) w.heap.size #[.slice none 0 0] 61):=Lib.hid (Ho.new _ _ _ rfl)
 have HK0:Hid (Kp (K1 b) w (w.alloc (.cells #[.slice none 0 0] 61))):=Lib.hid (Kp.of_below hA)
 have HLS0:=Lib.hid (LS.start hnet)
 have HL0:Hid ((w.alloc (.cells #[.slice none 0 0] 61)).ownsRow w.heap.size 3 1 (.slice none 0 0) ([]:List Int).length (intsV ([]:List Int).reverse)):=Lib.hid (World.ownsRow_nil _ _ _ _)
 clear h hnet hne hi z0' z1 z2 hA
 go_enter Tryz.func79,Tryz.ntmps79
 go_wp2_with fail
 go_loopw [10] (fun i wr=>∃ (n:Nat) (l:List Ex) (st:List Int) (rv:Value),i=.int .i64 (n:Nat) ∧ Hid (LS L n l st) ∧ Hid (wr.ownsRow B 58 10 (.slice (some ⟨b,0,none⟩) L.length c) L.length (exCs l)) ∧ Hid (Ho wr w.heap.size #[rv] 61) ∧ Hid (wr.ownsRow w.heap.size 3 1 rv st.length (intsV st.reverse)) ∧ Hid (Kp (K1 b) w wr)) (fun i _=>L.length - (intOf i).toNat)
 ·exact ⟨0,L,[],.slice none 0 0,rfl,HLS0,HN0,HR0,HL0,HK0⟩
 ·obtain ⟨n,l,st,rv,rfl,HLS,HN,HR,HI9,HK⟩:=hrel
  have hnl:=HLS.out.le
  have hRl:w.heap.size < wr.heap.size:=HR.out.lt
  clear HLS0 HN0 HR0 HL0 HK0
  by_cases hlt:n < L.length
  case neg =>
   have HV:=Lib.hid (HLS.out.done hlt)
   have HVL:=Lib.hid HLS.out.len
   go_wp2_with fail
   go_ret
   refine ⟨rfl,?_,HK.out⟩
   rw [← HV.out]
   unfold NsAt
   rw [HVL.out]
   exact HN.out
  case pos =>
   obtain ⟨x,hx⟩:∃ x,L[n]? = some x:=⟨L[n],List.getElem?_eq_getElem hlt⟩
   obtain ⟨hstep,hops⟩:=HLS.out.step hx
   have hxl:=HLS.out.at' hx
   have HXL:=Lib.hid hxl
   obtain ⟨c0,f0,hb0,hcap,hcap2⟩:=row_cell HN.out (exCs_at hxl (show 0 < 10 by omega) |>.trans rfl)
   rw [Nat.add_zero] at c0 f0
   obtain ⟨c1,f1,_,_,_⟩:=row_cell HN.out (exCs_at hxl (show 1 < 10 by omega) |>.trans rfl)
   obtain ⟨c2,f2,_,_,_⟩:=row_cell HN.out (exCs_at hxl (show 2 < 10 by omega) |>.trans rfl)
   have hst:st.length ≤ n:=by
    have hrt:=HLS.out.roots
    have key:∀ (xs:List Ex) (k:Int) (s:List Int),(linkS 0 xs k s).2.length ≤ s.length + xs.length:=by
     intro xs
     induction xs with
     | nil=>intro k s; exact Nat.le_refl _
     | cons y r ih =>
      intro k s
      rw [linkS,List.length_cons]
      refine Nat.le_trans (ih _ _) ?_
      have:(stepL 0 y k s).2.length ≤ s.length + 1:=by
       unfold stepL
       split
       ·exact Nat.le_refl _
       ·split
        ·simp
        ·simp <;> omega
      omega
    rw [hrt]
    have:=key (L.take n) 0 []
    rw [List.length_take] at this
    simp at this ⊢
    omega
   have HST:=Lib.hid hst
   have b0:n ≤ 1000000:=by omega
   have hmeas:L.length - (n + 1) < L.length - n:=by omega
   clear hx hxl hst HLS
   rcases hops with hop | ⟨hop,hst1⟩ | ⟨hop1,hop4,hst2⟩
   ·have hSt:stepL 0 x n st=(x,(n:Int) :: st):=by unfold stepL; rw [if_pos hop]
    rw [hSt] at hstep
    have hset:l.set n x=l:=by
     have hx2:=HXL.out
     obtain ⟨q1,q2⟩:=List.getElem?_eq_some_iff.1 hx2
     rw [← q2,List.set_getElem_self]
    have HSTEP:Hid (LS L (n + 1) l ((n:Int) :: st)):=Lib.hid (by have:=hstep; rwa [hset] at this)
    obtain ⟨q,hq⟩:∃ q,q=st.length:=⟨_,rfl⟩
    have HQ:=Lib.hid hq
    have hqn:q ≤ 1000000:=by have:=HST.out; omega
    rw [← hq] at HI9
    obtain ⟨ra,rc,rfl⟩:=cs_own HI9.out
    clear hstep hSt hset hq
    rcases hop with hop | hop
    ·have t1:(x.op == 1)=true:=by rw [hop]; rfl
     clear hop
     have r0:wr.cell? ⟨w.heap.size,0,none⟩=some (.slice ra q rc):=by rw [cell_of_row _ _ 0 _ _ _ HR.out]; rfl
     have rf0:wr.frozen? ⟨w.heap.size,0,none⟩=false:=frozen_of_row _ _ 0 _ _ HR.out
     have hrl:w.heap.size < wr.heap.size:=HR.out.lt
     go_wp2_with (at_builtin; refine wpList_append_own _ rfl _ _ 61 rfl w.heap.size 3 i0 _ 1 8 Tryz.underlying61 HI.out HZ0.out HZ1.out HZ2.out rfl (by decide) _ _ _ rfl (ownsRow_heap HI9.out (fun g hc=>heap_alloc_old _ _ hc.lt)) ⟨wr.heap.size,0,none⟩ 1 1 [.int .i64 (n:Nat)] rfl rfl ?k1 ?k2 ?k3 ?k4 ?k5 ?_)
     case k1=>exact cs_new _ _ _
     case k2=>intro u hu; rw [List.mem_singleton] at hu; subst hu; rfl
     case k3=>unfold maxLen; omega
     case k4=>omega
     case k5=>simp; omega
     intro v9 w9 hown9 hgrow9 _
     have hOW9:(wr.alloc (.cells #[.int .i64 (n:Nat)] 3)).ownsRow w.heap.size 3 1 (.slice ra q rc) q (intsV (st).reverse):=ownsRow_heap HI9.out (fun g hc=>heap_alloc_old _ _ hc.lt)
     have hKU9:=KU.grown hOW9 hgrow9
     have HR9:Hid (Ho w9 w.heap.size #[.slice ra q rc] 61):=Lib.hid ((HR.out.alloc (.cells #[.int .i64 (n:Nat)] 3)).ku hKU9 (by decide))
     have HN9:Hid (w9.ownsRow B 58 10 (.slice (some ⟨b,0,none⟩) L.length c) L.length (exCs (l))):=Lib.hid (ownsRow_heap (ownsRow_heap HN.out (fun g hc=>heap_alloc_old _ (.cells #[.int .i64 (n:Nat)] 3) hc.lt)) (fun g hc=>hKU9.kept hc (by decide)))
     have HK9:Hid (Kp (K1 b) w w9):=Lib.hid (kp_grown_new (HK.out.alloc _) hgrow9 (fun j hj=>(hOW9.lt j hj).1))
     obtain ⟨ra9,rc9,rfl⟩:=cs_own hown9
     have HI9b:Hid (w9.ownsRow w.heap.size 3 1 (.slice ra9 (q + 1) rc9) (q + 1) (intsV ((n:Int) :: st).reverse)):=Lib.hid (by rw [ints_push]; exact hown9)
     have r9:w9.cell? ⟨w.heap.size,0,none⟩=some (.slice ra q rc):=by rw [cell_of_row _ _ 0 _ _ _ HR9.out]; rfl
     have rf9:w9.frozen? ⟨w.heap.size,0,none⟩=false:=frozen_of_row _ _ 0 _ _ HR9.out
     have hrl9:w.heap.size < w9.heap.size:=HR9.out.lt
     have HREL:Hid (LS L (n + 1) (l) ((n:Int) :: st) ∧ (w9.setCell ⟨w.heap.size,0,none⟩ (.slice ra9 (q + 1) rc9)).ownsRow B 58 10 (.slice (some ⟨b,0,none⟩) L.length c) L.length (exCs (l)) ∧ Ho (w9.setCell ⟨w.heap.size,0,none⟩ (.slice ra9 (q + 1) rc9)) w.heap.size #[.slice ra9 (q + 1) rc9] 61 ∧ (w9.setCell ⟨w.heap.size,0,none⟩ (.slice ra9 (q + 1) rc9)).ownsRow w.heap.size 3 1 (.slice ra9 (q + 1) rc9) ((n:Int) :: st).length (intsV ((n:Int) :: st).reverse) ∧ Kp (K1 b) w (w9.setCell ⟨w.heap.size,0,none⟩ (.slice ra9 (q + 1) rc9))):=Lib.hid ⟨HSTEP.out,row_setOther HN9.out HR9.out.cblk (by decide),Ho.set HR9.out rfl,by rw [List.length_cons,← HQ.out]; exact row_setOther HI9b.out HR9.out.cblk (by decide),par_setNew HK9.out (Nat.le_refl _) _⟩
     clear hown9 hgrow9 hOW9 hKU9
     go_wp2_with fail
     go_roundw
     case rel=>exact ⟨n + 1,l,(n:Int) :: st,.slice ra9 (q + 1) rc9,by go_num,Lib.hid HREL.out.1,Lib.hid HREL.out.2.1,Lib.hid HREL.out.2.2.1,Lib.hid HREL.out.2.2.2.1,Lib.hid HREL.out.2.2.2.2⟩
     case measure=>simp [intOf] <;> omega
    ·have t1:(x.op == 1)=false:=by rw [hop]; rfl
     have t2:(x.op == 17)=true:=by rw [hop]; rfl
     clear hop
     have r0:wr.cell? ⟨w.heap.size,0,none⟩=some (.slice ra q rc):=by rw [cell_of_row _ _ 0 _ _ _ HR.out]; rfl
     have rf0:wr.frozen? ⟨w.heap.size,0,none⟩=false:=frozen_of_row _ _ 0 _ _ HR.out
     have hrl:w.heap.size < wr.heap.size:=HR.out.lt
     go_wp2_with (at_builtin; refine wpList_append_own _ rfl _ _ 61 rfl w.heap.size 3 i0 _ 1 8 Tryz.underlying61 HI.out HZ0.out HZ1.out HZ2.out rfl (by decide) _ _ _ rfl (ownsRow_heap HI9.out (fun g hc=>heap_alloc_old _ _ hc.lt)) ⟨wr.heap.size,0,none⟩ 1 1 [.int .i64 (n:Nat)] rfl rfl ?k1 ?k2 ?k3 ?k4 ?k5 ?_)
     case k1=>exact cs_new _ _ _
     case k2=>intro u hu; rw [List.mem_singleton] at hu; subst hu; rfl
     case k3=>unfold maxLen; omega
     case k4=>omega
     case k5=>simp; omega
     intro v9 w9 hown9 hgrow9 _
     have hOW9:(wr.alloc (.cells #[.int .i64 (n:Nat)] 3)).ownsRow w.heap.size 3 1 (.slice ra q rc) q (intsV (st).reverse):=ownsRow_heap HI9.out (fun g hc=>heap_alloc_old _ _ hc.lt)
     have hKU9:=KU.grown hOW9 hgrow9
     have HR9:Hid (Ho w9 w.heap.size #[.slice ra q rc] 61):=Lib.hid ((HR.out.alloc (.cells #[.int .i64 (n:Nat)] 3)).ku hKU9 (by decide))
     have HN9:Hid (w9.ownsRow B 58 10 (.slice (some ⟨b,0,none⟩) L.length c) L.length (exCs (l))):=Lib.hid (ownsRow_heap (ownsRow_heap HN.out (fun g hc=>heap_alloc_old _ (.cells #[.int .i64 (n:Nat)] 3) hc.lt)) (fun g hc=>hKU9.kept hc (by decide)))
     have HK9:Hid (Kp (K1 b) w w9):=Lib.hid (kp_grown_new (HK.out.alloc _) hgrow9 (fun j hj=>(hOW9.lt j hj).1))
     obtain ⟨ra9,rc9,rfl⟩:=cs_own hown9
     have HI9b:Hid (w9.ownsRow w.heap.size 3 1 (.slice ra9 (q + 1) rc9) (q + 1) (intsV ((n:Int) :: st).reverse)):=Lib.hid (by rw [ints_push]; exact hown9)
     have r9:w9.cell? ⟨w.heap.size,0,none⟩=some (.slice ra q rc):=by rw [cell_of_row _ _ 0 _ _ _ HR9.out]; rfl
     have rf9:w9.frozen? ⟨w.heap.size,0,none⟩=false:=frozen_of_row _ _ 0 _ _ HR9.out
     have hrl9:w.heap.size < w9.heap.size:=HR9.out.lt
     have HREL:Hid (LS L (n + 1) (l) ((n:Int) :: st) ∧ (w9.setCell ⟨w.heap.size,0,none⟩ (.slice ra9 (q + 1) rc9)).ownsRow B 58 10 (.slice (some ⟨b,0,none⟩) L.length c) L.length (exCs (l)) ∧ Ho (w9.setCell ⟨w.heap.size,0,none⟩ (.slice ra9 (q + 1) rc9)) w.heap.size #[.slice ra9 (q + 1) rc9] 61 ∧ (w9.setCell ⟨w.heap.size,0,none⟩ (.slice ra9 (q + 1) rc9)).ownsRow w.heap.size 3 1 (.slice ra9 (q + 1) rc9) ((n:Int) :: st).length (intsV ((n:Int) :: st).reverse) ∧ Kp (K1 b) w (w9.setCell ⟨w.heap.size,0,none⟩ (.slice ra9 (q + 1) rc9))):=Lib.hid ⟨HSTEP.out,row_setOther HN9.out HR9.out.cblk (by decide),Ho.set HR9.out rfl,by rw [List.length_cons,← HQ.out]; exact row_setOther HI9b.out HR9.out.cblk (by decide),par_setNew HK9.out (Nat.le_refl _) _⟩
     clear hown9 hgrow9 hOW9 hKU9
     go_wp2_with fail
     go_roundw
     case rel=>exact ⟨n + 1,l,(n:Int) :: st,.slice ra9 (q + 1) rc9,by go_num,Lib.hid HREL.out.1,Lib.hid HREL.out.2.1,Lib.hid HREL.out.2.2.1,Lib.hid HREL.out.2.2.2.1,Lib.hid HREL.out.2.2.2.2⟩
     case measure=>simp [intOf] <;> omega
   ·obtain ⟨r,st2,rfl⟩:∃ r st2,st=r :: st2:=by
     cases st with
     | nil=>simp at hst1
     | cons r s=>exact ⟨r,s,rfl⟩
    have hSt:stepL 0 x n (r :: st2)=(⟨x.op,r,x.b,x.n,x.v,x.l,x.c⟩,(n:Int) :: st2):=by unfold stepL; rw [if_neg (by omega),if_pos hop]; rfl
    rw [hSt] at hstep
    have HSTEP:=Lib.hid hstep
    obtain ⟨q,hq⟩:∃ q,q=st2.length:=⟨_,rfl⟩
    have HQ:=Lib.hid hq
    have hI:=HI9.out
    rw [List.length_cons,← hq] at hI
    obtain ⟨rb,rc,rfl,hrbB,hrbC⟩:=row_block hI (Nat.succ_ne_zero q)
    have hqn:q + 1 ≤ 1000000:=by have:=HST.out; rw [List.length_cons,← hq] at this; omega
    have htop:=ints_top st2 r
    rw [← hq] at htop
    obtain ⟨d0,_,hrbl,hrcc,hrcm⟩:=row_cell hI htop
    have hI2:=row_take hI (Nat.le_succ q) (by simp)
    have hpp:=ints_pop st2 r
    rw [← hq] at hpp
    rw [hpp] at hI2
    have HPOP:=Lib.hid (pop_calls w.heap.size rb q rc r wr HR.out d0 (by omega) (by omega) hrcm hrbl)
    -- the roots behind it,and the node's root
    have hW1R:Ho (wr.setCell ⟨w.heap.size,0,none⟩ (.slice (some ⟨rb,0,none⟩) q rc)) w.heap.size #[.slice (some ⟨rb,0,none⟩) q rc] 61:=Ho.set HR.out rfl
    have hW1N:=row_setOther (o:=0) (u:=.slice (some ⟨rb,0,none⟩) q rc) HN.out HR.out.cblk (by decide)
    have hW1I:=row_setOther (o:=0) (u:=.slice (some ⟨rb,0,none⟩) q rc) hI2 HR.out.cblk (by decide)
    have hW1K:=par_setNew (o:=0) HK.out (Nat.le_refl _) (.slice (some ⟨rb,0,none⟩) q rc)
    have hbC:=CBlk.row HN.out rfl
    have hbR:¬ b=w.heap.size:=by omega
    have hRb:¬ w.heap.size=b:=by omega
    have hbb:b < (wr.setCell ⟨w.heap.size,0,none⟩ (.slice (some ⟨rb,0,none⟩) q rc)).heap.size:=by simp; exact hb0
    clear hstep hSt hq htop hpp hI hI2 hrbC d0
    generalize hW1:wr.setCell ⟨w.heap.size,0,none⟩ (.slice (some ⟨rb,0,none⟩) q rc)=w1 at HPOP hW1R hW1N hW1I hW1K hbb
    clear hW1
    obtain ⟨c1,f1,_,_,_⟩:=row_cell hW1N (exCs_at HXL.out (show 1 < 10 by omega) |>.trans rfl)
    have hbC1:=CBlk.row hW1N rfl
    have HN2:Hid ((w1.setCell ⟨b,n * 10 + 1,none⟩ (.int .i64 r)).ownsRow B 58 10 (.slice (some ⟨b,0,none⟩) L.length c) L.length (exCs (l.set n ⟨x.op,r,x.b,x.n,x.v,x.l,x.c⟩))):=Lib.hid (by rw [← exCs_set l n 1 x ⟨x.op,r,x.b,x.n,x.v,x.l,x.c⟩ (.int .i64 r) HXL.out (by omega) rfl]; exact row_set hW1N)
    have HR2:Hid (Ho (w1.setCell ⟨b,n * 10 + 1,none⟩ (.int .i64 r)) w.heap.size #[.slice (some ⟨rb,0,none⟩) q rc] 61):=Lib.hid (hW1R.other hRb)
    have HI2:Hid ((w1.setCell ⟨b,n * 10 + 1,none⟩ (.int .i64 r)).ownsRow w.heap.size 3 1 (.slice (some ⟨rb,0,none⟩) q rc) q (intsV st2.reverse)):=Lib.hid (row_setOther hW1I hbC1 (by decide))
    have HK2:Hid (Kp (K1 b) w (w1.setCell ⟨b,n * 10 + 1,none⟩ (.int .i64 r))):=Lib.hid (kp_set1 hW1K _ _)
    clear hW1R hW1N hW1I hW1K hbC hbC1 HN HR HI9 HK
    rcases hop with hop | hop
    ·have t1:(x.op == 1)=false:=by rw [hop]; rfl
     have t2:(x.op == 17)=false:=by rw [hop]; rfl
     have t3:(x.op == 4)=true:=by rw [hop]; rfl
     clear hop
     go_wp2_with fail
     refine HPOP.out.mono ?_
     rintro e w5 ⟨rfl,rfl⟩
     go_upto_region 15 with fail
     generalize hW2:w5.setCell ⟨b,n * 10 + 1,none⟩ (.int .i64 r)=w2 at HN2 HR2 HI2 HK2 ⊢
     clear hW2
     obtain ⟨ra,hra⟩:∃ ra:Option Addr,ra=some ⟨rb,0,none⟩:=⟨_,rfl⟩
     rw [← hra] at HR2 HI2
     clear hra
     have r0:w2.cell? ⟨w.heap.size,0,none⟩=some (.slice ra q rc):=by rw [cell_of_row _ _ 0 _ _ _ HR2.out]; rfl
     have rf0:w2.frozen? ⟨w.heap.size,0,none⟩=false:=frozen_of_row _ _ 0 _ _ HR2.out
     have hrl:w.heap.size < w2.heap.size:=HR2.out.lt
     go_wp2_with (at_builtin; refine wpList_append_own _ rfl _ _ 61 rfl w.heap.size 3 i0 _ 1 8 Tryz.underlying61 HI.out HZ0.out HZ1.out HZ2.out rfl (by decide) _ _ _ rfl (ownsRow_heap HI2.out (fun g hc=>heap_alloc_old _ _ hc.lt)) ⟨w2.heap.size,0,none⟩ 1 1 [.int .i64 (n:Nat)] rfl rfl ?k1 ?k2 ?k3 ?k4 ?k5 ?_)
     case k1=>exact cs_new _ _ _
     case k2=>intro u hu; rw [List.mem_singleton] at hu; subst hu; rfl
     case k3=>unfold maxLen; omega
     case k4=>omega
     case k5=>simp; omega
     intro v9 w9 hown9 hgrow9 _
     have hOW9:(w2.alloc (.cells #[.int .i64 (n:Nat)] 3)).ownsRow w.heap.size 3 1 (.slice ra q rc) q (intsV (st2).reverse):=ownsRow_heap HI2.out (fun g hc=>heap_alloc_old _ _ hc.lt)
     have hKU9:=KU.grown hOW9 hgrow9
     have HR9:Hid (Ho w9 w.heap.size #[.slice ra q rc] 61):=Lib.hid ((HR2.out.alloc (.cells #[.int .i64 (n:Nat)] 3)).ku hKU9 (by decide))
     have HN9:Hid (w9.ownsRow B 58 10 (.slice (some ⟨b,0,none⟩) L.length c) L.length (exCs (l.set n ⟨x.op,r,x.b,x.n,x.v,x.l,x.c⟩))):=Lib.hid (ownsRow_heap (ownsRow_heap HN2.out (fun g hc=>heap_alloc_old _ (.cells #[.int .i64 (n:Nat)] 3) hc.lt)) (fun g hc=>hKU9.kept hc (by decide)))
     have HK9:Hid (Kp (K1 b) w w9):=Lib.hid (kp_grown_new (HK2.out.alloc _) hgrow9 (fun j hj=>(hOW9.lt j hj).1))
     obtain ⟨ra9,rc9,rfl⟩:=cs_own hown9
     have HI9b:Hid (w9.ownsRow w.heap.size 3 1 (.slice ra9 (q + 1) rc9) (q + 1) (intsV ((n:Int) :: st2).reverse)):=Lib.hid (by rw [ints_push]; exact hown9)
     have r9:w9.cell? ⟨w.heap.size,0,none⟩=some (.slice ra q rc):=by rw [cell_of_row _ _ 0 _ _ _ HR9.out]; rfl
     have rf9:w9.frozen? ⟨w.heap.size,0,none⟩=false:=frozen_of_row _ _ 0 _ _ HR9.out
     have hrl9:w.heap.size < w9.heap.size:=HR9.out.lt
     have HREL:Hid (LS L (n + 1) (l.set n ⟨x.op,r,x.b,x.n,x.v,x.l,x.c⟩) ((n:Int) :: st2) ∧ (w9.setCell ⟨w.heap.size,0,none⟩ (.slice ra9 (q + 1) rc9)).ownsRow B 58 10 (.slice (some ⟨b,0,none⟩) L.length c) L.length (exCs (l.set n ⟨x.op,r,x.b,x.n,x.v,x.l,x.c⟩)) ∧ Ho (w9.setCell ⟨w.heap.size,0,none⟩ (.slice ra9 (q + 1) rc9)) w.heap.size #[.slice ra9 (q + 1) rc9] 61 ∧ (w9.setCell ⟨w.heap.size,0,none⟩ (.slice ra9 (q + 1) rc9)).ownsRow w.heap.size 3 1 (.slice ra9 (q + 1) rc9) ((n:Int) :: st2).length (intsV ((n:Int) :: st2).reverse) ∧ Kp (K1 b) w (w9.setCell ⟨w.heap.size,0,none⟩ (.slice ra9 (q + 1) rc9))):=Lib.hid ⟨HSTEP.out,row_setOther HN9.out HR9.out.cblk (by decide),Ho.set HR9.out rfl,by rw [List.length_cons,← HQ.out]; exact row_setOther HI9b.out HR9.out.cblk (by decide),par_setNew HK9.out (Nat.le_refl _) _⟩
     clear hown9 hgrow9 hOW9 hKU9
     go_wp2_with fail
     go_roundw
     case rel=>exact ⟨n + 1,l.set n ⟨x.op,r,x.b,x.n,x.v,x.l,x.c⟩,(n:Int) :: st2,.slice ra9 (q + 1) rc9,by go_num,Lib.hid HREL.out.1,Lib.hid HREL.out.2.1,Lib.hid HREL.out.2.2.1,Lib.hid HREL.out.2.2.2.1,Lib.hid HREL.out.2.2.2.2⟩
     case measure=>simp [intOf] <;> omega
    ·have t1:(x.op == 1)=false:=by rw [hop]; rfl
     have t2:(x.op == 17)=false:=by rw [hop]; rfl
     have t3:(x.op == 4)=false:=by rw [hop]; rfl
     have t4:(x.op == 5)=true:=by rw [hop]; rfl
     clear hop
     go_wp2_with fail
     refine HPOP.out.mono ?_
     rintro e w5 ⟨rfl,rfl⟩
     go_upto_region 15 with fail
     generalize hW2:w5.setCell ⟨b,n * 10 + 1,none⟩ (.int .i64 r)=w2 at HN2 HR2 HI2 HK2 ⊢
     clear hW2
     obtain ⟨ra,hra⟩:∃ ra:Option Addr,ra=some ⟨rb,0,none⟩:=⟨_,rfl⟩
     rw [← hra] at HR2 HI2
     clear hra
     have r0:w2.cell? ⟨w.heap.size,0,none⟩=some (.slice ra q rc):=by rw [cell_of_row _ _ 0 _ _ _ HR2.out]; rfl
     have rf0:w2.frozen? ⟨w.heap.size,0,none⟩=false:=frozen_of_row _ _ 0 _ _ HR2.out
     have hrl:w.heap.size < w2.heap.size:=HR2.out.lt
     go_wp2_with (at_builtin; refine wpList_append_own _ rfl _ _ 61 rfl w.heap.size 3 i0 _ 1 8 Tryz.underlying61 HI.out HZ0.out HZ1.out HZ2.out rfl (by decide) _ _ _ rfl (ownsRow_heap HI2.out (fun g hc=>heap_alloc_old _ _ hc.lt)) ⟨w2.heap.size,0,none⟩ 1 1 [.int .i64 (n:Nat)] rfl rfl ?k1 ?k2 ?k3 ?k4 ?k5 ?_)
     case k1=>exact cs_new _ _ _
     case k2=>intro u hu; rw [List.mem_singleton] at hu; subst hu; rfl
     case k3=>unfold maxLen; omega
     case k4=>omega
     case k5=>simp; omega
     intro v9 w9 hown9 hgrow9 _
     have hOW9:(w2.alloc (.cells #[.int .i64 (n:Nat)] 3)).ownsRow w.heap.size 3 1 (.slice ra q rc) q (intsV (st2).reverse):=ownsRow_heap HI2.out (fun g hc=>heap_alloc_old _ _ hc.lt)
     have hKU9:=KU.grown hOW9 hgrow9
     have HR9:Hid (Ho w9 w.heap.size #[.slice ra q rc] 61):=Lib.hid ((HR2.out.alloc (.cells #[.int .i64 (n:Nat)] 3)).ku hKU9 (by decide))
     have HN9:Hid (w9.ownsRow B 58 10 (.slice (some ⟨b,0,none⟩) L.length c) L.length (exCs (l.set n ⟨x.op,r,x.b,x.n,x.v,x.l,x.c⟩))):=Lib.hid (ownsRow_heap (ownsRow_heap HN2.out (fun g hc=>heap_alloc_old _ (.cells #[.int .i64 (n:Nat)] 3) hc.lt)) (fun g hc=>hKU9.kept hc (by decide)))
     have HK9:Hid (Kp (K1 b) w w9):=Lib.hid (kp_grown_new (HK2.out.alloc _) hgrow9 (fun j hj=>(hOW9.lt j hj).1))
     obtain ⟨ra9,rc9,rfl⟩:=cs_own hown9
     have HI9b:Hid (w9.ownsRow w.heap.size 3 1 (.slice ra9 (q + 1) rc9) (q + 1) (intsV ((n:Int) :: st2).reverse)):=Lib.hid (by rw [ints_push]; exact hown9)
     have r9:w9.cell? ⟨w.heap.size,0,none⟩=some (.slice ra q rc):=by rw [cell_of_row _ _ 0 _ _ _ HR9.out]; rfl
     have rf9:w9.frozen? ⟨w.heap.size,0,none⟩=false:=frozen_of_row _ _ 0 _ _ HR9.out
     have hrl9:w.heap.size < w9.heap.size:=HR9.out.lt
     have HREL:Hid (LS L (n + 1) (l.set n ⟨x.op,r,x.b,x.n,x.v,x.l,x.c⟩) ((n:Int) :: st2) ∧ (w9.setCell ⟨w.heap.size,0,none⟩ (.slice ra9 (q + 1) rc9)).ownsRow B 58 10 (.slice (some ⟨b,0,none⟩) L.length c) L.length (exCs (l.set n ⟨x.op,r,x.b,x.n,x.v,x.l,x.c⟩)) ∧ Ho (w9.setCell ⟨w.heap.size,0,none⟩ (.slice ra9 (q + 1) rc9)) w.heap.size #[.slice ra9 (q + 1) rc9] 61 ∧ (w9.setCell ⟨w.heap.size,0,none⟩ (.slice ra9 (q + 1) rc9)).ownsRow w.heap.size 3 1 (.slice ra9 (q + 1) rc9) ((n:Int) :: st2).length (intsV ((n:Int) :: st2).reverse) ∧ Kp (K1 b) w (w9.setCell ⟨w.heap.size,0,none⟩ (.slice ra9 (q + 1) rc9))):=Lib.hid ⟨HSTEP.out,row_setOther HN9.out HR9.out.cblk (by decide),Ho.set HR9.out rfl,by rw [List.length_cons,← HQ.out]; exact row_setOther HI9b.out HR9.out.cblk (by decide),par_setNew HK9.out (Nat.le_refl _) _⟩
     clear hown9 hgrow9 hOW9 hKU9
     go_wp2_with fail
     go_roundw
     case rel=>exact ⟨n + 1,l.set n ⟨x.op,r,x.b,x.n,x.v,x.l,x.c⟩,(n:Int) :: st2,.slice ra9 (q + 1) rc9,by go_num,Lib.hid HREL.out.1,Lib.hid HREL.out.2.1,Lib.hid HREL.out.2.2.1,Lib.hid HREL.out.2.2.2.1,Lib.hid HREL.out.2.2.2.2⟩
     case measure=>simp [intOf] <;> omega
   ·obtain ⟨r,s,st2,rfl⟩:∃ r s st2,st=r :: s :: st2:=by
     cases st with
     | nil=>simp at hst2
     | cons r s =>
      cases s with
      | nil=>simp at hst2
      | cons s st2=>exact ⟨r,s,st2,rfl⟩
    have hSt:stepL 0 x n (r :: s :: st2)=(⟨x.op,s,r,x.n,x.v,x.l,x.c⟩,(n:Int) :: st2):=by unfold stepL; rw [if_neg hop1,if_neg hop4]; rfl
    rw [hSt] at hstep
    have HSTEP:=Lib.hid hstep
    obtain ⟨q,hq⟩:∃ q,q=st2.length:=⟨_,rfl⟩
    have HQ:=Lib.hid hq
    have hI:=HI9.out
    rw [List.length_cons,List.length_cons,← hq] at hI
    obtain ⟨rb,rc,rfl,hrbB,hrbC⟩:=row_block hI (Nat.succ_ne_zero (q + 1))
    have hqn:q + 1 + 1 ≤ 1000000:=by have:=HST.out; rw [List.length_cons,List.length_cons,← hq] at this; omega
    have htop:=ints_top (s :: st2) r
    rw [List.length_cons,← hq] at htop
    obtain ⟨d0,_,hrbl,hrcc,hrcm⟩:=row_cell hI htop
    have hI2:=row_take hI (Nat.le_succ (q + 1)) (by simp)
    have hpp:=ints_pop (s :: st2) r
    rw [List.length_cons,← hq] at hpp
    rw [hpp] at hI2
    have HPOP:=Lib.hid (pop_calls w.heap.size rb (q + 1) rc r wr HR.out d0 (by omega) (by omega) hrcm hrbl)
    have hW1R:Ho (wr.setCell ⟨w.heap.size,0,none⟩ (.slice (some ⟨rb,0,none⟩) (q + 1) rc)) w.heap.size #[.slice (some ⟨rb,0,none⟩) (q + 1) rc] 61:=Ho.set HR.out rfl
    have hW1N:=row_setOther (o:=0) (u:=.slice (some ⟨rb,0,none⟩) (q + 1) rc) HN.out HR.out.cblk (by decide)
    have hW1I:=row_setOther (o:=0) (u:=.slice (some ⟨rb,0,none⟩) (q + 1) rc) hI2 HR.out.cblk (by decide)
    have hW1K:=par_setNew (o:=0) HK.out (Nat.le_refl _) (.slice (some ⟨rb,0,none⟩) (q + 1) rc)
    have hbR:¬ b=w.heap.size:=by omega
    have hRb:¬ w.heap.size=b:=by omega
    have hbb:b < (wr.setCell ⟨w.heap.size,0,none⟩ (.slice (some ⟨rb,0,none⟩) (q + 1) rc)).heap.size:=by simp; exact hb0
    clear hstep hSt hq htop hpp hI hI2 hrbC d0 c1 f1 c2 f2
    generalize hW1:wr.setCell ⟨w.heap.size,0,none⟩ (.slice (some ⟨rb,0,none⟩) (q + 1) rc)=w1 at HPOP hW1R hW1N hW1I hW1K hbb
    clear hW1
    obtain ⟨c2,f2,_,_,_⟩:=row_cell hW1N (exCs_at HXL.out (show 2 < 10 by omega) |>.trans rfl)
    have hbC1:=CBlk.row hW1N rfl
    have hXL2:(l.set n ⟨x.op,x.a,r,x.n,x.v,x.l,x.c⟩)[n]? = some ⟨x.op,x.a,r,x.n,x.v,x.l,x.c⟩:=by
     rw [List.getElem?_set_self]
     exact (List.getElem?_eq_some_iff.1 HXL.out).1
    have hN2:(w1.setCell ⟨b,n * 10 + 2,none⟩ (.int .i64 r)).ownsRow B 58 10 (.slice (some ⟨b,0,none⟩) L.length c) L.length (exCs (l.set n ⟨x.op,x.a,r,x.n,x.v,x.l,x.c⟩)):=by rw [← exCs_set l n 2 x ⟨x.op,x.a,r,x.n,x.v,x.l,x.c⟩ (.int .i64 r) HXL.out (by omega) rfl]; exact row_set hW1N
    have hR2:Ho (w1.setCell ⟨b,n * 10 + 2,none⟩ (.int .i64 r)) w.heap.size #[.slice (some ⟨rb,0,none⟩) (q + 1) rc] 61:=hW1R.other hRb
    have hI2:(w1.setCell ⟨b,n * 10 + 2,none⟩ (.int .i64 r)).ownsRow w.heap.size 3 1 (.slice (some ⟨rb,0,none⟩) (q + 1) rc) (q + 1) (intsV (s :: st2).reverse):=row_setOther hW1I hbC1 (by decide)
    have hK2:Kp (K1 b) w (w1.setCell ⟨b,n * 10 + 2,none⟩ (.int .i64 r)):=kp_set1 hW1K _ _
    have htop:=ints_top st2 s
    rw [← HQ.out] at htop
    obtain ⟨d1,_,hrbl2,hrcc2,hrcm2⟩:=row_cell hI2 htop
    have HPOP2:=Lib.hid (pop_calls w.heap.size rb q rc s _ hR2 d1 (by omega) (by omega) hrcm2 hrbl2)
    have hI3:=row_take hI2 (Nat.le_succ q) (by simp)
    have hpp:=ints_pop st2 s
    rw [← HQ.out] at hpp
    rw [hpp] at hI3
    have hW3R:Ho ((w1.setCell ⟨b,n * 10 + 2,none⟩ (.int .i64 r)).setCell ⟨w.heap.size,0,none⟩ (.slice (some ⟨rb,0,none⟩) q rc)) w.heap.size #[.slice (some ⟨rb,0,none⟩) q rc] 61:=Ho.set hR2 rfl
    have hW3N:=row_setOther (o:=0) (u:=.slice (some ⟨rb,0,none⟩) q rc) hN2 hR2.cblk (by decide)
    have hW3I:=row_setOther (o:=0) (u:=.slice (some ⟨rb,0,none⟩) q rc) hI3 hR2.cblk (by decide)
    have hW3K:=par_setNew (o:=0) hK2 (Nat.le_refl _) (.slice (some ⟨rb,0,none⟩) q rc)
    have hbb3:b < ((w1.setCell ⟨b,n * 10 + 2,none⟩ (.int .i64 r)).setCell ⟨w.heap.size,0,none⟩ (.slice (some ⟨rb,0,none⟩) q rc)).heap.size:=by simp; exact hbb
    clear hW1R hW1N hW1I hW1K hbC1 HN HR HI9 HK hN2 hR2 hI2 hK2 htop d1 hI3 hpp
    obtain ⟨w3,hW3⟩:∃ w3,w3=(w1.setCell ⟨b,n * 10 + 2,none⟩ (.int .i64 r)).setCell ⟨w.heap.size,0,none⟩ (.slice (some ⟨rb,0,none⟩) q rc):=⟨_,rfl⟩
    rw [← hW3] at HPOP2 hW3R hW3N hW3I hW3K hbb3
    have HW3:=Lib.hid hW3
    clear hW3
    obtain ⟨c1,f1,_,_,_⟩:=row_cell hW3N (exCs_at hXL2 (show 1 < 10 by omega) |>.trans rfl)
    have hbC3:=CBlk.row hW3N rfl
    have HN2:Hid ((w3.setCell ⟨b,n * 10 + 1,none⟩ (.int .i64 s)).ownsRow B 58 10 (.slice (some ⟨b,0,none⟩) L.length c) L.length (exCs (l.set n ⟨x.op,s,r,x.n,x.v,x.l,x.c⟩))):=Lib.hid (by
     have e:=exCs_set (l.set n ⟨x.op,x.a,r,x.n,x.v,x.l,x.c⟩) n 1 ⟨x.op,x.a,r,x.n,x.v,x.l,x.c⟩ ⟨x.op,s,r,x.n,x.v,x.l,x.c⟩ (.int .i64 s) hXL2 (by omega) rfl
     rw [List.set_set] at e
     rw [← e]
     exact row_set hW3N)
    have HR2:Hid (Ho (w3.setCell ⟨b,n * 10 + 1,none⟩ (.int .i64 s)) w.heap.size #[.slice (some ⟨rb,0,none⟩) q rc] 61):=Lib.hid (hW3R.other hRb)
    have HI2:Hid ((w3.setCell ⟨b,n * 10 + 1,none⟩ (.int .i64 s)).ownsRow w.heap.size 3 1 (.slice (some ⟨rb,0,none⟩) q rc) q (intsV st2.reverse)):=Lib.hid (row_setOther hW3I hbC3 (by decide))
    have HK2:Hid (Kp (K1 b) w (w3.setCell ⟨b,n * 10 + 1,none⟩ (.int .i64 s))):=Lib.hid (kp_set1 hW3K _ _)
    have hqn2:q ≤ 1000000:=by omega
    clear hW3R hW3N hW3I hW3K hbC3 hXL2 hqn
    have t1:(x.op == 1)=false:=by rw [beq_eq_false_iff_ne]; omega
    have t2:(x.op == 17)=false:=by rw [beq_eq_false_iff_ne]; omega
    have t3:(x.op == 4)=false:=by rw [beq_eq_false_iff_ne]; omega
    have t4:(x.op == 5)=false:=by rw [beq_eq_false_iff_ne]; omega
    clear hop1 hop4 hst2
    go_wp2_with fail
    refine HPOP.out.mono ?_
    rintro e w5 ⟨rfl,h5⟩
    subst h5
    go_wp2_with fail
    refine HPOP2.out.mono ?_
    rintro e w6 ⟨rfl,h6⟩
    subst h6
    go_upto_region 15 with fail
    generalize hW2:w6.setCell ⟨b,n * 10 + 1,none⟩ (.int .i64 s)=w2 at HN2 HR2 HI2 HK2 ⊢
    clear hW2
    obtain ⟨ra,hra⟩:∃ ra:Option Addr,ra=some ⟨rb,0,none⟩:=⟨_,rfl⟩
    rw [← hra] at HR2 HI2
    clear hra
    have r0:w2.cell? ⟨w.heap.size,0,none⟩=some (.slice ra q rc):=by rw [cell_of_row _ _ 0 _ _ _ HR2.out]; rfl
    have rf0:w2.frozen? ⟨w.heap.size,0,none⟩=false:=frozen_of_row _ _ 0 _ _ HR2.out
    have hrl:w.heap.size < w2.heap.size:=HR2.out.lt
    go_wp2_with (at_builtin; refine wpList_append_own _ rfl _ _ 61 rfl w.heap.size 3 i0 _ 1 8 Tryz.underlying61 HI.out HZ0.out HZ1.out HZ2.out rfl (by decide) _ _ _ rfl (ownsRow_heap HI2.out (fun g hc=>heap_alloc_old _ _ hc.lt)) ⟨w2.heap.size,0,none⟩ 1 1 [.int .i64 (n:Nat)] rfl rfl ?k1 ?k2 ?k3 ?k4 ?k5 ?_)
    case k1=>exact cs_new _ _ _
    case k2=>intro u hu; rw [List.mem_singleton] at hu; subst hu; rfl
    case k3=>unfold maxLen; omega
    case k4=>omega
    case k5=>simp; omega
    intro v9 w9 hown9 hgrow9 _
    have hOW9:(w2.alloc (.cells #[.int .i64 (n:Nat)] 3)).ownsRow w.heap.size 3 1 (.slice ra q rc) q (intsV (st2).reverse):=ownsRow_heap HI2.out (fun g hc=>heap_alloc_old _ _ hc.lt)
    have hKU9:=KU.grown hOW9 hgrow9
    have HR9:Hid (Ho w9 w.heap.size #[.slice ra q rc] 61):=Lib.hid ((HR2.out.alloc (.cells #[.int .i64 (n:Nat)] 3)).ku hKU9 (by decide))
    have HN9:Hid (w9.ownsRow B 58 10 (.slice (some ⟨b,0,none⟩) L.length c) L.length (exCs (l.set n ⟨x.op,s,r,x.n,x.v,x.l,x.c⟩))):=Lib.hid (ownsRow_heap (ownsRow_heap HN2.out (fun g hc=>heap_alloc_old _ (.cells #[.int .i64 (n:Nat)] 3) hc.lt)) (fun g hc=>hKU9.kept hc (by decide)))
    have HK9:Hid (Kp (K1 b) w w9):=Lib.hid (kp_grown_new (HK2.out.alloc _) hgrow9 (fun j hj=>(hOW9.lt j hj).1))
    obtain ⟨ra9,rc9,rfl⟩:=cs_own hown9
    have HI9b:Hid (w9.ownsRow w.heap.size 3 1 (.slice ra9 (q + 1) rc9) (q + 1) (intsV ((n:Int) :: st2).reverse)):=Lib.hid (by rw [ints_push]; exact hown9)
    have r9:w9.cell? ⟨w.heap.size,0,none⟩=some (.slice ra q rc):=by rw [cell_of_row _ _ 0 _ _ _ HR9.out]; rfl
    have rf9:w9.frozen? ⟨w.heap.size,0,none⟩=false:=frozen_of_row _ _ 0 _ _ HR9.out
    have hrl9:w.heap.size < w9.heap.size:=HR9.out.lt
    have HREL:Hid (LS L (n + 1) (l.set n ⟨x.op,s,r,x.n,x.v,x.l,x.c⟩) ((n:Int) :: st2) ∧ (w9.setCell ⟨w.heap.size,0,none⟩ (.slice ra9 (q + 1) rc9)).ownsRow B 58 10 (.slice (some ⟨b,0,none⟩) L.length c) L.length (exCs (l.set n ⟨x.op,s,r,x.n,x.v,x.l,x.c⟩)) ∧ Ho (w9.setCell ⟨w.heap.size,0,none⟩ (.slice ra9 (q + 1) rc9)) w.heap.size #[.slice ra9 (q + 1) rc9] 61 ∧ (w9.setCell ⟨w.heap.size,0,none⟩ (.slice ra9 (q + 1) rc9)).ownsRow w.heap.size 3 1 (.slice ra9 (q + 1) rc9) ((n:Int) :: st2).length (intsV ((n:Int) :: st2).reverse) ∧ Kp (K1 b) w (w9.setCell ⟨w.heap.size,0,none⟩ (.slice ra9 (q + 1) rc9))):=Lib.hid ⟨HSTEP.out,row_setOther HN9.out HR9.out.cblk (by decide),Ho.set HR9.out rfl,by rw [List.length_cons,← HQ.out]; exact row_setOther HI9b.out HR9.out.cblk (by decide),par_setNew HK9.out (Nat.le_refl _) _⟩
    clear hown9 hgrow9 hOW9 hKU9
    go_wp2_with fail
    go_roundw
    case rel=>exact ⟨n + 1,l.set n ⟨x.op,s,r,x.n,x.v,x.l,x.c⟩,(n:Int) :: st2,.slice ra9 (q + 1) rc9,by go_num,Lib.hid HREL.out.1,Lib.hid HREL.out.2.1,Lib.hid HREL.out.2.2.1,Lib.hid HREL.out.2.2.2.1,Lib.hid HREL.out.2.2.2.2⟩
    case measure=>simp [intOf] <;> omega
end Go.Proofs.YtiafhfchjhffhaaGreatDoor
