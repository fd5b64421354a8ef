/- paclaim: ValData NumText QuoteBuild QuoteWrite QuoteQuote ValRight ValText -/
import Derived.Test.YtiafhfchjhffhaaGreatDoorLowValR
import Derived.Test.YtiafhfchjhffhaaGreatDoorLowNum
import Derived.Test.YtiafhfchjhffhaaGreatDoorLowQuo
import Derived.Test.YtiafhfchjhffhaaGreatDoorBase
import Derived.Test.YtiafhfchjhffhaaGreatDoorLowMath
import Derived.RegionTactic
import Derived.Deep.QuietTactic
import Derived.BigQuiet
import Derived.Test.YtiafhfchjhffhaaGreatDoorShelfText
import Derived.Lib.AppendIntMem
import Derived.Lib.LaidTab
import Derived.LaidMore
import Derived.Stop.Joined
import Derived.Stop.LaidErr
import Derived.ProofKit
import Derived.OwnWalk
import Derived.BigRegion
import Derived.Test.YtiafhfchjhffhaaGreatDoorLowVal
namespace Go.Proofs.YtiafhfchjhffhaaGreatDoor
open Go.RowKit
set_option linter.unusedVariables false
def Laid (w:World):Prop:=(Tab w ∧ ∃ a,ErrR w a) ∧ Esc w
theorem Laid.below {w w':World} (h:Laid w) (hb:Below w.heap.size w w'):Laid w':=by
 obtain ⟨⟨h1,a,h2⟩,h3⟩:=h
 exact ⟨⟨tab_below h1 hb,a,errR_below h2 hb⟩,esc_below h3 (var_lt gEsc h3) hb⟩
def tru:List UInt8:=[116,114,117,101]
def fls:List UInt8:=[102,97,108,115,101]
def valText (k i:Int) (s:ByteArray) (b:Bool):List UInt8 :=
 if rightB k i s b=true then (if k=1 then Lib.itoa i else if k=2 then quoteL s.data.toList else if b=true then tru else fls) else []
structure PVal where
 (k i:Int) (s:List UInt8) (b:Bool) (e:Int)
def PVal.val (p:PVal):Value:=.tuple #[.agg #[.int .i64 p.k,.int .i64 p.i,.string ⟨p.s.toArray⟩,.bool p.b],.int .i64 p.e]
set_option maxHeartbeats 400000 in
theorem text_calls (n:Int) (w:World) (hn:-9223372036854775808 ≤ n ∧ n ≤ 9223372036854775807) (htab:Tab w) :
  Calls Tryz.prog 102 #[.int .i64 n] w fun e w'=>e=.returned (.string ⟨(Lib.itoa n).toArray⟩) ∧ Below w.heap.size w w':=by
 have H:=Lib.hid htab
 clear htab
 go_enter Tryz.func102,Tryz.ntmps102
 go_wp2_with (go_at_call 172; refine (Tryz.strconv_FormatInt_10 n hn.1 hn.2 _ H.out).mono ?_; rintro e w' ⟨rfl,k,os,rfl⟩)
 go_ret
 exact ⟨rfl,Lib.below_grow _ _ (Nat.le_refl _) _ _⟩
theorem grow_calls (B b n:Nat) (w:World) (hB:B ≤ b) (h:w.heap[b]? = some (.cells #[.pointer none,.slice none 0 0] 72 (0,0))) (hBw:B ≤ w.heap.size) (hn:n ≤ 281474976710656) :
  Calls Tryz.prog 101 #[.pointer (some ⟨b,0,none⟩),.int .i64 n] w fun e w'=>e=.returned (.tuple #[]) ∧ MayB B b [] w' ∧ Below B w w':=by
 refine (Tryz.Builder_Grow_fresh B b n w hB h hBw hn).mono ?_
 rintro e w' ⟨rfl,h1,h2⟩
 exact ⟨rfl,.inr (Lib.BuilderAtF.of h1),h2⟩
set_option maxHeartbeats 1000000 in
theorem write2_calls (B b q:Nat) (l:List UInt8) (c d:UInt8) (w:World) (h:IsB B b l w) (hlen:l.length + 2 ≤ 140737488355328) (hBw:B ≤ w.heap.size)
  (hc:w.cell? ⟨q,0,none⟩=some (.int .u8 c.toNat)) (hd:w.cell? ⟨q,1,none⟩=some (.int .u8 d.toNat)) :
  Calls Tryz.prog 219 #[.pointer (some ⟨b,0,none⟩),.slice (some ⟨q,0,none⟩) 2 2] w fun e w'=>e=.returned (.tuple #[.int .i64 2,.nilIface]) ∧ IsB B b (l ++ [c,d]) w' ∧ Below B w w':=by
 obtain ⟨i0,hi,hz0,hz1,hz2⟩:=info_parts infoByte
 have HC:=Lib.hid ((Any.Builder_copyCheck_used { Tryz.lays167 with } Tryz.Builder_Extra_167.toX72 b w (Lib.BuilderAtF.cell0 h)).mono fun e w' (k:e=.returned (.tuple #[]) ∧ w'=w)=>(⟨k.1,k.2.symm⟩:e=.returned (.tuple #[]) ∧ w=w'))
 have H:=Lib.hid h
 have HCc:=Lib.hid hc
 have HCd:=Lib.hid hd
 obtain ⟨hB,v,hbk,hown,hne⟩:=h
 rw [Lib.byteCells_length] at hown
 have c1:w.cell? ⟨b,1,none⟩=some v:=by rw [Lib.cell_of_heap hbk]; rfl
 have HI:=Lib.hid hi
 have HZ0:=Lib.hid hz0
 have HZ1:=Lib.hid hz1
 have HZ2:=Lib.hid hz2
 have HBK:=Lib.hid hbk
 have HNE:=Lib.hid hne
 have HOWN:=Lib.hid hown
 clear hi hz0 hz1 hz2 hbk hne hown hc hd
 go_enter Tryz.func219,Tryz.ntmps219
 go_wp2_with fail
 refine HC.out.mono ?_
 rintro e w' ⟨rfl,rfl⟩
 go_wp2_with (at_builtin; refine wpList_append_ownF _ rfl _ _ 70 rfl B 5 i0 (.int .u8 0) 1 1 Tryz.underlying70 HI.out HZ0.out HZ1.out HZ2.out rfl (by decide) _ _ _ rfl HOWN.out ⟨q,0,none⟩ 2 2 [.int .u8 c.toNat,.int .u8 d.toNat] rfl rfl ?c1 ?c2 ?c3 ?c4 ?c5 ?_)
 case c1 =>
  intro j u hj
  match j,hj with
  | 0,hj=>simp at hj; subst hj; simpa [Addr.add] using HCc.out
  | 1,hj=>simp at hj; subst hj; simpa [Addr.add] using HCd.out
 case c2=>intro u hu; simp at hu; rcases hu with rfl | rfl <;> rfl
 case c3=>unfold maxLen; omega
 case c4=>omega
 case c5=>omega
 intro v' w2 hown' hgrow _
 have hlt:b < w.heap.size:=Lib.BuilderAtF.lt H.out
 have hb2:w2.heap[b]? = some (.cells #[.pointer (some ⟨b,0,none⟩),v] 72 (0,0)):=by
  rw [hgrow.block b hlt (fun e=>HNE.out e.symm)]
  exact HBK.out
 have d0:w2.cell? ⟨b,0,none⟩=some (.pointer (some ⟨b,0,none⟩)):=by rw [Lib.cell_of_heap hb2]; rfl
 have d1:w2.cell? ⟨b,1,none⟩=some v:=by rw [Lib.cell_of_heap hb2]; rfl
 have f1:w2.frozen? ⟨b,1,none⟩=false:=Lib.frozen_of_heap hb2 1
 have HB2:=Lib.hid hb2
 obtain ⟨g,cap,rfl⟩:∃ g cap,v'=.slice (some ⟨g,0,none⟩) (l.length + 2) cap:=by
  rcases hown'.2 with ⟨_,h0⟩ | ⟨g,cap,cur,fz,hv,_⟩
  ·omega
  ·exact ⟨g,cap,hv⟩
 have HO':=Lib.hid hown'
 have HG:=Lib.hid hgrow
 clear hb2 hown' hgrow
 go_wp2
 go_ret2
 refine ⟨rfl,?_,?_⟩
 ·refine Lib.BuilderAtF.put (T:=72) (e:=5) hB HB2.out (bs':=Lib.byteCells (l ++ [c,d])) ?_ neB5
  rw [← cells_snoc2,List.length_append,Lib.byteCells_length]
  exact HO'.out
 ·exact ((Below.refl B w).grown HG.out hBw (fun k hk=>(HOWN.out.lt k hk).1)).setCell (p:=⟨b,1,none⟩) hB _
set_option maxHeartbeats 1000000 in
theorem writeChar_calls (B b:Nat) (l:List UInt8) (c:UInt8) (w:World) (h:IsB B b l w) (hlen:l.length + 4 ≤ 140737488355328) (hBw:B ≤ w.heap.size) (hE:Esc w) (hg:4 < B) :
  Calls Tryz.prog 174 #[.pointer (some ⟨b,0,none⟩),.int .u8 c.toNat] w fun e w'=>e=.returned (.tuple #[]) ∧ IsB B b (l ++ one c) w' ∧ Below B w w':=by
 have h1:=isPlain_calls c
 by_cases hp:plB c=true
 ·rw [one_plain c hp]
  rw [hp] at h1
  have H1:=Lib.hid h1
  have H2:=Lib.hid (writeByte_calls B b l c w h.may (by omega) hBw)
  clear h1 h hp hlen hBw hE hg
  go_enter Tryz.func174,Tryz.ntmps174
  go_wp2_with fail
  refine (H1.out _).mono ?_
  rintro e w' ⟨rfl,rfl⟩
  go_wp2_with fail
  refine H2.out.mono ?_
  rintro e w1 ⟨rfl,k1,k2⟩
  go_wp2_with fail
  refine bodyPost_ret (results_none rfl _ _ _) rfl ?_
  exact ⟨rfl,k1,k2⟩
 have hp':plB c=false:=by simpa using hp
 rw [hp'] at h1
 have H1:=Lib.hid h1
 have H2:=Lib.hid (writeByte_calls B b l 92 w h.may (by omega) hBw)
 have H3:=Lib.hid (fun w1 (k:Below B w w1)=>letterOf_calls c w1 (esc_below hE hg k))
 have H4:=Lib.hid (fun (m:List UInt8) (d:UInt8) w1 (k:IsB B b m w1) (j:m.length ≤ l.length + 2) (k2:Below B w w1)=>writeByte_calls B b m d w1 k.may (by omega) (Nat.le_trans hBw k2.size))
 by_cases hl:ltB c=true
 ·rw [one_lt c hl]
  clear h1 h hp hp' hlen hE hg
  have H3':=Lib.hid (fun w1 k=>by have:=H3.out w1 k; rw [hl] at this; exact this)
  clear H3 hl
  go_enter Tryz.func174,Tryz.ntmps174
  go_wp2_with fail
  refine (H1.out _).mono ?_
  rintro e w' ⟨rfl,rfl⟩
  go_wp2_with fail
  refine H2.out.mono ?_
  rintro e w1 ⟨rfl,k1,k2⟩
  go_wp2_with fail
  refine (H3'.out _ k2).mono ?_
  rintro e w2 ⟨rfl,k3⟩
  have k4:Below B w w2:=k2.trans (k3.mono (Nat.le_trans hBw k2.size))
  have k5:IsB B b (l ++ [92]) w2:=k1.below k3
  clear k1 k2 k3
  go_wp2_with fail
  refine (H4.out _ _ _ k5 (by simp) k4).mono ?_
  rintro e w3 ⟨rfl,k6,k7⟩
  go_wp2_with fail
  refine bodyPost_ret (results_none rfl _ _ _) rfl ?_
  exact ⟨rfl,by simpa using k6,k4.trans k7⟩
 ·have hl':ltB c=false:=by simpa using hl
  rw [one_hex c hp' hl']
  obtain ⟨d1,e1⟩:∃ d,d=hx (c.toNat / 16):=⟨_,rfl⟩
  obtain ⟨d2,e2⟩:∃ d,d=hx (c.toNat % 16):=⟨_,rfl⟩
  rw [← e1,← e2]
  have H5:=Lib.hid (fun q m w1 (k:IsB B b m w1) (j:m.length ≤ l.length + 2) (k2:Below B w w1) hc hd=>write2_calls B b q m d1 d2 w1 k (by omega) (Nat.le_trans hBw k2.size) hc hd)
  have H3':=Lib.hid (fun w1 k=>by have:=H3.out w1 k; rw [hl'] at this; exact this)
  have H6:=Lib.hid (fun q x y (m:List UInt8) w1 (k:IsB B b m w1) (j:m.length ≤ l.length + 2) (k2:Below B w w1) hq hqb=>writeByteK_calls B b m 120 w1 k.may (by omega) (Nat.le_trans hBw k2.size) q x y hq hqb)
  have hb:=bits_and c
  have i1:=hex_index (c.toNat / 16) (by have:c.toNat < 256:=c.toNat_lt; omega)
  have i2:=hex_index (c.toNat % 16) (by omega)
  rw [← e1,show (((c.toNat / 16:Nat)):Int)=(c.toNat:Int) / 16 by omega] at i1
  rw [← e2,show (((c.toNat % 16:Nat)):Int)=(c.toNat:Int) % 16 by omega] at i2
  clear h1 h hp hp' hlen hE hg H3 hl hl' e1 e2
  go_enter Tryz.func174,Tryz.ntmps174
  go_wp2_with fail
  refine (H1.out _).mono ?_
  rintro e w' ⟨rfl,rfl⟩
  go_wp2_with fail
  refine H2.out.mono ?_
  rintro e w1 ⟨rfl,k1,k2⟩
  go_wp2_with fail
  refine (H3'.out _ k2).mono ?_
  rintro e w2 ⟨rfl,k3⟩
  have k4:Below B w w2:=k2.trans (k3.mono (Nat.le_trans hBw k2.size))
  have k5:IsB B b (l ++ [92]) w2:=k1.below k3
  clear k1 k2 k3
  go_wp2_with fail
  go_region
  have hlt:b < w2.heap.size:=Lib.BuilderAtF.lt k5
  have ka:Below w2.heap.size w2 (w2.alloc (.cells #[.int .u8 d1.toNat,.int .u8 d2.toNat] 269)).drew:=((Below.refl _ w2).alloc (Nat.le_refl _) _).drew
  have k6:=k5.below ka
  have k7:Below B w (w2.alloc (.cells #[.int .u8 d1.toNat,.int .u8 d2.toNat] 269)).drew:=k4.trans (ka.mono (Nat.le_trans hBw k4.size))
  have hq:(w2.alloc (.cells #[.int .u8 d1.toNat,.int .u8 d2.toNat] 269)).drew.heap[w2.heap.size]? = some (.cells #[.int .u8 d1.toNat,.int .u8 d2.toNat] 269 (0,0)):=by
   show (w2.heap.push _)[w2.heap.size]? = _
   simp
  obtain ⟨q,hqe⟩:∃ q,q=w2.heap.size:=⟨_,rfl⟩
  obtain ⟨w3,hw3⟩:∃ w3,w3=(w2.alloc (.cells #[.int .u8 d1.toNat,.int .u8 d2.toNat] 269)).drew:=⟨_,rfl⟩
  rw [← hqe] at hq hlt ⊢
  rw [← hw3] at hq k6 k7 ⊢
  have HQ:=Lib.hid hq
  have hne:q ≠ b:=by omega
  clear hq hqe hw3 ka k4 k5 hlt
  go_wp2_with fail
  refine (H6.out q _ _ _ w3 k6 (by simp) k7 HQ.out hne).mono ?_
  rintro e w4 ⟨rfl,k8,k9,c1,c2⟩
  have k10:=k7.trans k9
  have C1:=Lib.hid c1
  have C2:=Lib.hid c2
  clear c1 c2 k6 k7 k9
  go_wp2_with fail
  refine (H5.out q _ _ k8 (by simp) k10 C1.out C2.out).mono ?_
  rintro e w5 ⟨rfl,k11,k12⟩
  go_wp2_with fail
  go_end0
  exact ⟨rfl,by simpa using k11,k10.trans k12⟩
set_option maxHeartbeats 1000000 in
theorem quote_calls (s:ByteArray) (w:World) (hs:s.size ≤ 4294967296) (hE:Esc w) :
  Calls Tryz.prog 103 #[.string s] w fun e w'=>e=.returned (.string ⟨(quoteL s.data.toList).toArray⟩) ∧ Below w.heap.size w w':=by
 obtain ⟨l,hl⟩:∃ l,l=s.data.toList:=⟨_,rfl⟩
 have hlen:s.size=l.length:=by rw [hl,ba_size]
 rw [← hl]
 have HL:=Lib.hid hl
 have HN:=Lib.hid hlen
 clear hl hlen
 have hg:=var_lt gEsc hE
 obtain ⟨B,hB⟩:∃ B,B=w.heap.size:=⟨_,rfl⟩
 have ha:Below B w (w.alloc (.cells #[.pointer none,.slice none 0 0] 72)):=by rw [hB]; exact (Below.refl _ w).alloc (Nat.le_refl _) _
 have hq:(w.alloc (.cells #[.pointer none,.slice none 0 0] 72)).heap[B]? = some (.cells #[.pointer none,.slice none 0 0] 72 (0,0)):=by
  rw [hB]; show (w.heap.push _)[w.heap.size]? = _
  simp
 have h1:=grow_calls B B (s.size + 2) _ (Nat.le_refl _) hq (by rw [hB]; simp) (by omega)
 rw [show ((s.size + 2:Nat):Int)=(s.size:Int) + 2 by omega] at h1
 have hBw:B ≤ w.heap.size:=by omega
 have HE:=Lib.hid hE
 have H1:=Lib.hid h1
 have H2:=Lib.hid (fun (m:List UInt8) (d:UInt8) w1 (k:MayB B B m w1) (j:m.length ≤ 281474976710) (k2:Below B w w1)=>writeByte_calls B B m d w1 k (by omega) (Nat.le_trans hBw k2.size))
 have H3:=Lib.hid (fun (m:List UInt8) (d:UInt8) w1 (k:IsB B B m w1) (j:m.length ≤ 281474976710) (k2:Below B w w1)=>writeChar_calls B B m d w1 k (by omega) (Nat.le_trans hBw k2.size) (esc_below hE (by omega) k2) (by omega))
 have H4:=Lib.hid (fun (m:List UInt8) w1 (k:IsB B B m w1) (k2:Below B w w1)=>string_calls B B m w1 k.may (Nat.le_trans hBw k2.size))
 have HB:=Lib.hid hB
 clear h1 hq hE hg hBw
 rw [← hB]
 go_enter Tryz.func103,Tryz.ntmps103
 go_wp2_with fail
 rw [← hB]
 clear hB
 refine H1.out.mono ?_
 rintro e w1 ⟨rfl,k1,k2⟩
 have k3:=ha.trans k2
 clear k2 ha
 go_wp2_with fail
 refine (H2.out _ 34 _ k1 (by simp) k3).mono ?_
 rintro e w2 ⟨rfl,k4,k5⟩
 have k6:=k3.trans k5
 clear k1 k3 k5
 go_wp2_with fail
 go_loopw [12] (fun i wr=>∃ (k:Nat) (m:List UInt8),k ≤ s.size ∧ i=.int .i64 k ∧ Hid (m=34 :: body (l.take k)) ∧ IsB B B m wr ∧ Below B w wr) (fun i _=>s.size - (intOf i).toNat)
 case atStart=>exact ⟨0,[34],Nat.zero_le _,rfl,Lib.hid rfl,k4,k6⟩
 case round =>
  clear k4 k6
  obtain ⟨k,m,hk,rfl,HM,k4,k6⟩:=hrel
  have hml:m.length ≤ 1 + 4 * k:=by
   rw [HM.out,List.length_cons]
   have:=(body_len (l.take k)).2
   have:(l.take k).length ≤ k:=List.length_take_le _ _
   omega
  by_cases hlt:k < s.size
  ·have hkl:k < l.length:=by rw [← HN.out]; exact hlt
   have HC:Hid (l[k]=s[k]):=Lib.hid (by
    have:=HL.out
    subst this
    rfl)
   go_wp2_with fail
   refine (H3.out _ s[k] _ k4 (by omega) k6).mono ?_
   rintro e w3 ⟨rfl,k7,k8⟩
   have k9:=k6.trans k8
   clear k4 k6 k8
   go_wp2_with fail
   go_roundw
   case rel=>exact ⟨k + 1,m ++ one s[k],by omega,by go_num,Lib.hid (by rw [HM.out,body_take l k hkl,HC.out]; rfl),k7,k9⟩
   case measure=>simp [intOf]; omega
  ·have HX:Hid (m ++ [34]=quoteL l):=Lib.hid (by rw [HM.out,List.take_of_length_le (by rw [← HN.out]; omega)]; rfl)
   go_wp2_with fail
   refine (H2.out _ 34 _ k4.may (by omega) k6).mono ?_
   rintro e w3 ⟨rfl,k7,k8⟩
   have k9:=k6.trans k8
   clear k4 k6 k8
   go_wp2_with fail
   refine (H4.out _ _ k7 k9).mono ?_
   rintro e w4 ⟨rfl,k10⟩
   have k11:=k9.trans k10
   go_wp2_with fail
   go_ret
   refine ⟨ret_str ?_,k11⟩
   rw [HX.out]
set_option maxHeartbeats 400000 in
theorem refVRight_calls (k i:Int) (s:ByteArray) (b:Bool) (w:World) (hs:s.size ≤ 9223372036854775807) :
  Calls Tryz.prog 46 #[.agg #[.int .i64 k,.int .i64 i,.string s,.bool b]] w fun e w'=>e=.returned (.bool (rightB k i s b)) ∧ Below w.heap.size w w':=by
 go_enter Tryz.func46,Tryz.ntmps46
 go_wp2
 all_goals go_ret
 all_goals refine ⟨by simp_all [rightB],?_⟩
 all_goals repeat' (first | exact Below.refl _ _ | refine Below.alloc ?_ (by simp <;> omega) _)
theorem valText_no {k i:Int} {s:ByteArray} {b:Bool} (h:rightB k i s b=false):valText k i s b=[]:=by
 unfold valText; rw [if_neg (by rw [h]; simp)]
theorem valText1 {i:Int} {s:ByteArray} {b:Bool} (h:rightB 1 i s b=true):valText 1 i s b=Lib.itoa i:=by
 unfold valText; rw [if_pos h,if_pos rfl]
theorem valText2 {i:Int} {s:ByteArray} {b:Bool} (h:rightB 2 i s b=true):valText 2 i s b=quoteL s.data.toList:=by
 unfold valText; rw [if_pos h,if_neg (by decide),if_pos rfl]
theorem valText3 {i:Int} {s:ByteArray} {b:Bool} (h:rightB 3 i s b=true):valText 3 i s b=if b=true then tru else fls:=by
 unfold valText; rw [if_pos h,if_neg (by decide),if_neg (by decide)]
set_option maxHeartbeats 1000000 in
theorem vText_calls (k i:Int) (s:ByteArray) (b:Bool) (w:World) (hi:-9223372036854775808 ≤ i ∧ i ≤ 9223372036854775807) (hs:s.size ≤ 9223372036854775807) (hL:Laid w) :
  Calls Tryz.prog 37 #[.agg #[.int .i64 k,.int .i64 i,.string s,.bool b]] w fun e w'=>e=.returned (.string ⟨(valText k i s b).toArray⟩) ∧ Below w.heap.size w w':=by
 have HA:=(Below.refl w.heap.size w).alloc (Nat.le_refl _) (.cells #[.int .i64 k,.int .i64 i,.string s,.bool b] 56)
 have hL1:=hL.below HA
 have HR:=fun w1=>vRight_calls k i s b w1 hs
 have HB:=Lib.hid (Boxed.new k i s b w 56)
 cases hr:rightB k i s b
 ·rw [valText_no hr]
  rw [hr] at HR
  have HR:=Lib.hid HR
  have HA:=Lib.hid HA
  clear hr hL hL1
  go_enter Tryz.func37,Tryz.ntmps37
  go_wp2_with fail
  refine (HR.out _).mono ?_
  rintro e w1 ⟨rfl,k1⟩
  go_wp2_with fail
  go_ret
  exact ⟨rfl,HA.out.trans (k1.mono (by simp))⟩
 ·rw [hr] at HR
  have HR:=Lib.hid HR
  have HL:=Lib.hid (fun w1 (hb:Below (w.alloc (.cells #[.int .i64 k,.int .i64 i,.string s,.bool b] 56)).heap.size _ w1)=>hL1.below hb)
  have HA:=Lib.hid HA
  rcases right_kind hr with rfl | rfl | rfl
  ·rw [valText1 hr]
   have HT:=Lib.hid (fun w1 (h:Tab w1)=>text_calls i w1 hi h)
   clear hr hL hL1
   go_enter Tryz.func37,Tryz.ntmps37
   go_wp2_with fail
   refine (HR.out _).mono ?_
   rintro e w1 ⟨rfl,k1⟩
   obtain ⟨c0,c1,c2,c3⟩:=HB.out.below k1 (by simp)
   have k2:=HA.out.trans (k1.mono (by simp))
   have hT:=(HL.out _ k1).1.1
   have HK:=Lib.hid k2
   have HX:=Lib.hid hT
   clear k1 k2 hT
   go_wp2_with fail
   refine (HT.out _ HX.out).mono ?_
   rintro e w2 ⟨rfl,k3⟩
   go_wp2_with fail
   go_ret
   exact ⟨rfl,HK.out.trans (k3.mono HK.out.size)⟩
  ·rw [valText2 hr]
   have HT:=Lib.hid (fun w1 (h:Esc w1)=>quote_calls s w1 (by have:=right2_size hr; omega) h)
   clear hr hL hL1
   go_enter Tryz.func37,Tryz.ntmps37
   go_wp2_with fail
   refine (HR.out _).mono ?_
   rintro e w1 ⟨rfl,k1⟩
   obtain ⟨c0,c1,c2,c3⟩:=HB.out.below k1 (by simp)
   have k2:=HA.out.trans (k1.mono (by simp))
   have hT:=(HL.out _ k1).2
   have HK:=Lib.hid k2
   have HX:=Lib.hid hT
   clear k1 k2 hT
   go_wp2_with fail
   refine (HT.out _ HX.out).mono ?_
   rintro e w2 ⟨rfl,k3⟩
   go_wp2_with fail
   go_ret
   exact ⟨rfl,HK.out.trans (k3.mono HK.out.size)⟩
  ·rw [valText3 hr]
   clear hr hL hL1
   cases b
   all_goals
    go_enter Tryz.func37,Tryz.ntmps37
    go_wp2_with fail
    refine (HR.out _).mono ?_
    rintro e w1 ⟨rfl,k1⟩
    obtain ⟨c0,c1,c2,c3⟩:=HB.out.below k1 (by simp)
    have k2:=HA.out.trans (k1.mono (by simp))
    have HK:=Lib.hid k2
    clear k1 k2
    go_wp2_with fail
    go_ret
    exact ⟨rfl,HK.out⟩
end Go.Proofs.YtiafhfchjhffhaaGreatDoor
