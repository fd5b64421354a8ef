/- paclaim: ParRefPlus -/
import Derived.Test.YtmknmmbfaljkbaaGreatDoorLowR5
import Derived.Deep.Cut
namespace Go.Proofs.YtmknmmbfaljkbaaGreatDoor
open Go.RowKit
set_option linter.unusedVariables false
set_option maxHeartbeats 16000000 in
set_option maxRecDepth 100000 in
theorem refPlus_calls (ta:Option Addr) (tc k:Nat) (M:List Tk) (w0:World) (h:TkIn w0 37 ta M.length M) (hM:MOk M) (hM6:M.length ≤ 65536)
  (HS:RefC 81 8 k ta tc M w0):RefC 65 6 (k + 1) ta tc M w0:=by
 intro p o v w hb0 hk hv
 have hjn:joinL 7:=by unfold joinL; omega
 have hns:¬ joinL 8:=by unfold joinL; omega
 obtain ⟨ml,hml⟩:∃ ml,ml=M.length:=⟨_,rfl⟩
 have HML:=Lib.hid hml
 have HJN:=Lib.hid hjn
 have HTK:=Lib.hid (fun w1 (hb:Below w.heap.size w w1)=>(h.below hb0).below hb)
 have HNB:=Lib.hid (UB.new w p)
 have HO:=Lib.hid (fun w1 (hb:Below w.heap.size w w1)=>hv.below hb)
 have HB0:=Lib.hid (fun w1 (hb:Below w.heap.size w w1)=>hb0.trans (hb.mono hb0.size))
 have hkd:Rk M k 8 p o:=hk.down (by decide)
 obtain ⟨S,hS⟩:∃ S,S=canP M 8 p o:=⟨_,rfl⟩
 have HV:Hid (exprP M (k + 1) 6 p o=canP M 7 S.2 S.1):=Lib.hid (by rw [can_eq hk.fu,can_up (lv:=6) (by omega),hS])
 have HLK:Hid (Lk M k S.2 S.1):=Lib.hid (by rw [hS]; exact Lk.first hkd hns)
 have HSUB:Hid (∀ (q:Pl) (u:List Ex) (x:Value) (w1:World),Below w.heap.size w w1 → Rk M k 8 q u → NsAt 0 w1 x u → Calls Tryz.prog 81 #[.slice ta ml tc,plV q,x] w1 (NdPost (canP M 8 q u) w1)):=Lib.hid (fun q u x w1 hb h1 h2=>by
  have:=HS q u x w1 (HB0.out w1 hb) h1 h2
  rw [can_eq h1.fu,← hml] at this
  exact this)
 have HC:Hid (∀ w1,Below w.heap.size w w1 → Calls Tryz.prog 81 #[.slice ta ml tc,plV p,v] w1 (NdPost S w1)):=Lib.hid (fun w1 hb=>by
  rw [hS]
  exact HSUB.out p o v w1 hb hkd (HO.out w1 hb))
 have HND:Hid (∀ (n:Nat) (q:Pl) (u:List Ex) (y:Ex) (x:Value) (w1:World),Below w.heap.size w w1 → (q.er=0 → n < M.length) → y.n=⟨#[]⟩ → NsAt 0 w1 x u → u.length ≤ 900000 → (q.er=0 → Cl 0 (u ++ [⟨y.op,y.a,y.b,y.n,y.v,(tkAt M n).line,(tkAt M n).col⟩])) → Calls Tryz.prog 18 #[.slice ta ml tc,plV q,.int .i64 (n:Nat),x,exV y] w1 (NdPost (nodeP M q n u y.op y.a y.b [] y.v) w1)):=Lib.hid (fun n q u y x w1 hb h1 h2 h3 h4 h5=>by
  have:=refNode_calls ta tc n M q u y [] x w1 (HTK.out w1 hb) (by omega) h1 h2 h3 h4 h5
  rw [← hml] at this
  exact this)
 have HSG:Hid (∀ (q:Pl) (gs gi:Nat) (w1:World),Below w.heap.size w w1 → q.a ≤ M.length → SgAt w1 gs gi plusS → Calls Tryz.prog 66 #[.slice ta ml tc,plV q,.slice (some ⟨gs,0,none⟩) 2 2,.slice (some ⟨gi,0,none⟩) 2 2] w1 fun e w'=>e=.returned (.int .i64 (firstOp M q plusS:Nat)) ∧ Below w1.heap.size w1 w'):=Lib.hid (fun q gs gi w1 hb h1 h2=>by
  have:=refSign_calls ta tc gs gi 2 M q plusS w1 (HTK.out w1 hb) (by omega) h1 h2 rfl (by omega)
  rw [← hml] at this
  exact this)
 have hml6:ml ≤ 65536:=by omega
 rw [HV.out,← hml]
 obtain ⟨E,hE⟩:∃ E,E=canP M 7 S.2 S.1:=⟨_,rfl⟩
 have HE0:=Lib.hid hE
 rw [← hE]
 clear hk hkd hv h hb0 HS hM hM6 HTK HO HB0 hS HV hml hjn hns hE
 unfold plV at HC
 unfold plV
 go_enter Tryz.func65,Tryz.ntmps65
 go_wp2_with fail
 generalize (w.alloc (.cells #[.int .i64 (p.a:Nat),.int .i64 (p.er:Nat),.int .i64 (p.line:Nat),.int .i64 (p.col:Nat),.int .i64 p.op] 33)).alloc (.cells #[.int .i64 0,.int .i64 0,.int .i64 0,.int .i64 0,.int .i64 0] 33)=w1 at HNB ⊢
 obtain ⟨p0,p1,p2,p3,p4⟩:=pl5 HNB.out.pl
 have hpl:=HNB.out.pl.lt
 go_wp2_with fail
 clear p0 p1 p2 p3 p4 hpl
 refine (HC.out _ HNB.out.below).mono ?_
 rintro e w2 ⟨v2,rfl,hn2,k1⟩
 have HU2:=Lib.hid (HNB.out.step k1)
 have HN2:Hid (NsAt 0 w2 v2 S.1):=Lib.hid hn2
 clear k1 hn2 HNB HC
 obtain ⟨so,s⟩:=S
 unfold nodR plV
 obtain ⟨p0,p1,p2,p3,p4⟩:=pl5 HU2.out.pl
 obtain ⟨f0,f1,f2,f3,f4⟩:=pl5f HU2.out.pl
 have hpl:=HU2.out.pl.lt
 go_wp2_with fail
 clear p0 p1 p2 p3 p4 f0 f1 f2 f3 f4 hpl
 go_loopw [2] (fun x0 wr=>∃ (p1:Pl) (o1:List Ex) (x:Value),x=x0 ∧ Hid (E=canP M 7 p1 o1) ∧ Hid (Lk M k p1 o1) ∧ Hid (UB w p1 wr) ∧ Hid (NsAt 0 wr x o1)) (fun _ wr=>ml - atOf (wr.cell? ⟨w.heap.size,0,none⟩))
 case atStart=>exact ⟨s,so,_,rfl,HE0,HLK,Lib.hid (HU2.out.set s),Lib.hid (p5_ns HN2.out HU2.out.pl.cblk)⟩
 case round =>
  clear HE0 HLK HU2 HN2
  obtain ⟨p1,o1,x,rfl,HE,HK,HU,HN⟩:=hrel
  have hat:=HK.out.at'
  obtain ⟨op,hop⟩:∃ op,op=firstOp M p1 plusS:=⟨_,rfl⟩
  have HSI:=Lib.hid (fun gs gi w1 hb h2=>HSG.out p1 gs gi w1 hb hat h2)
  rw [← hop] at HSI
  have HSW:Hid (∀ (W:World),SgAt ((W.alloc (.cells #[.string ⟨#[43]⟩,.string ⟨#[45]⟩] 9)).alloc (.cells #[.int .i64 8,.int .i64 9] 3)) W.heap.size (W.heap.size + 1) plusS):=Lib.hid (fun W=>sg_new rfl rfl (fun j s o hj=>by
   obtain ⟨hl,e⟩:=List.getElem?_eq_some_iff.1 hj
   have hl2:j < 2:=hl
   match j,hl2 with
   | 0,_=>cases e; exact ⟨rfl,rfl⟩
   | 1,_=>cases e; exact ⟨rfl,rfl⟩))
  clear hat
  by_cases h0:op=0
  case pos =>
   have HF:Hid (canP M 7 p1 o1=(o1,p1)):=Lib.hid (can_end HJN.out (by rw [← h0,hop]; rfl))
   have t0:((op:Int) == 0)=true:=by rw [h0]; rfl
   have HEF:Hid (E=(o1,p1)):=Lib.hid (by rw [HE.out,HF.out])
   clear hop h0 HSG HSUB HND HK HE HF
   unfold plV at HSI
   obtain ⟨p0,p1',p2,p3,p4⟩:=pl5 HU.out.pl
   have hpl:=HU.out.pl.lt
   go_wp2_with fail
   clear p0 p1' p2 p3 p4 hpl
   refine (HSI.out _ _ _ (two_new HU.out.below) (HSW.out _)).mono ?_
   rintro e w2 ⟨rfl,k1⟩
   have k2:=(two_new (Below.refl wr.heap.size wr)).trans (k1.mono (two_new (Below.refl wr.heap.size wr)).size)
   have HU2:=Lib.hid (HU.out.step k2)
   have HN2:=Lib.hid (HN.out.below k2)
   clear k1 k2 HU HN
   obtain ⟨p0,p1',p2,p3,p4⟩:=pl5 HU2.out.pl
   obtain ⟨q0,q1,q2,q3,q4⟩:=pl5 HU2.out.re
   obtain ⟨f0,f1,f2,f3,f4⟩:=pl5f HU2.out.re
   have hpl:=HU2.out.pl.lt
   have hre:=HU2.out.re.lt
   go_upto_region 4 with fail
   go_region
   all_goals (go_wp2_with fail)
   all_goals (try simp only [Exit.inBlock,Exit.then])
   all_goals (
    refine bodyPost_ret (v:=nodR x p1) ?_ rfl (by rw [HEF.out]; exact nd_fin (r:=(o1,p1)) (HU2.out.step (Below.refl w2.heap.size w2).drew).re (HU2.out.step (Below.refl w2.heap.size w2).drew).below (HN2.out.below (Below.refl w2.heap.size w2).drew))
    refine cs_result2 rfl _ _ _ (a:=⟨w.heap.size + 1,0,none⟩) (by rfl) (by rfl) ?_
    unfold plV
    go_simp)
  case neg =>
   obtain ⟨s,hs⟩:=firstOp_some (M:=M) (p:=p1) plusS (by rw [← hop]; exact h0)
   have h1:firstOp M p1 (jnS 7) ≠ 0:=by
    show firstOp M p1 plusS ≠ 0
    rw [← hop]; exact h0
   have e1:firstOp M p1 (jnS 7)=op:=hop.symm
   have t0:((op:Int) == 0)=false:=by rw [beq_eq_false_iff_ne]; omega
   have hlt:p1.a + 1 ≤ M.length:=isP_lt hs
   have hol:o1.length ≤ 800000:=by have:=HK.out.len; omega
   have ho0:0 < o1.length:=(HK.out.cl (isP_some hs).1).2
   have hkk:Rk M k 8 (skipP p1) o1:=HK.out.skip hs
   have hres:=hkk.res (by unfold joinL; omega)
   rw [can_eq hkk.fu] at hres
   obtain ⟨T,hT⟩:∃ T,T=canP M 8 (skipP p1) o1:=⟨_,rfl⟩
   have hge:p1.a + 1 ≤ T.2.a:=by
    have:=(expr_bd M k 8 (skipP p1) o1 hkk.at').ge
    rw [can_eq hkk.fu,← hT] at this
    exact this
   have hcl:=fun (e:T.2.er=0)=>HK.out.node hs HJN.out h1 ⟨#[]⟩ v0 (tkAt M p1.a).line (tkAt M p1.a).col (by rw [← hT]; exact e)
   rw [← hT] at hres hcl
   rw [e1] at hcl
   obtain ⟨r1,r2,r3,r4,r5,r6,r7,r8⟩:=hres
   obtain ⟨so,d⟩:=T
   have r2:so.length + (M.length - d.a) ≤ 800000:=r2
   have hge:p1.a + 1 ≤ d.a:=hge
   have hsl:so.length ≤ 800000:=by omega
   obtain ⟨va,vc,rfl⟩:=HN.out.slice
   obtain ⟨n1,hn1⟩:∃ n1,n1=o1.length:=⟨_,rfl⟩
   obtain ⟨n2,hn2⟩:∃ n2,n2=so.length:=⟨_,rfl⟩
   have HSK:=Lib.hid (fun w1=>refSkip_calls p1 w1 (by have:=HML.out; omega))
   have HUC:Hid (∀ w1,Below w.heap.size w w1 → NsAt 0 w1 (.slice va n1 vc) o1 → Calls Tryz.prog 81 #[.slice ta ml tc,plV (skipP p1),.slice va n1 vc] w1 (NdPost (so,d) w1)):=Lib.hid (fun w1 hb hn=>by
    rw [hT]
    exact HSUB.out _ _ _ w1 hb hkk hn)
   have HNC:Hid (∀ x w1,Below w.heap.size w w1 → NsAt 0 w1 x so → Calls Tryz.prog 18 #[.slice ta ml tc,plV d,.int .i64 (p1.a:Nat),x,exV ⟨(op:Int),(n1:Int) - 1,(n2:Int) - 1,⟨#[]⟩,v0,0,0⟩] w1 (NdPost (rndP M 7 p1 o1) w1)):=Lib.hid (fun x w1 hb hn=>by
    have:=HND.out p1.a d so ⟨(op:Int),(n1:Int) - 1,(n2:Int) - 1,⟨#[]⟩,v0,0,0⟩ x w1 hb (fun _=>hlt) rfl hn (by omega) (by rw [hn1,hn2]; exact hcl)
    unfold rndP
    rw [← hT,e1,← hn1]
    show Calls _ _ _ _ (NdPost (nodeP M d p1.a so (op:Int) ((n1:Int) - 1) ((so.length:Int) - 1) [] v0) w1)
    rw [← hn2]
    exact this)
   have HNX:Hid (Lk M k (rndP M 7 p1 o1).2 (rndP M 7 p1 o1).1):=Lib.hid (HK.out.next HJN.out h1)
   have HE2:Hid (E=canP M 7 (rndP M 7 p1 o1).2 (rndP M 7 p1 o1).1):=Lib.hid (by rw [HE.out]; exact (can_more HJN.out h1).1)
   have HGE:Hid (p1.a + 1 ≤ (rndP M 7 p1 o1).2.a):=Lib.hid (by
    unfold rndP
    rw [(node_at M _ _ _ _ _ _ _ _).1,← hT]
    exact hge)
   have HLT:Hid (p1.a + 1 ≤ ml):=Lib.hid (by rw [HML.out]; exact hlt)
   generalize rndP M 7 p1 o1=R at HNC HNX HE2 HGE
   have hwr1:IntKind.i64.wrap ((n1:Int) - 1)=(n1:Int) - 1:=by rw [IntKind.wrap_i64]; omega
   have hwr2:IntKind.i64.wrap ((n2:Int) - 1)=(n2:Int) - 1:=by rw [IntKind.wrap_i64]; omega
   have HN1:=Lib.hid hn1
   have HN2':=Lib.hid hn2
   have hb1:n1 ≤ 800000:=by omega
   have hb2:n2 ≤ 800000:=by omega
   rw [← hn1] at HN ⊢
   clear hn1 hn2 hsl r1 r2 r3 r4 r5 r6 r7 r8 hcl hge hT hkk hol ho0 hlt hs h1 e1 HK HE HSUB HND
   clear hop h0 HSG
   unfold plV at HSI HSK HUC HNC
   unfold exV at HNC
   obtain ⟨p0,p1',p2,p3,p4⟩:=pl5 HU.out.pl
   have hpl:=HU.out.pl.lt
   go_wp2_with fail
   clear p0 p1' p2 p3 p4 hpl
   refine (HSI.out _ _ _ (two_new HU.out.below) (HSW.out _)).mono ?_
   rintro e w2 ⟨rfl,k1⟩
   have k2:=(two_new (Below.refl wr.heap.size wr)).trans (k1.mono (two_new (Below.refl wr.heap.size wr)).size)
   have HU2:=Lib.hid (HU.out.step k2)
   have HN2:=Lib.hid (HN.out.below k2)
   have HA:Hid (atOf (wr.cell? ⟨w.heap.size,0,none⟩)=p1.a):=Lib.hid HU.out.at'
   clear k1 k2 HU HN HSI HSW
   obtain ⟨p0,p1',p2,p3,p4⟩:=pl5 HU2.out.pl
   have hpl:=HU2.out.pl.lt
   go_wp2_with fail
   clear p0 p1' p2 p3 p4 hpl
   refine (HSK.out _).mono ?_
   rintro e w3 ⟨rfl,k1⟩
   have HU3:=Lib.hid (HU2.out.step k1)
   have HN3:=Lib.hid (HN2.out.below k1)
   clear k1 HU2 HN2 HSK
   go_wp2_with fail
   refine (HUC.out _ HU3.out.below HN3.out).mono ?_
   rintro e w6 ⟨v6,rfl,hn6,k1⟩
   have HU6:=Lib.hid (HU3.out.step k1)
   have hn6:NsAt 0 w6 v6 so:=hn6
   obtain ⟨va6,vc6,rfl⟩:=hn6.slice
   rw [← HN2'.out] at hn6
   have HN6:=Lib.hid hn6
   rw [← HN2'.out]
   clear k1 hn6 HU3 HN3 HUC
   unfold nodR plV
   go_upto_region 7 with fail
   have h7:=HU6.out.put d
   generalize (w6.alloc (.cells #[.int .i64 (d.a:Nat),.int .i64 (d.er:Nat),.int .i64 (d.line:Nat),.int .i64 (d.col:Nat),.int .i64 d.op] 33))=w7 at h7 ⊢
   obtain ⟨hu7,hd7,hn7⟩:=h7
   have HU7:=Lib.hid hu7
   have HN7:=Lib.hid (hn7 _ _ HN6.out)
   have hql:=hd7.lt
   obtain ⟨q0,q1,q2,q3,q4⟩:=pl5 hd7
   obtain ⟨p0,p1',p2,p3,p4⟩:=pl5 HU7.out.pl
   have hpl:=HU7.out.pl.lt
   clear hu7 hd7 hn7 HU6 HN6
   go_wp2_with fail
   clear q0 q1 q2 q3 q4 p0 p1' p2 p3 p4 hpl hql
   refine (HNC.out _ _ HU7.out.below HN7.out).mono ?_
   rintro e w8 ⟨v8,rfl,hn8,k1⟩
   have HU8:=Lib.hid (HU7.out.step k1)
   have HN8:Hid (NsAt 0 w8 v8 R.1):=Lib.hid hn8
   clear k1 hn8 HU7 HN7 HNC
   obtain ⟨r0,q⟩:=R
   unfold nodR plV
   obtain ⟨p0,p1',p2,p3,p4⟩:=pl5 HU8.out.pl
   obtain ⟨f0,f1,f2,f3,f4⟩:=pl5f HU8.out.pl
   have hpl:=HU8.out.pl.lt
   go_wp2_with fail
   go_roundw
   case rel=>exact ⟨q,r0,_,rfl,HE2,HNX,Lib.hid (HU8.out.set q),Lib.hid (p5_ns HN8.out HU8.out.pl.cblk)⟩
   case measure =>
    rw [HA.out,(HU8.out.set q).at']
    have h1:=HGE.out
    have h2:=HLT.out
    show ml - q.a < ml - p1.a
    have h1:p1.a + 1 ≤ q.a:=h1
    omega
end Go.Proofs.YtmknmmbfaljkbaaGreatDoor
