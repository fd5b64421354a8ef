/- paclaim: ParRefAnd -/
import Derived.Test.YtmknmmbfaljkbaaGreatDoorLowR5
import Derived.Deep.Cut
namespace Go.Proofs.YtmknmmbfaljkbaaGreatDoor
open Go.RowKit
set_option linter.unusedVariables false
set_option maxHeartbeats 16000000 in
set_option maxRecDepth 100000 in
theorem refAnd_calls (ta:Option Addr) (tc k:Nat) (M:List Tk) (w0:World) (h:TkIn w0 37 ta M.length M) (hM:MOk M) (hM6:M.length ≤ 65536)
  (HS:RefC 32 4 k ta tc M w0):RefC 15 2 (k + 1) ta tc M w0:=by
 intro p o v w hb0 hk hv
 have hjn:joinL 3:=by unfold joinL; omega
 have hns:¬ joinL 4:=by unfold joinL; omega
 obtain ⟨ml,hml⟩:∃ ml,ml=M.length:=⟨_,rfl⟩
 have HML:=Lib.hid hml
 have HJN:=Lib.hid hjn
 have HTK:=Lib.hid (fun w1 (hb:Below w.heap.size w w1)=>(h.below hb0).below hb)
 have HNB:=Lib.hid (UB.new w p)
 have HO:=Lib.hid (fun w1 (hb:Below w.heap.size w w1)=>hv.below hb)
 have HB0:=Lib.hid (fun w1 (hb:Below w.heap.size w w1)=>hb0.trans (hb.mono hb0.size))
 have hkd:Rk M k 4 p o:=hk.down (by decide)
 obtain ⟨S,hS⟩:∃ S,S=canP M 4 p o:=⟨_,rfl⟩
 have HV:Hid (exprP M (k + 1) 2 p o=canP M 3 S.2 S.1):=Lib.hid (by rw [can_eq hk.fu,can_up (lv:=2) (by omega),hS])
 have HLK:Hid (Lk M k S.2 S.1):=Lib.hid (by rw [hS]; exact Lk.first hkd hns)
 have HSUB:Hid (∀ (q:Pl) (u:List Ex) (x:Value) (w1:World),Below w.heap.size w w1 → Rk M k 4 q u → NsAt 0 w1 x u → Calls Tryz.prog 32 #[.slice ta ml tc,plV q,x] w1 (NdPost (canP M 4 q u) w1)):=Lib.hid (fun q u x w1 hb h1 h2=>by
  have:=HS q u x w1 (HB0.out w1 hb) h1 h2
  rw [can_eq h1.fu,← hml] at this
  exact this)
 have HC:Hid (∀ w1,Below w.heap.size w w1 → Calls Tryz.prog 32 #[.slice ta ml tc,plV p,v] w1 (NdPost S w1)):=Lib.hid (fun w1 hb=>by
  rw [hS]
  exact HSUB.out p o v w1 hb hkd (HO.out w1 hb))
 have HND:Hid (∀ (n:Nat) (q:Pl) (u:List Ex) (y:Ex) (x:Value) (w1:World),Below w.heap.size w w1 → (q.er=0 → n < M.length) → y.n=⟨#[]⟩ → NsAt 0 w1 x u → u.length ≤ 900000 → (q.er=0 → Cl 0 (u ++ [⟨y.op,y.a,y.b,y.n,y.v,(tkAt M n).line,(tkAt M n).col⟩])) → Calls Tryz.prog 18 #[.slice ta ml tc,plV q,.int .i64 (n:Nat),x,exV y] w1 (NdPost (nodeP M q n u y.op y.a y.b [] y.v) w1)):=Lib.hid (fun n q u y x w1 hb h1 h2 h3 h4 h5=>by
  have:=refNode_calls ta tc n M q u y [] x w1 (HTK.out w1 hb) (by omega) h1 h2 h3 h4 h5
  rw [← hml] at this
  exact this)
 have HIS:Hid (∀ (q:Pl) (w1:World),Below w.heap.size w w1 → q.a ≤ M.length → Calls Tryz.prog 16 #[.slice ta ml tc,plV q,.string ⟨#[97,110,100]⟩] w1 fun e w'=>e=.returned (.bool (isP M q kwAnd)) ∧ Below w1.heap.size w1 w'):=Lib.hid (fun q w1 hb h1=>by
  have:=refIs_calls ta tc M q ⟨#[97,110,100]⟩ w1 (HTK.out w1 hb) (by omega) h1
  rw [← hml] at this
  exact this)
 have hml6:ml ≤ 65536:=by omega
 rw [HV.out,← hml]
 obtain ⟨E,hE⟩:∃ E,E=canP M 3 S.2 S.1:=⟨_,rfl⟩
 have HE0:=Lib.hid hE
 rw [← hE]
 clear hk hkd hv h hb0 HS hM hM6 HTK HO HB0 hS HV hml hjn hns hE
 unfold plV at HC
 unfold plV
 go_enter Tryz.func15,Tryz.ntmps15
 go_wp2_with fail
 generalize (w.alloc (.cells #[.int .i64 (p.a:Nat),.int .i64 (p.er:Nat),.int .i64 (p.line:Nat),.int .i64 (p.col:Nat),.int .i64 p.op] 33)).alloc (.cells #[.int .i64 0,.int .i64 0,.int .i64 0,.int .i64 0,.int .i64 0] 33)=w1 at HNB ⊢
 obtain ⟨p0,p1,p2,p3,p4⟩:=pl5 HNB.out.pl
 have hpl:=HNB.out.pl.lt
 go_wp2_with fail
 clear p0 p1 p2 p3 p4 hpl
 refine (HC.out _ HNB.out.below).mono ?_
 rintro e w2 ⟨v2,rfl,hn2,k1⟩
 have HU2:=Lib.hid (HNB.out.step k1)
 have HN2:Hid (NsAt 0 w2 v2 S.1):=Lib.hid hn2
 clear k1 hn2 HNB HC
 obtain ⟨so,s⟩:=S
 unfold nodR plV
 obtain ⟨p0,p1,p2,p3,p4⟩:=pl5 HU2.out.pl
 obtain ⟨f0,f1,f2,f3,f4⟩:=pl5f HU2.out.pl
 have hpl:=HU2.out.pl.lt
 go_wp2_with fail
 clear p0 p1 p2 p3 p4 f0 f1 f2 f3 f4 hpl
 go_loopw [2] (fun x0 wr=>∃ (p1:Pl) (o1:List Ex) (x:Value),x=x0 ∧ Hid (E=canP M 3 p1 o1) ∧ Hid (Lk M k p1 o1) ∧ Hid (UB w p1 wr) ∧ Hid (NsAt 0 wr x o1)) (fun _ wr=>ml - atOf (wr.cell? ⟨w.heap.size,0,none⟩))
 case atStart=>exact ⟨s,so,_,rfl,HE0,HLK,Lib.hid (HU2.out.set s),Lib.hid (p5_ns HN2.out HU2.out.pl.cblk)⟩
 case round =>
  clear HE0 HLK HU2 HN2
  obtain ⟨p1,o1,x,rfl,HE,HK,HU,HN⟩:=hrel
  have hat:=HK.out.at'
  obtain ⟨b,hb⟩:∃ b,b=isP M p1 kwAnd:=⟨_,rfl⟩
  have HI:=Lib.hid (fun w1 hb=>HIS.out p1 w1 hb hat)
  rw [← hb] at HI
  clear hat
  cases b with
  | false =>
   have HF:Hid (canP M 3 p1 o1=(o1,p1)):=Lib.hid (can_end HJN.out (by show (if isP M p1 kwAnd=true then 6 else 0)=0; rw [← hb]; rfl))
   have HEF:Hid (E=(o1,p1)):=Lib.hid (by rw [HE.out,HF.out])
   clear hb HIS HSUB HND HK HE HF
   unfold plV at HI
   obtain ⟨p0,p1',p2,p3,p4⟩:=pl5 HU.out.pl
   have hpl:=HU.out.pl.lt
   go_wp2_with fail
   clear p0 p1' p2 p3 p4 hpl
   refine (HI.out _ HU.out.below).mono ?_
   rintro e w2 ⟨rfl,k1⟩
   have HU2:=Lib.hid (HU.out.step k1)
   have HN2:=Lib.hid (HN.out.below k1)
   clear k1 HU HN
   obtain ⟨p0,p1',p2,p3,p4⟩:=pl5 HU2.out.pl
   obtain ⟨q0,q1,q2,q3,q4⟩:=pl5 HU2.out.re
   obtain ⟨f0,f1,f2,f3,f4⟩:=pl5f HU2.out.re
   have hpl:=HU2.out.pl.lt
   have hre:=HU2.out.re.lt
   go_upto_region 6 with fail
   go_region
   all_goals (go_wp2_with fail)
   all_goals (try simp only [Exit.inBlock,Exit.then])
   all_goals (
    refine bodyPost_ret (v:=nodR x p1) ?_ rfl (by rw [HEF.out]; exact nd_fin (r:=(o1,p1)) (HU2.out.step (Below.refl w2.heap.size w2).drew).re (HU2.out.step (Below.refl w2.heap.size w2).drew).below (HN2.out.below (Below.refl w2.heap.size w2).drew))
    refine cs_result2 rfl _ _ _ (a:=⟨w.heap.size + 1,0,none⟩) (by rfl) (by rfl) ?_
    unfold plV
    go_simp)
  | true =>
   have hs:isP M p1 kwAnd=true:=hb.symm
   have e1:firstOp M p1 (jnS 3)=6:=by show (if isP M p1 kwAnd=true then 6 else 0)=6; rw [hs]; rfl
   have h1:firstOp M p1 (jnS 3) ≠ 0:=by rw [e1]; decide
   have hlt:p1.a + 1 ≤ M.length:=isP_lt hs
   have hol:o1.length ≤ 800000:=by have:=HK.out.len; omega
   have ho0:0 < o1.length:=(HK.out.cl (isP_some hs).1).2
   have hkk:Rk M k 4 (skipP p1) o1:=HK.out.skip hs
   have hres:=hkk.res (by unfold joinL; omega)
   rw [can_eq hkk.fu] at hres
   obtain ⟨T,hT⟩:∃ T,T=canP M 4 (skipP p1) o1:=⟨_,rfl⟩
   have hge:p1.a + 1 ≤ T.2.a:=by
    have:=(expr_bd M k 4 (skipP p1) o1 hkk.at').ge
    rw [can_eq hkk.fu,← hT] at this
    exact this
   have hcl:=fun (e:T.2.er=0)=>HK.out.node hs HJN.out h1 ⟨#[]⟩ v0 (tkAt M p1.a).line (tkAt M p1.a).col (by rw [← hT]; exact e)
   rw [← hT] at hres hcl
   rw [e1] at hcl
   obtain ⟨r1,r2,r3,r4,r5,r6,r7,r8⟩:=hres
   obtain ⟨so,d⟩:=T
   have r2:so.length + (M.length - d.a) ≤ 800000:=r2
   have hge:p1.a + 1 ≤ d.a:=hge
   have hsl:so.length ≤ 800000:=by omega
   obtain ⟨va,vc,rfl⟩:=HN.out.slice
   obtain ⟨n1,hn1⟩:∃ n1,n1=o1.length:=⟨_,rfl⟩
   obtain ⟨n2,hn2⟩:∃ n2,n2=so.length:=⟨_,rfl⟩
   have HSK:=Lib.hid (fun w1=>refSkip_calls p1 w1 (by have:=HML.out; omega))
   have HUC:Hid (∀ w1,Below w.heap.size w w1 → NsAt 0 w1 (.slice va n1 vc) o1 → Calls Tryz.prog 32 #[.slice ta ml tc,plV (skipP p1),.slice va n1 vc] w1 (NdPost (so,d) w1)):=Lib.hid (fun w1 hb hn=>by
    rw [hT]
    exact HSUB.out _ _ _ w1 hb hkk hn)
   have HNC:Hid (∀ x w1,Below w.heap.size w w1 → NsAt 0 w1 x so → Calls Tryz.prog 18 #[.slice ta ml tc,plV d,.int .i64 (p1.a:Nat),x,exV ⟨6,(n1:Int) - 1,(n2:Int) - 1,⟨#[]⟩,v0,0,0⟩] w1 (NdPost (rndP M 3 p1 o1) w1)):=Lib.hid (fun x w1 hb hn=>by
    have:=HND.out p1.a d so ⟨6,(n1:Int) - 1,(n2:Int) - 1,⟨#[]⟩,v0,0,0⟩ x w1 hb (fun _=>hlt) rfl hn (by omega) (by rw [hn1,hn2]; exact hcl)
    unfold rndP
    rw [← hT,e1,← hn1]
    show Calls _ _ _ _ (NdPost (nodeP M d p1.a so 6 ((n1:Int) - 1) ((so.length:Int) - 1) [] v0) w1)
    rw [← hn2]
    exact this)
   have HNX:Hid (Lk M k (rndP M 3 p1 o1).2 (rndP M 3 p1 o1).1):=Lib.hid (HK.out.next HJN.out h1)
   have HE2:Hid (E=canP M 3 (rndP M 3 p1 o1).2 (rndP M 3 p1 o1).1):=Lib.hid (by rw [HE.out]; exact (can_more HJN.out h1).1)
   have HGE:Hid (p1.a + 1 ≤ (rndP M 3 p1 o1).2.a):=Lib.hid (by
    unfold rndP
    rw [(node_at M _ _ _ _ _ _ _ _).1,← hT]
    exact hge)
   have HLT:Hid (p1.a + 1 ≤ ml):=Lib.hid (by rw [HML.out]; exact hlt)
   generalize rndP M 3 p1 o1=R at HNC HNX HE2 HGE
   have hwr1:IntKind.i64.wrap ((n1:Int) - 1)=(n1:Int) - 1:=by rw [IntKind.wrap_i64]; omega
   have hwr2:IntKind.i64.wrap ((n2:Int) - 1)=(n2:Int) - 1:=by rw [IntKind.wrap_i64]; omega
   have HN1:=Lib.hid hn1
   have HN2':=Lib.hid hn2
   have hb1:n1 ≤ 800000:=by omega
   have hb2:n2 ≤ 800000:=by omega
   rw [← hn1] at HN ⊢
   clear hn1 hn2 hsl r1 r2 r3 r4 r5 r6 r7 r8 hcl hge hT hkk hol ho0 hlt hs h1 e1 HK HE HSUB HND
   clear hb HIS
   unfold plV at HI HSK HUC HNC
   unfold exV at HNC
   obtain ⟨p0,p1',p2,p3,p4⟩:=pl5 HU.out.pl
   have hpl:=HU.out.pl.lt
   go_wp2_with fail
   clear p0 p1' p2 p3 p4 hpl
   refine (HI.out _ HU.out.below).mono ?_
   rintro e w2 ⟨rfl,k1⟩
   have HU2:=Lib.hid (HU.out.step k1)
   have HN2:=Lib.hid (HN.out.below k1)
   have HA:Hid (atOf (wr.cell? ⟨w.heap.size,0,none⟩)=p1.a):=Lib.hid HU.out.at'
   clear k1 HU HN HI
   obtain ⟨p0,p1',p2,p3,p4⟩:=pl5 HU2.out.pl
   have hpl:=HU2.out.pl.lt
   go_wp2_with fail
   clear p0 p1' p2 p3 p4 hpl
   refine (HSK.out _).mono ?_
   rintro e w3 ⟨rfl,k1⟩
   have HU3:=Lib.hid (HU2.out.step k1)
   have HN3:=Lib.hid (HN2.out.below k1)
   clear k1 HU2 HN2 HSK
   go_wp2_with fail
   refine (HUC.out _ HU3.out.below HN3.out).mono ?_
   rintro e w6 ⟨v6,rfl,hn6,k1⟩
   have HU6:=Lib.hid (HU3.out.step k1)
   have hn6:NsAt 0 w6 v6 so:=hn6
   obtain ⟨va6,vc6,rfl⟩:=hn6.slice
   rw [← HN2'.out] at hn6
   have HN6:=Lib.hid hn6
   rw [← HN2'.out]
   clear k1 hn6 HU3 HN3 HUC
   unfold nodR plV
   go_upto_region 5 with fail
   have h7:=HU6.out.put d
   generalize (w6.alloc (.cells #[.int .i64 (d.a:Nat),.int .i64 (d.er:Nat),.int .i64 (d.line:Nat),.int .i64 (d.col:Nat),.int .i64 d.op] 33))=w7 at h7 ⊢
   obtain ⟨hu7,hd7,hn7⟩:=h7
   have HU7:=Lib.hid hu7
   have HN7:=Lib.hid (hn7 _ _ HN6.out)
   have hql:=hd7.lt
   obtain ⟨q0,q1,q2,q3,q4⟩:=pl5 hd7
   obtain ⟨p0,p1',p2,p3,p4⟩:=pl5 HU7.out.pl
   have hpl:=HU7.out.pl.lt
   clear hu7 hd7 hn7 HU6 HN6
   go_wp2_with fail
   clear q0 q1 q2 q3 q4 p0 p1' p2 p3 p4 hpl hql
   refine (HNC.out _ _ HU7.out.below HN7.out).mono ?_
   rintro e w8 ⟨v8,rfl,hn8,k1⟩
   have HU8:=Lib.hid (HU7.out.step k1)
   have HN8:Hid (NsAt 0 w8 v8 R.1):=Lib.hid hn8
   clear k1 hn8 HU7 HN7 HNC
   obtain ⟨r0,q⟩:=R
   unfold nodR plV
   obtain ⟨p0,p1',p2,p3,p4⟩:=pl5 HU8.out.pl
   obtain ⟨f0,f1,f2,f3,f4⟩:=pl5f HU8.out.pl
   have hpl:=HU8.out.pl.lt
   go_wp2_with fail
   go_roundw
   case rel=>exact ⟨q,r0,_,rfl,HE2,HNX,Lib.hid (HU8.out.set q),Lib.hid (p5_ns HN8.out HU8.out.pl.cblk)⟩
   case measure =>
    rw [HA.out,(HU8.out.set q).at']
    have h1:=HGE.out
    have h2:=HLT.out
    show ml - q.a < ml - p1.a
    have h1:p1.a + 1 ≤ q.a:=h1
    omega
end Go.Proofs.YtmknmmbfaljkbaaGreatDoor
