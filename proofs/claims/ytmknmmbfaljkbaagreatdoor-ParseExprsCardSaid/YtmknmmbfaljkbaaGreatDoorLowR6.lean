/- paclaim: ParRefPar ParRefPrim ParRefNot -/
import Derived.Test.YtmknmmbfaljkbaaGreatDoorLowR5
namespace Go.Proofs.YtmknmmbfaljkbaaGreatDoor
open Go.RowKit
set_option linter.unusedVariables false
theorem exprP_11' (M:List Tk) (n:Nat) (p:Pl) (out:List Ex):exprP M (n + 1) 11 p out=(if isP M p [40]=true then ((exprP M n 0 (openP M p) out).1,shutP (wantP M (exprP M n 0 (openP M p) out).2 [41])) else if p.er=0 ∧ (M[p.a]?.map fun t=>t.k == 1 && t.t != [95])=some true then nodeP M (skipP p) p.a out 17 0 0 (tkAt M p.a).t v0 else if (valueP M p).2.2=true ∧ isP M p [45]=false then nodeP M (valueP M p).2.1 p.a out 1 0 0 [] (valueP M p).1 else (out,stopP M p 16)):=exprP_11 M n 0 p out
set_option maxHeartbeats 16000000 in
set_option maxRecDepth 100000 in
theorem refPrimary_paren (ta:Option Addr) (tc k:Nat) (M:List Tk) (w0:World) (h:TkIn w0 37 ta M.length M) (hM6:M.length ≤ 65536) (HU:RefC 8 0 k ta tc M w0) (p:Pl) (o:List Ex) (v:Value) (w:World) (hb0:Below w0.heap.size w0 w) (hk:Rk M (k + 1) 11 p o) (hv:NsAt 0 w v o) (hm:isP M p [40]=true) :
  Calls Tryz.prog 110 #[.slice ta M.length tc,plV p,v] w (NdPost (exprP M (k + 1) 11 p o) w):=by
 have hml:M.length ≤ 1000000:=by omega
 have hat:=hk.at'
 have HTK:=Lib.hid (fun w1 (hb:Below w.heap.size w w1)=>(h.below hb0).below hb)
 have HNB:=Lib.hid (UB.new w p)
 have HI2:Hid (∀ w1,Below w.heap.size w w1 → Calls Tryz.prog 16 #[.slice ta M.length tc,plV p,.string ⟨#[40]⟩] w1 fun e w'=>e=.returned (.bool true) ∧ Below w1.heap.size w1 w'):=Lib.hid (fun w1 hb=>by
  have:=refIs_calls ta tc M p ⟨#[40]⟩ w1 (HTK.out w1 hb) hml hat
  rw [show (⟨#[40]⟩:ByteArray).data.toList=[40] from rfl,hm] at this
  exact this)
 have HO:=Lib.hid (fun w1 (hb:Below w.heap.size w w1)=>hv.below hb)
 have HB0:=Lib.hid (fun w1 (hb:Below w.heap.size w w1)=>hb0.trans (hb.mono hb0.size))
 obtain ⟨va,vc,rfl⟩:=hv.slice
 obtain ⟨pp,hpp⟩:∃ pp,pp=openP M p:=⟨_,rfl⟩
 obtain ⟨S,hS⟩:∃ S,S=exprP M k 0 (openP M p) o:=⟨_,rfl⟩
 have hkk:Rk M k 0 (openP M p) o:=hk.open hm
 have hres:=hkk.res (by unfold joinL; omega)
 have HOP:Hid (∀ w1,Below w.heap.size w w1 → Calls Tryz.prog 50 #[.slice ta M.length tc,plV p] w1 fun e w'=>e=.returned (plV pp) ∧ Below w1.heap.size w1 w'):=Lib.hid (fun w1 hb=>by
  have:=refOpen_calls ta tc M p w1 (HTK.out w1 hb) hml ⟨hat,by have:=hk.lo; omega,by have:=hk.hi; omega⟩
  rw [← hpp] at this
  exact this)
 have HUC:Hid (∀ w1,Below w.heap.size w w1 → Calls Tryz.prog 8 #[.slice ta M.length tc,plV pp,.slice va o.length vc] w1 (NdPost S w1)):=Lib.hid (fun w1 hb=>by
  have:=HU (openP M p) o _ w1 (HB0.out w1 hb) hkk (HO.out w1 hb)
  rw [← hS] at this
  rw [hpp]
  exact this)
 rw [← hS] at hres
 obtain ⟨r1,r2,r3,r4,r5,r6,r7,r8⟩:=hres
 obtain ⟨so,d⟩:=S
 have r1:d.a ≤ M.length:=r1
 have r5:-2 ≤ d.op:=r5
 have r6:d.op ≤ 128:=r6
 obtain ⟨wn,hwn⟩:∃ wn,wn=wantP M d [41]:=⟨_,rfl⟩
 have hwo:wn.op=d.op:=by rw [hwn]; exact (want_at M d [41]).2.1
 have HW:Hid (∀ w1,Below w.heap.size w w1 → Calls Tryz.prog 127 #[.slice ta M.length tc,plV d,.string ⟨#[41]⟩] w1 fun e w'=>e=.returned (plV wn) ∧ Below w1.heap.size w1 w'):=Lib.hid (fun w1 hb=>by
  have:=refWant_calls ta tc M d ⟨#[41]⟩ w1 (HTK.out w1 hb) hml r1
  rw [show (⟨#[41]⟩:ByteArray).data.toList=[41] from rfl,← hwn] at this
  exact this)
 have HSH:=Lib.hid (fun w1=>refShut_calls wn w1 (by omega))
 obtain ⟨qr,hqr⟩:∃ qr,qr=shutP wn:=⟨_,rfl⟩
 have HV:Hid (exprP M (k + 1) 11 p o=(so,qr)):=Lib.hid (by rw [exprP_11',if_pos hm,← hS,hqr,hwn])
 rw [HV.out]
 rw [← hqr] at HSH
 obtain ⟨n1,hn1⟩:∃ n1,n1=so.length:=⟨_,rfl⟩
 have HN1:=Lib.hid hn1
 clear hk hkk hv h hb0 HU hM6 hm hat HTK HO HB0 HV hpp hS r1 r2 r3 r4 r5 r6 r7 r8 hwn hwo hqr hn1
 generalize M.length=ml at HI2 HOP HUC HW hml ⊢
 unfold plV at HI2 HOP HUC HW HSH
 unfold plV
 go_enter Tryz.func110,Tryz.ntmps110
 go_wp2_with fail
 generalize (w.alloc (.cells #[.int .i64 (p.a:Nat),.int .i64 (p.er:Nat),.int .i64 (p.line:Nat),.int .i64 (p.col:Nat),.int .i64 p.op] 33)).alloc (.cells #[.int .i64 0,.int .i64 0,.int .i64 0,.int .i64 0,.int .i64 0] 33)=w1 at HNB ⊢
 obtain ⟨p0,p1,p2,p3,p4⟩:=pl5 HNB.out.pl
 have hpl:=HNB.out.pl.lt
 refine (HI2.out _ HNB.out.below).mono ?_
 rintro e w2 ⟨rfl,k1⟩
 have HN2:=Lib.hid (HNB.out.step k1)
 clear k1 p0 p1 p2 p3 p4 hpl
 obtain ⟨p0,p1,p2,p3,p4⟩:=pl5 HN2.out.pl
 have hpl:=HN2.out.pl.lt
 go_wp2_with fail
 clear p0 p1 p2 p3 p4 hpl
 refine (HOP.out _ HN2.out.below).mono ?_
 rintro e w5 ⟨rfl,k1⟩
 have HN5:=Lib.hid (HN2.out.step k1)
 clear k1
 go_wp2_with fail
 refine (HUC.out _ HN5.out.below).mono ?_
 rintro e w6 ⟨v6,rfl,hn6,k1⟩
 have HN6:=Lib.hid (HN5.out.step k1)
 clear k1
 have hn6:NsAt 0 w6 v6 so:=hn6
 have HS6:=Lib.hid hn6
 clear hn6
 unfold nodR plV
 go_upto_region 3 with fail
 have hA7:Below w6.heap.size w6 (w6.alloc (.cells #[.int .i64 (d.a:Nat),.int .i64 (d.er:Nat),.int .i64 (d.line:Nat),.int .i64 (d.col:Nat),.int .i64 d.op] 33)):=(Below.refl _ _).alloc (Nat.le_refl _) _
 have hD7:Ho (w6.alloc (.cells #[.int .i64 (d.a:Nat),.int .i64 (d.er:Nat),.int .i64 (d.line:Nat),.int .i64 (d.col:Nat),.int .i64 d.op] 33)) w6.heap.size #[.int .i64 (d.a:Nat),.int .i64 (d.er:Nat),.int .i64 (d.line:Nat),.int .i64 (d.col:Nat),.int .i64 d.op] 33:=Ho.new _ _ _ rfl
 have HN7:=Lib.hid (HN6.out.step hA7)
 have HS7:=Lib.hid (HS6.out.below hA7)
 generalize w6.alloc (.cells #[.int .i64 (d.a:Nat),.int .i64 (d.er:Nat),.int .i64 (d.line:Nat),.int .i64 (d.col:Nat),.int .i64 d.op] 33)=w7 at hA7 hD7 HN7 HS7 ⊢
 obtain ⟨p0,p1,p2,p3,p4⟩:=pl5 hD7
 have hpl:=hD7.lt
 clear hA7 hD7
 go_wp2_with fail
 clear p0 p1 p2 p3 p4 hpl
 refine (HW.out _ HN7.out.below).mono ?_
 rintro e w8 ⟨rfl,k1⟩
 have HN8:=Lib.hid (HN7.out.step k1)
 have HS8:=Lib.hid (HS7.out.below k1)
 clear k1
 go_wp2_with fail
 refine (HSH.out _).mono ?_
 rintro e w9 ⟨rfl,k1⟩
 have HN9:=Lib.hid (HN8.out.step k1)
 have HR9:=Lib.hid (HS8.out.below k1)
 clear k1
 obtain ⟨q0,q1,q2,q3,q4⟩:=pl5 HN9.out.re
 obtain ⟨f0,f1,f2,f3,f4⟩:=pl5f HN9.out.re
 have hre:=HN9.out.re.lt
 go_wp2_with fail
 refine bodyPost_ret (v:=nodR v6 qr) ?_ rfl (nd_fin (r:=(so,qr)) HN9.out.re HN9.out.below HR9.out)
 refine cs_result2 rfl _ _ _ (a:=⟨w.heap.size + 1,0,none⟩) (by rfl) (by rfl) ?_
 unfold plV
 go_simp
set_option maxHeartbeats 16000000 in
set_option maxRecDepth 100000 in
theorem refPrimary_calls (ta:Option Addr) (tc k:Nat) (M:List Tk) (w0:World) (h:TkIn w0 37 ta M.length M) (hM:MOk M) (hM6:M.length ≤ 65536) (HU:RefC 8 0 k ta tc M w0):RefC 110 11 (k + 1) ta tc M w0:=by
 intro p o v w hb0 hk hv
 by_cases hm:isP M p [40]=true
 ·exact refPrimary_paren ta tc k M w0 h hM6 HU p o v w hb0 hk hv hm
 have hm:isP M p [40]=false:=by simpa using hm
 have hml:M.length ≤ 1000000:=by omega
 have hat:=hk.at'
 have HTK:=Lib.hid (fun w1 (hb:Below w.heap.size w w1)=>(h.below hb0).below hb)
 have HNB:=Lib.hid (UB.new w p)
 have HI2:Hid (∀ w1,Below w.heap.size w w1 → Calls Tryz.prog 16 #[.slice ta M.length tc,plV p,.string ⟨#[40]⟩] w1 fun e w'=>e=.returned (.bool false) ∧ Below w1.heap.size w1 w'):=Lib.hid (fun w1 hb=>by
  have:=refIs_calls ta tc M p ⟨#[40]⟩ w1 (HTK.out w1 hb) hml hat
  rw [show (⟨#[40]⟩:ByteArray).data.toList=[40] from rfl,hm] at this
  exact this)
 have HO:=Lib.hid (fun w1 (hb:Below w.heap.size w w1)=>hv.below hb)
 have HVA:=Lib.hid (fun w1 (hb:Below w.heap.size w w1)=>refValue_calls ta tc M p w1 (HTK.out w1 hb) hM hat)
 have hol:o.length ≤ 800000:=by have:=hk.len; omega
 have HCL:=Lib.hid hk.cl
 obtain ⟨va,vc,rfl⟩:=hv.slice
 obtain ⟨vd,hvd⟩:∃ vd,vd=(valueP M p).1:=⟨_,rfl⟩
 obtain ⟨q,hq⟩:∃ q,q=(valueP M p).2.1:=⟨_,rfl⟩
 obtain ⟨ok,hok⟩:∃ ok,ok=(valueP M p).2.2:=⟨_,rfl⟩
 obtain ⟨z,hz⟩:∃ z,z=stopP M p 16:=⟨_,rfl⟩
 obtain ⟨mn,hmn⟩:∃ mn,mn=isP M p [45]:=⟨_,rfl⟩
 rw [← hvd,← hq,← hok] at HVA
 have HI3:Hid (∀ w1,Below w.heap.size w w1 → Calls Tryz.prog 16 #[.slice ta M.length tc,plV p,.string ⟨#[45]⟩] w1 fun e w'=>e=.returned (.bool mn) ∧ Below w1.heap.size w1 w'):=Lib.hid (fun w1 hb=>by
  have:=refIs_calls ta tc M p ⟨#[45]⟩ w1 (HTK.out w1 hb) hml hat
  rw [show (⟨#[45]⟩:ByteArray).data.toList=[45] from rfl,← hmn] at this
  exact this)
 have HST:Hid (∀ w1,Below w.heap.size w w1 → Calls Tryz.prog 68 #[.slice ta M.length tc,plV p,.int .i64 16] w1 fun e w'=>e=.returned (plV z) ∧ Below w1.heap.size w1 w'):=Lib.hid (fun w1 hb=>by
  have:=refStop_calls ta tc 16 M p w1 (HTK.out w1 hb) hml hat
  rw [← hz] at this
  exact this)
 have HE:Hid (exprP M (k + 1) 11 p o=if p.er=0 ∧ (M[p.a]?.map fun t=>t.k == 1 && t.t != [95])=some true then nodeP M (skipP p) p.a o 17 0 0 (tkAt M p.a).t v0 else if ok=true ∧ mn=false then nodeP M q p.a o 1 0 0 [] vd else (o,z)):=Lib.hid (by rw [exprP_11',if_neg (by rw [hm]; decide),hvd,hq,hok,hmn,hz])
 have HVL:Hid (ok=true → p.er=0 ∧ p.a < M.length):=Lib.hid (fun e=>by
  rw [hok] at e
  unfold valueP at e
  split at e
  ·rename_i e0
   refine ⟨e0,?_⟩
   split at e
   ·cases e
   ·rename_i u hu
    exact (List.getElem?_eq_some_iff.1 hu).1
  ·cases e)
 have HND:Hid (ok=true → ∀ w1,Below w.heap.size w w1 → Calls Tryz.prog 18 #[.slice ta M.length tc,plV q,.int .i64 (p.a:Nat),.slice va o.length vc,exV ⟨1,0,0,⟨#[]⟩,vd,0,0⟩] w1 (NdPost (nodeP M q p.a o 1 0 0 [] vd) w1)):=Lib.hid (fun e w1 hb=>refNode_calls ta tc p.a M q o ⟨1,0,0,⟨#[]⟩,vd,0,0⟩ [] _ w1 (HTK.out w1 hb) hml (fun _=>(HVL.out e).2) rfl (HO.out w1 hb) (by omega) (fun _=>Cl.snoc (HCL.out (HVL.out e).1) (.inl (.inl rfl))))
 have n95:(⟨#[95]⟩:ByteArray).toList=[95]:=by rw [sc_tl]
 clear hvd hq hok hz hmn HVL
 by_cases he:p.er=0
 case neg =>
  have t1:((p.er:Int) == 0)=false:=by rw [beq_eq_false_iff_ne]; omega
  have HE2:Hid (exprP M (k + 1) 11 p o=if ok=true ∧ mn=false then nodeP M q p.a o 1 0 0 [] vd else (o,z)):=Lib.hid (by rw [HE.out,if_neg (fun k=>he k.1)])
  clear HE
  clear he
  clear hk hv h hb0 HU hM hM6 hm hat HTK HCL
  unfold plV at HI2 HI3 HST
  unfold valR plV vdV at HVA
  unfold plV exV at HND
  unfold plV
  generalize M.length=ml at *
  cases ok with
  | false =>
   rw [HE2.out,if_neg (fun k=>by cases k.1)]
   go_enter Tryz.func110,Tryz.ntmps110
   go_wp2_with fail
   generalize (w.alloc (.cells #[.int .i64 (p.a:Nat),.int .i64 (p.er:Nat),.int .i64 (p.line:Nat),.int .i64 (p.col:Nat),.int .i64 p.op] 33)).alloc (.cells #[.int .i64 0,.int .i64 0,.int .i64 0,.int .i64 0,.int .i64 0] 33)=w1 at HNB ⊢
   refine (HI2.out _ HNB.out.below).mono ?_
   rintro e w2 ⟨rfl,k1⟩
   have HN2:=Lib.hid (HNB.out.step k1)
   clear k1
   obtain ⟨p0,p1,p2,p3,p4⟩:=pl5 HN2.out.pl
   have hpl:=HN2.out.pl.lt
   go_wp2_with fail
   clear p0 p1 p2 p3 p4 hpl
   refine (HVA.out _ HN2.out.below).mono ?_
   rintro e w3 ⟨rfl,k1⟩
   have HN3:=Lib.hid (HN2.out.step k1)
   clear k1
   go_upto_region 7 with fail
   have hA4:Below w3.heap.size w3 ((w3.alloc (.cells #[.int .i64 vd.k,.int .i64 vd.i,.string vd.s,.bool vd.b] 39)).alloc (.cells #[.int .i64 (q.a:Nat),.int .i64 (q.er:Nat),.int .i64 (q.line:Nat),.int .i64 (q.col:Nat),.int .i64 q.op] 33)):=((Below.refl _ _).alloc (Nat.le_refl _) _).alloc (by simp) _
   have hV4:Ho ((w3.alloc (.cells #[.int .i64 vd.k,.int .i64 vd.i,.string vd.s,.bool vd.b] 39)).alloc (.cells #[.int .i64 (q.a:Nat),.int .i64 (q.er:Nat),.int .i64 (q.line:Nat),.int .i64 (q.col:Nat),.int .i64 q.op] 33)) w3.heap.size #[.int .i64 vd.k,.int .i64 vd.i,.string vd.s,.bool vd.b] 39:=(Ho.new _ _ _ rfl).alloc _
   have hQ4:Ho ((w3.alloc (.cells #[.int .i64 vd.k,.int .i64 vd.i,.string vd.s,.bool vd.b] 39)).alloc (.cells #[.int .i64 (q.a:Nat),.int .i64 (q.er:Nat),.int .i64 (q.line:Nat),.int .i64 (q.col:Nat),.int .i64 q.op] 33)) (w3.heap.size + 1) #[.int .i64 (q.a:Nat),.int .i64 (q.er:Nat),.int .i64 (q.line:Nat),.int .i64 (q.col:Nat),.int .i64 q.op] 33:=Ho.new _ _ _ (by simp)
   have hN4:=HN3.out.step hA4
   generalize (w3.alloc (.cells #[.int .i64 vd.k,.int .i64 vd.i,.string vd.s,.bool vd.b] 39)).alloc (.cells #[.int .i64 (q.a:Nat),.int .i64 (q.er:Nat),.int .i64 (q.line:Nat),.int .i64 (q.col:Nat),.int .i64 q.op] 33)=w4 at hA4 hV4 hQ4 hN4 ⊢
   have HN4:=Lib.hid hN4
   have HV4:=Lib.hid hV4
   have HQ4:=Lib.hid hQ4
   clear hA4 hN4 hV4 hQ4
   obtain ⟨p0,p1,p2,p3,p4⟩:=pl5 HN4.out.pl
   have hpl:=HN4.out.pl.lt
   go_wp2_with fail
   clear p0 p1 p2 p3 p4 hpl
   refine (HST.out _ HN4.out.below).mono ?_
   rintro e w8 ⟨rfl,k1⟩
   have HN8:=Lib.hid (HN4.out.step k1)
   have HR8:=Lib.hid (HO.out w8 HN8.out.below)
   clear k1
   obtain ⟨q0,q1,q2,q3,q4⟩:=pl5 HN8.out.re
   obtain ⟨f0,f1,f2,f3,f4⟩:=pl5f HN8.out.re
   have hre:=HN8.out.re.lt
   go_wp2_with fail
   refine bodyPost_ret (v:=nodR (.slice va o.length vc) z) ?_ rfl (nd_fin (r:=(o,z)) HN8.out.re HN8.out.below HR8.out)
   refine cs_result2 rfl _ _ _ (a:=⟨w.heap.size + 1,0,none⟩) (by rfl) (by rfl) ?_
   unfold plV
   go_simp
  | true =>
   cases mn with
   | true =>
    rw [HE2.out,if_neg (fun k=>by cases k.2)]
    go_enter Tryz.func110,Tryz.ntmps110
    go_wp2_with fail
    generalize (w.alloc (.cells #[.int .i64 (p.a:Nat),.int .i64 (p.er:Nat),.int .i64 (p.line:Nat),.int .i64 (p.col:Nat),.int .i64 p.op] 33)).alloc (.cells #[.int .i64 0,.int .i64 0,.int .i64 0,.int .i64 0,.int .i64 0] 33)=w1 at HNB ⊢
    refine (HI2.out _ HNB.out.below).mono ?_
    rintro e w2 ⟨rfl,k1⟩
    have HN2:=Lib.hid (HNB.out.step k1)
    clear k1
    obtain ⟨p0,p1,p2,p3,p4⟩:=pl5 HN2.out.pl
    have hpl:=HN2.out.pl.lt
    go_wp2_with fail
    clear p0 p1 p2 p3 p4 hpl
    refine (HVA.out _ HN2.out.below).mono ?_
    rintro e w3 ⟨rfl,k1⟩
    have HN3:=Lib.hid (HN2.out.step k1)
    clear k1
    go_upto_region 7 with fail
    have hA4:Below w3.heap.size w3 ((w3.alloc (.cells #[.int .i64 vd.k,.int .i64 vd.i,.string vd.s,.bool vd.b] 39)).alloc (.cells #[.int .i64 (q.a:Nat),.int .i64 (q.er:Nat),.int .i64 (q.line:Nat),.int .i64 (q.col:Nat),.int .i64 q.op] 33)):=((Below.refl _ _).alloc (Nat.le_refl _) _).alloc (by simp) _
    have hV4:Ho ((w3.alloc (.cells #[.int .i64 vd.k,.int .i64 vd.i,.string vd.s,.bool vd.b] 39)).alloc (.cells #[.int .i64 (q.a:Nat),.int .i64 (q.er:Nat),.int .i64 (q.line:Nat),.int .i64 (q.col:Nat),.int .i64 q.op] 33)) w3.heap.size #[.int .i64 vd.k,.int .i64 vd.i,.string vd.s,.bool vd.b] 39:=(Ho.new _ _ _ rfl).alloc _
    have hQ4:Ho ((w3.alloc (.cells #[.int .i64 vd.k,.int .i64 vd.i,.string vd.s,.bool vd.b] 39)).alloc (.cells #[.int .i64 (q.a:Nat),.int .i64 (q.er:Nat),.int .i64 (q.line:Nat),.int .i64 (q.col:Nat),.int .i64 q.op] 33)) (w3.heap.size + 1) #[.int .i64 (q.a:Nat),.int .i64 (q.er:Nat),.int .i64 (q.line:Nat),.int .i64 (q.col:Nat),.int .i64 q.op] 33:=Ho.new _ _ _ (by simp)
    have hN4:=HN3.out.step hA4
    generalize (w3.alloc (.cells #[.int .i64 vd.k,.int .i64 vd.i,.string vd.s,.bool vd.b] 39)).alloc (.cells #[.int .i64 (q.a:Nat),.int .i64 (q.er:Nat),.int .i64 (q.line:Nat),.int .i64 (q.col:Nat),.int .i64 q.op] 33)=w4 at hA4 hV4 hQ4 hN4 ⊢
    have HN4:=Lib.hid hN4
    have HV4:=Lib.hid hV4
    have HQ4:=Lib.hid hQ4
    clear hA4 hN4 hV4 hQ4
    obtain ⟨p0,p1,p2,p3,p4⟩:=pl5 HN4.out.pl
    have hpl:=HN4.out.pl.lt
    go_wp2_with fail
    clear p0 p1 p2 p3 p4 hpl
    refine (HI3.out _ HN4.out.below).mono ?_
    rintro e w5 ⟨rfl,k1⟩
    have HN5:=Lib.hid (HN4.out.step k1)
    have HV5:=Lib.hid (HV4.out.below k1)
    have HQ5:=Lib.hid (HQ4.out.below k1)
    clear k1
    obtain ⟨p0,p1,p2,p3,p4⟩:=pl5 HN5.out.pl
    have hpl:=HN5.out.pl.lt
    go_wp2_with fail
    clear p0 p1 p2 p3 p4 hpl
    refine (HST.out _ HN5.out.below).mono ?_
    rintro e w8 ⟨rfl,k1⟩
    have HN8:=Lib.hid (HN5.out.step k1)
    have HR8:=Lib.hid (HO.out w8 HN8.out.below)
    clear k1
    obtain ⟨q0,q1,q2,q3,q4⟩:=pl5 HN8.out.re
    obtain ⟨f0,f1,f2,f3,f4⟩:=pl5f HN8.out.re
    have hre:=HN8.out.re.lt
    go_wp2_with fail
    refine bodyPost_ret (v:=nodR (.slice va o.length vc) z) ?_ rfl (nd_fin (r:=(o,z)) HN8.out.re HN8.out.below HR8.out)
    refine cs_result2 rfl _ _ _ (a:=⟨w.heap.size + 1,0,none⟩) (by rfl) (by rfl) ?_
    unfold plV
    go_simp
   | false =>
    rw [HE2.out,if_pos ⟨rfl,rfl⟩]
    have HN9:=Lib.hid (HND.out rfl)
    clear HND
    have HND:=HN9
    clear HN9
    generalize nodeP M q p.a o 1 0 0 [] vd=R at HND ⊢
    go_enter Tryz.func110,Tryz.ntmps110
    go_wp2_with fail
    generalize (w.alloc (.cells #[.int .i64 (p.a:Nat),.int .i64 (p.er:Nat),.int .i64 (p.line:Nat),.int .i64 (p.col:Nat),.int .i64 p.op] 33)).alloc (.cells #[.int .i64 0,.int .i64 0,.int .i64 0,.int .i64 0,.int .i64 0] 33)=w1 at HNB ⊢
    refine (HI2.out _ HNB.out.below).mono ?_
    rintro e w2 ⟨rfl,k1⟩
    have HN2:=Lib.hid (HNB.out.step k1)
    clear k1
    obtain ⟨p0,p1,p2,p3,p4⟩:=pl5 HN2.out.pl
    have hpl:=HN2.out.pl.lt
    go_wp2_with fail
    clear p0 p1 p2 p3 p4 hpl
    refine (HVA.out _ HN2.out.below).mono ?_
    rintro e w3 ⟨rfl,k1⟩
    have HN3:=Lib.hid (HN2.out.step k1)
    clear k1
    go_upto_region 7 with fail
    have hA4:Below w3.heap.size w3 ((w3.alloc (.cells #[.int .i64 vd.k,.int .i64 vd.i,.string vd.s,.bool vd.b] 39)).alloc (.cells #[.int .i64 (q.a:Nat),.int .i64 (q.er:Nat),.int .i64 (q.line:Nat),.int .i64 (q.col:Nat),.int .i64 q.op] 33)):=((Below.refl _ _).alloc (Nat.le_refl _) _).alloc (by simp) _
    have hV4:Ho ((w3.alloc (.cells #[.int .i64 vd.k,.int .i64 vd.i,.string vd.s,.bool vd.b] 39)).alloc (.cells #[.int .i64 (q.a:Nat),.int .i64 (q.er:Nat),.int .i64 (q.line:Nat),.int .i64 (q.col:Nat),.int .i64 q.op] 33)) w3.heap.size #[.int .i64 vd.k,.int .i64 vd.i,.string vd.s,.bool vd.b] 39:=(Ho.new _ _ _ rfl).alloc _
    have hQ4:Ho ((w3.alloc (.cells #[.int .i64 vd.k,.int .i64 vd.i,.string vd.s,.bool vd.b] 39)).alloc (.cells #[.int .i64 (q.a:Nat),.int .i64 (q.er:Nat),.int .i64 (q.line:Nat),.int .i64 (q.col:Nat),.int .i64 q.op] 33)) (w3.heap.size + 1) #[.int .i64 (q.a:Nat),.int .i64 (q.er:Nat),.int .i64 (q.line:Nat),.int .i64 (q.col:Nat),.int .i64 q.op] 33:=Ho.new _ _ _ (by simp)
    have hN4:=HN3.out.step hA4
    generalize (w3.alloc (.cells #[.int .i64 vd.k,.int .i64 vd.i,.string vd.s,.bool vd.b] 39)).alloc (.cells #[.int .i64 (q.a:Nat),.int .i64 (q.er:Nat),.int .i64 (q.line:Nat),.int .i64 (q.col:Nat),.int .i64 q.op] 33)=w4 at hA4 hV4 hQ4 hN4 ⊢
    have HN4:=Lib.hid hN4
    have HV4:=Lib.hid hV4
    have HQ4:=Lib.hid hQ4
    clear hA4 hN4 hV4 hQ4
    obtain ⟨p0,p1,p2,p3,p4⟩:=pl5 HN4.out.pl
    have hpl:=HN4.out.pl.lt
    go_wp2_with fail
    clear p0 p1 p2 p3 p4 hpl
    refine (HI3.out _ HN4.out.below).mono ?_
    rintro e w5 ⟨rfl,k1⟩
    have HN5:=Lib.hid (HN4.out.step k1)
    have HV5:=Lib.hid (HV4.out.below k1)
    have HQ5:=Lib.hid (HQ4.out.below k1)
    clear k1
    obtain ⟨p0,p1,p2,p3,p4⟩:=pl5 HN5.out.pl
    have hpl:=HN5.out.pl.lt
    obtain ⟨x0,x1,x2,x3,_,_,_,_⟩:=vd_cells HV5.out
    obtain ⟨q0,q1,q2,q3,q4⟩:=pl5 HQ5.out
    have hvl:=HV5.out.lt
    have hql:=HQ5.out.lt
    go_wp2_with fail
    clear x0 x1 x2 x3 q0 q1 q2 q3 q4 p0 p1 p2 p3 p4 hpl hvl hql
    refine (HND.out _ HN5.out.below).mono ?_
    rintro e w6 ⟨v6,rfl,hn6,k1⟩
    have HN6:=Lib.hid (HN5.out.step k1)
    have HR6:=Lib.hid hn6
    clear k1 hn6
    obtain ⟨r0,qr⟩:=R
    unfold nodR plV
    obtain ⟨q0,q1,q2,q3,q4⟩:=pl5 HN6.out.re
    obtain ⟨f0,f1,f2,f3,f4⟩:=pl5f HN6.out.re
    have hre:=HN6.out.re.lt
    go_wp2_with fail
    refine bodyPost_ret (v:=nodR v6 qr) ?_ rfl (nd_fin (r:=(r0,qr)) HN6.out.re HN6.out.below HR6.out)
    refine cs_result2 rfl _ _ _ (a:=⟨w.heap.size + 1,0,none⟩) (by rfl) (by rfl) ?_
    unfold plV
    go_simp
 case pos =>
 have t1:((p.er:Int) == 0)=true:=by rw [he]; rfl
 by_cases hl:p.a < M.length
 case neg =>
  have t2:decide (p.a < M.length)=false:=decide_eq_false hl
  have HE2:Hid (exprP M (k + 1) 11 p o=if ok=true ∧ mn=false then nodeP M q p.a o 1 0 0 [] vd else (o,z)):=Lib.hid (by rw [HE.out,if_neg (fun k=>by rw [List.getElem?_eq_none (by omega)] at k; cases k.2)])
  clear HE
  clear he hl
  clear hk hv h hb0 HU hM hM6 hm hat HTK HCL
  unfold plV at HI2 HI3 HST
  unfold valR plV vdV at HVA
  unfold plV exV at HND
  unfold plV
  generalize M.length=ml at *
  cases ok with
  | false =>
   rw [HE2.out,if_neg (fun k=>by cases k.1)]
   go_enter Tryz.func110,Tryz.ntmps110
   go_wp2_with fail
   generalize (w.alloc (.cells #[.int .i64 (p.a:Nat),.int .i64 (p.er:Nat),.int .i64 (p.line:Nat),.int .i64 (p.col:Nat),.int .i64 p.op] 33)).alloc (.cells #[.int .i64 0,.int .i64 0,.int .i64 0,.int .i64 0,.int .i64 0] 33)=w1 at HNB ⊢
   refine (HI2.out _ HNB.out.below).mono ?_
   rintro e w2 ⟨rfl,k1⟩
   have HN2:=Lib.hid (HNB.out.step k1)
   clear k1
   obtain ⟨p0,p1,p2,p3,p4⟩:=pl5 HN2.out.pl
   have hpl:=HN2.out.pl.lt
   go_wp2_with fail
   clear p0 p1 p2 p3 p4 hpl
   refine (HVA.out _ HN2.out.below).mono ?_
   rintro e w3 ⟨rfl,k1⟩
   have HN3:=Lib.hid (HN2.out.step k1)
   clear k1
   go_upto_region 7 with fail
   have hA4:Below w3.heap.size w3 ((w3.alloc (.cells #[.int .i64 vd.k,.int .i64 vd.i,.string vd.s,.bool vd.b] 39)).alloc (.cells #[.int .i64 (q.a:Nat),.int .i64 (q.er:Nat),.int .i64 (q.line:Nat),.int .i64 (q.col:Nat),.int .i64 q.op] 33)):=((Below.refl _ _).alloc (Nat.le_refl _) _).alloc (by simp) _
   have hV4:Ho ((w3.alloc (.cells #[.int .i64 vd.k,.int .i64 vd.i,.string vd.s,.bool vd.b] 39)).alloc (.cells #[.int .i64 (q.a:Nat),.int .i64 (q.er:Nat),.int .i64 (q.line:Nat),.int .i64 (q.col:Nat),.int .i64 q.op] 33)) w3.heap.size #[.int .i64 vd.k,.int .i64 vd.i,.string vd.s,.bool vd.b] 39:=(Ho.new _ _ _ rfl).alloc _
   have hQ4:Ho ((w3.alloc (.cells #[.int .i64 vd.k,.int .i64 vd.i,.string vd.s,.bool vd.b] 39)).alloc (.cells #[.int .i64 (q.a:Nat),.int .i64 (q.er:Nat),.int .i64 (q.line:Nat),.int .i64 (q.col:Nat),.int .i64 q.op] 33)) (w3.heap.size + 1) #[.int .i64 (q.a:Nat),.int .i64 (q.er:Nat),.int .i64 (q.line:Nat),.int .i64 (q.col:Nat),.int .i64 q.op] 33:=Ho.new _ _ _ (by simp)
   have hN4:=HN3.out.step hA4
   generalize (w3.alloc (.cells #[.int .i64 vd.k,.int .i64 vd.i,.string vd.s,.bool vd.b] 39)).alloc (.cells #[.int .i64 (q.a:Nat),.int .i64 (q.er:Nat),.int .i64 (q.line:Nat),.int .i64 (q.col:Nat),.int .i64 q.op] 33)=w4 at hA4 hV4 hQ4 hN4 ⊢
   have HN4:=Lib.hid hN4
   have HV4:=Lib.hid hV4
   have HQ4:=Lib.hid hQ4
   clear hA4 hN4 hV4 hQ4
   obtain ⟨p0,p1,p2,p3,p4⟩:=pl5 HN4.out.pl
   have hpl:=HN4.out.pl.lt
   go_wp2_with fail
   clear p0 p1 p2 p3 p4 hpl
   refine (HST.out _ HN4.out.below).mono ?_
   rintro e w8 ⟨rfl,k1⟩
   have HN8:=Lib.hid (HN4.out.step k1)
   have HR8:=Lib.hid (HO.out w8 HN8.out.below)
   clear k1
   obtain ⟨q0,q1,q2,q3,q4⟩:=pl5 HN8.out.re
   obtain ⟨f0,f1,f2,f3,f4⟩:=pl5f HN8.out.re
   have hre:=HN8.out.re.lt
   go_wp2_with fail
   refine bodyPost_ret (v:=nodR (.slice va o.length vc) z) ?_ rfl (nd_fin (r:=(o,z)) HN8.out.re HN8.out.below HR8.out)
   refine cs_result2 rfl _ _ _ (a:=⟨w.heap.size + 1,0,none⟩) (by rfl) (by rfl) ?_
   unfold plV
   go_simp
  | true =>
   cases mn with
   | true =>
    rw [HE2.out,if_neg (fun k=>by cases k.2)]
    go_enter Tryz.func110,Tryz.ntmps110
    go_wp2_with fail
    generalize (w.alloc (.cells #[.int .i64 (p.a:Nat),.int .i64 (p.er:Nat),.int .i64 (p.line:Nat),.int .i64 (p.col:Nat),.int .i64 p.op] 33)).alloc (.cells #[.int .i64 0,.int .i64 0,.int .i64 0,.int .i64 0,.int .i64 0] 33)=w1 at HNB ⊢
    refine (HI2.out _ HNB.out.below).mono ?_
    rintro e w2 ⟨rfl,k1⟩
    have HN2:=Lib.hid (HNB.out.step k1)
    clear k1
    obtain ⟨p0,p1,p2,p3,p4⟩:=pl5 HN2.out.pl
    have hpl:=HN2.out.pl.lt
    go_wp2_with fail
    clear p0 p1 p2 p3 p4 hpl
    refine (HVA.out _ HN2.out.below).mono ?_
    rintro e w3 ⟨rfl,k1⟩
    have HN3:=Lib.hid (HN2.out.step k1)
    clear k1
    go_upto_region 7 with fail
    have hA4:Below w3.heap.size w3 ((w3.alloc (.cells #[.int .i64 vd.k,.int .i64 vd.i,.string vd.s,.bool vd.b] 39)).alloc (.cells #[.int .i64 (q.a:Nat),.int .i64 (q.er:Nat),.int .i64 (q.line:Nat),.int .i64 (q.col:Nat),.int .i64 q.op] 33)):=((Below.refl _ _).alloc (Nat.le_refl _) _).alloc (by simp) _
    have hV4:Ho ((w3.alloc (.cells #[.int .i64 vd.k,.int .i64 vd.i,.string vd.s,.bool vd.b] 39)).alloc (.cells #[.int .i64 (q.a:Nat),.int .i64 (q.er:Nat),.int .i64 (q.line:Nat),.int .i64 (q.col:Nat),.int .i64 q.op] 33)) w3.heap.size #[.int .i64 vd.k,.int .i64 vd.i,.string vd.s,.bool vd.b] 39:=(Ho.new _ _ _ rfl).alloc _
    have hQ4:Ho ((w3.alloc (.cells #[.int .i64 vd.k,.int .i64 vd.i,.string vd.s,.bool vd.b] 39)).alloc (.cells #[.int .i64 (q.a:Nat),.int .i64 (q.er:Nat),.int .i64 (q.line:Nat),.int .i64 (q.col:Nat),.int .i64 q.op] 33)) (w3.heap.size + 1) #[.int .i64 (q.a:Nat),.int .i64 (q.er:Nat),.int .i64 (q.line:Nat),.int .i64 (q.col:Nat),.int .i64 q.op] 33:=Ho.new _ _ _ (by simp)
    have hN4:=HN3.out.step hA4
    generalize (w3.alloc (.cells #[.int .i64 vd.k,.int .i64 vd.i,.string vd.s,.bool vd.b] 39)).alloc (.cells #[.int .i64 (q.a:Nat),.int .i64 (q.er:Nat),.int .i64 (q.line:Nat),.int .i64 (q.col:Nat),.int .i64 q.op] 33)=w4 at hA4 hV4 hQ4 hN4 ⊢
    have HN4:=Lib.hid hN4
    have HV4:=Lib.hid hV4
    have HQ4:=Lib.hid hQ4
    clear hA4 hN4 hV4 hQ4
    obtain ⟨p0,p1,p2,p3,p4⟩:=pl5 HN4.out.pl
    have hpl:=HN4.out.pl.lt
    go_wp2_with fail
    clear p0 p1 p2 p3 p4 hpl
    refine (HI3.out _ HN4.out.below).mono ?_
    rintro e w5 ⟨rfl,k1⟩
    have HN5:=Lib.hid (HN4.out.step k1)
    have HV5:=Lib.hid (HV4.out.below k1)
    have HQ5:=Lib.hid (HQ4.out.below k1)
    clear k1
    obtain ⟨p0,p1,p2,p3,p4⟩:=pl5 HN5.out.pl
    have hpl:=HN5.out.pl.lt
    go_wp2_with fail
    clear p0 p1 p2 p3 p4 hpl
    refine (HST.out _ HN5.out.below).mono ?_
    rintro e w8 ⟨rfl,k1⟩
    have HN8:=Lib.hid (HN5.out.step k1)
    have HR8:=Lib.hid (HO.out w8 HN8.out.below)
    clear k1
    obtain ⟨q0,q1,q2,q3,q4⟩:=pl5 HN8.out.re
    obtain ⟨f0,f1,f2,f3,f4⟩:=pl5f HN8.out.re
    have hre:=HN8.out.re.lt
    go_wp2_with fail
    refine bodyPost_ret (v:=nodR (.slice va o.length vc) z) ?_ rfl (nd_fin (r:=(o,z)) HN8.out.re HN8.out.below HR8.out)
    refine cs_result2 rfl _ _ _ (a:=⟨w.heap.size + 1,0,none⟩) (by rfl) (by rfl) ?_
    unfold plV
    go_simp
   | false =>
    rw [HE2.out,if_pos ⟨rfl,rfl⟩]
    have HN9:=Lib.hid (HND.out rfl)
    clear HND
    have HND:=HN9
    clear HN9
    generalize nodeP M q p.a o 1 0 0 [] vd=R at HND ⊢
    go_enter Tryz.func110,Tryz.ntmps110
    go_wp2_with fail
    generalize (w.alloc (.cells #[.int .i64 (p.a:Nat),.int .i64 (p.er:Nat),.int .i64 (p.line:Nat),.int .i64 (p.col:Nat),.int .i64 p.op] 33)).alloc (.cells #[.int .i64 0,.int .i64 0,.int .i64 0,.int .i64 0,.int .i64 0] 33)=w1 at HNB ⊢
    refine (HI2.out _ HNB.out.below).mono ?_
    rintro e w2 ⟨rfl,k1⟩
    have HN2:=Lib.hid (HNB.out.step k1)
    clear k1
    obtain ⟨p0,p1,p2,p3,p4⟩:=pl5 HN2.out.pl
    have hpl:=HN2.out.pl.lt
    go_wp2_with fail
    clear p0 p1 p2 p3 p4 hpl
    refine (HVA.out _ HN2.out.below).mono ?_
    rintro e w3 ⟨rfl,k1⟩
    have HN3:=Lib.hid (HN2.out.step k1)
    clear k1
    go_upto_region 7 with fail
    have hA4:Below w3.heap.size w3 ((w3.alloc (.cells #[.int .i64 vd.k,.int .i64 vd.i,.string vd.s,.bool vd.b] 39)).alloc (.cells #[.int .i64 (q.a:Nat),.int .i64 (q.er:Nat),.int .i64 (q.line:Nat),.int .i64 (q.col:Nat),.int .i64 q.op] 33)):=((Below.refl _ _).alloc (Nat.le_refl _) _).alloc (by simp) _
    have hV4:Ho ((w3.alloc (.cells #[.int .i64 vd.k,.int .i64 vd.i,.string vd.s,.bool vd.b] 39)).alloc (.cells #[.int .i64 (q.a:Nat),.int .i64 (q.er:Nat),.int .i64 (q.line:Nat),.int .i64 (q.col:Nat),.int .i64 q.op] 33)) w3.heap.size #[.int .i64 vd.k,.int .i64 vd.i,.string vd.s,.bool vd.b] 39:=(Ho.new _ _ _ rfl).alloc _
    have hQ4:Ho ((w3.alloc (.cells #[.int .i64 vd.k,.int .i64 vd.i,.string vd.s,.bool vd.b] 39)).alloc (.cells #[.int .i64 (q.a:Nat),.int .i64 (q.er:Nat),.int .i64 (q.line:Nat),.int .i64 (q.col:Nat),.int .i64 q.op] 33)) (w3.heap.size + 1) #[.int .i64 (q.a:Nat),.int .i64 (q.er:Nat),.int .i64 (q.line:Nat),.int .i64 (q.col:Nat),.int .i64 q.op] 33:=Ho.new _ _ _ (by simp)
    have hN4:=HN3.out.step hA4
    generalize (w3.alloc (.cells #[.int .i64 vd.k,.int .i64 vd.i,.string vd.s,.bool vd.b] 39)).alloc (.cells #[.int .i64 (q.a:Nat),.int .i64 (q.er:Nat),.int .i64 (q.line:Nat),.int .i64 (q.col:Nat),.int .i64 q.op] 33)=w4 at hA4 hV4 hQ4 hN4 ⊢
    have HN4:=Lib.hid hN4
    have HV4:=Lib.hid hV4
    have HQ4:=Lib.hid hQ4
    clear hA4 hN4 hV4 hQ4
    obtain ⟨p0,p1,p2,p3,p4⟩:=pl5 HN4.out.pl
    have hpl:=HN4.out.pl.lt
    go_wp2_with fail
    clear p0 p1 p2 p3 p4 hpl
    refine (HI3.out _ HN4.out.below).mono ?_
    rintro e w5 ⟨rfl,k1⟩
    have HN5:=Lib.hid (HN4.out.step k1)
    have HV5:=Lib.hid (HV4.out.below k1)
    have HQ5:=Lib.hid (HQ4.out.below k1)
    clear k1
    obtain ⟨p0,p1,p2,p3,p4⟩:=pl5 HN5.out.pl
    have hpl:=HN5.out.pl.lt
    obtain ⟨x0,x1,x2,x3,_,_,_,_⟩:=vd_cells HV5.out
    obtain ⟨q0,q1,q2,q3,q4⟩:=pl5 HQ5.out
    have hvl:=HV5.out.lt
    have hql:=HQ5.out.lt
    go_wp2_with fail
    clear x0 x1 x2 x3 q0 q1 q2 q3 q4 p0 p1 p2 p3 p4 hpl hvl hql
    refine (HND.out _ HN5.out.below).mono ?_
    rintro e w6 ⟨v6,rfl,hn6,k1⟩
    have HN6:=Lib.hid (HN5.out.step k1)
    have HR6:=Lib.hid hn6
    clear k1 hn6
    obtain ⟨r0,qr⟩:=R
    unfold nodR plV
    obtain ⟨q0,q1,q2,q3,q4⟩:=pl5 HN6.out.re
    obtain ⟨f0,f1,f2,f3,f4⟩:=pl5f HN6.out.re
    have hre:=HN6.out.re.lt
    go_wp2_with fail
    refine bodyPost_ret (v:=nodR v6 qr) ?_ rfl (nd_fin (r:=(r0,qr)) HN6.out.re HN6.out.below HR6.out)
    refine cs_result2 rfl _ _ _ (a:=⟨w.heap.size + 1,0,none⟩) (by rfl) (by rfl) ?_
    unfold plV
    go_simp
 case pos =>
 have t2:decide (p.a < M.length)=true:=decide_eq_true hl
 have t3:p.a < M.length:=hl
 obtain ⟨tb,off,rfl,htb,d0,d1,_,_⟩:=rtk_cells (h.below hb0) hl
 have hxt:=tk_at hl
 obtain ⟨x,hx⟩:∃ x,x=tkAt M p.a:=⟨_,rfl⟩
 rw [← hx] at d0 d1 hxt HE
 by_cases k1:x.k=1
 case neg =>
  have t4:((x.k:Int) == 1)=false:=by rw [beq_eq_false_iff_ne]; omega
  have HE2:Hid (exprP M (k + 1) 11 p o=if ok=true ∧ mn=false then nodeP M q p.a o 1 0 0 [] vd else (o,z)):=Lib.hid (by rw [HE.out,if_neg (fun k=>by rw [hxt] at k; have k2:=k.2; simp [beq_eq_false_iff_ne.2 k1] at k2)])
  clear HE
  clear he hl hx hxt k1
  clear hk hv h hb0 HU hM hM6 hm hat HTK HCL
  unfold plV at HI2 HI3 HST
  unfold valR plV vdV at HVA
  unfold plV exV at HND
  unfold plV
  generalize M.length=ml at *
  cases ok with
  | false =>
   rw [HE2.out,if_neg (fun k=>by cases k.1)]
   go_enter Tryz.func110,Tryz.ntmps110
   go_wp2_with fail
   generalize (w.alloc (.cells #[.int .i64 (p.a:Nat),.int .i64 (p.er:Nat),.int .i64 (p.line:Nat),.int .i64 (p.col:Nat),.int .i64 p.op] 33)).alloc (.cells #[.int .i64 0,.int .i64 0,.int .i64 0,.int .i64 0,.int .i64 0] 33)=w1 at HNB ⊢
   refine (HI2.out _ HNB.out.below).mono ?_
   rintro e w2 ⟨rfl,k1⟩
   have HN2:=Lib.hid (HNB.out.step k1)
   clear k1
   obtain ⟨p0,p1,p2,p3,p4⟩:=pl5 HN2.out.pl
   have hpl:=HN2.out.pl.lt
   have e0:w2.cell? ⟨tb,off + p.a * 4,none⟩=some (.int .i64 (x.k:Nat)):=(HN2.out.below.cell (p:=⟨tb,_,none⟩) htb).trans d0
   have e1:w2.cell? ⟨tb,off + p.a * 4 + 1,none⟩=some (.string ⟨x.t.toArray⟩):=(HN2.out.below.cell (p:=⟨tb,_,none⟩) htb).trans d1
   have htz:tb < w2.heap.size:=by have:=HN2.out.below.size; omega
   go_wp2_with fail
   clear p0 p1 p2 p3 p4 hpl e0 e1 htz
   refine (HVA.out _ HN2.out.below).mono ?_
   rintro e w3 ⟨rfl,k1⟩
   have HN3:=Lib.hid (HN2.out.step k1)
   clear k1
   go_upto_region 7 with fail
   have hA4:Below w3.heap.size w3 ((w3.alloc (.cells #[.int .i64 vd.k,.int .i64 vd.i,.string vd.s,.bool vd.b] 39)).alloc (.cells #[.int .i64 (q.a:Nat),.int .i64 (q.er:Nat),.int .i64 (q.line:Nat),.int .i64 (q.col:Nat),.int .i64 q.op] 33)):=((Below.refl _ _).alloc (Nat.le_refl _) _).alloc (by simp) _
   have hV4:Ho ((w3.alloc (.cells #[.int .i64 vd.k,.int .i64 vd.i,.string vd.s,.bool vd.b] 39)).alloc (.cells #[.int .i64 (q.a:Nat),.int .i64 (q.er:Nat),.int .i64 (q.line:Nat),.int .i64 (q.col:Nat),.int .i64 q.op] 33)) w3.heap.size #[.int .i64 vd.k,.int .i64 vd.i,.string vd.s,.bool vd.b] 39:=(Ho.new _ _ _ rfl).alloc _
   have hQ4:Ho ((w3.alloc (.cells #[.int .i64 vd.k,.int .i64 vd.i,.string vd.s,.bool vd.b] 39)).alloc (.cells #[.int .i64 (q.a:Nat),.int .i64 (q.er:Nat),.int .i64 (q.line:Nat),.int .i64 (q.col:Nat),.int .i64 q.op] 33)) (w3.heap.size + 1) #[.int .i64 (q.a:Nat),.int .i64 (q.er:Nat),.int .i64 (q.line:Nat),.int .i64 (q.col:Nat),.int .i64 q.op] 33:=Ho.new _ _ _ (by simp)
   have hN4:=HN3.out.step hA4
   generalize (w3.alloc (.cells #[.int .i64 vd.k,.int .i64 vd.i,.string vd.s,.bool vd.b] 39)).alloc (.cells #[.int .i64 (q.a:Nat),.int .i64 (q.er:Nat),.int .i64 (q.line:Nat),.int .i64 (q.col:Nat),.int .i64 q.op] 33)=w4 at hA4 hV4 hQ4 hN4 ⊢
   have HN4:=Lib.hid hN4
   have HV4:=Lib.hid hV4
   have HQ4:=Lib.hid hQ4
   clear hA4 hN4 hV4 hQ4
   obtain ⟨p0,p1,p2,p3,p4⟩:=pl5 HN4.out.pl
   have hpl:=HN4.out.pl.lt
   go_wp2_with fail
   clear p0 p1 p2 p3 p4 hpl
   refine (HST.out _ HN4.out.below).mono ?_
   rintro e w8 ⟨rfl,k1⟩
   have HN8:=Lib.hid (HN4.out.step k1)
   have HR8:=Lib.hid (HO.out w8 HN8.out.below)
   clear k1
   obtain ⟨q0,q1,q2,q3,q4⟩:=pl5 HN8.out.re
   obtain ⟨f0,f1,f2,f3,f4⟩:=pl5f HN8.out.re
   have hre:=HN8.out.re.lt
   go_wp2_with fail
   refine bodyPost_ret (v:=nodR (.slice va o.length vc) z) ?_ rfl (nd_fin (r:=(o,z)) HN8.out.re HN8.out.below HR8.out)
   refine cs_result2 rfl _ _ _ (a:=⟨w.heap.size + 1,0,none⟩) (by rfl) (by rfl) ?_
   unfold plV
   go_simp
  | true =>
   cases mn with
   | true =>
    rw [HE2.out,if_neg (fun k=>by cases k.2)]
    go_enter Tryz.func110,Tryz.ntmps110
    go_wp2_with fail
    generalize (w.alloc (.cells #[.int .i64 (p.a:Nat),.int .i64 (p.er:Nat),.int .i64 (p.line:Nat),.int .i64 (p.col:Nat),.int .i64 p.op] 33)).alloc (.cells #[.int .i64 0,.int .i64 0,.int .i64 0,.int .i64 0,.int .i64 0] 33)=w1 at HNB ⊢
    refine (HI2.out _ HNB.out.below).mono ?_
    rintro e w2 ⟨rfl,k1⟩
    have HN2:=Lib.hid (HNB.out.step k1)
    clear k1
    obtain ⟨p0,p1,p2,p3,p4⟩:=pl5 HN2.out.pl
    have hpl:=HN2.out.pl.lt
    have e0:w2.cell? ⟨tb,off + p.a * 4,none⟩=some (.int .i64 (x.k:Nat)):=(HN2.out.below.cell (p:=⟨tb,_,none⟩) htb).trans d0
    have e1:w2.cell? ⟨tb,off + p.a * 4 + 1,none⟩=some (.string ⟨x.t.toArray⟩):=(HN2.out.below.cell (p:=⟨tb,_,none⟩) htb).trans d1
    have htz:tb < w2.heap.size:=by have:=HN2.out.below.size; omega
    go_wp2_with fail
    clear p0 p1 p2 p3 p4 hpl e0 e1 htz
    refine (HVA.out _ HN2.out.below).mono ?_
    rintro e w3 ⟨rfl,k1⟩
    have HN3:=Lib.hid (HN2.out.step k1)
    clear k1
    go_upto_region 7 with fail
    have hA4:Below w3.heap.size w3 ((w3.alloc (.cells #[.int .i64 vd.k,.int .i64 vd.i,.string vd.s,.bool vd.b] 39)).alloc (.cells #[.int .i64 (q.a:Nat),.int .i64 (q.er:Nat),.int .i64 (q.line:Nat),.int .i64 (q.col:Nat),.int .i64 q.op] 33)):=((Below.refl _ _).alloc (Nat.le_refl _) _).alloc (by simp) _
    have hV4:Ho ((w3.alloc (.cells #[.int .i64 vd.k,.int .i64 vd.i,.string vd.s,.bool vd.b] 39)).alloc (.cells #[.int .i64 (q.a:Nat),.int .i64 (q.er:Nat),.int .i64 (q.line:Nat),.int .i64 (q.col:Nat),.int .i64 q.op] 33)) w3.heap.size #[.int .i64 vd.k,.int .i64 vd.i,.string vd.s,.bool vd.b] 39:=(Ho.new _ _ _ rfl).alloc _
    have hQ4:Ho ((w3.alloc (.cells #[.int .i64 vd.k,.int .i64 vd.i,.string vd.s,.bool vd.b] 39)).alloc (.cells #[.int .i64 (q.a:Nat),.int .i64 (q.er:Nat),.int .i64 (q.line:Nat),.int .i64 (q.col:Nat),.int .i64 q.op] 33)) (w3.heap.size + 1) #[.int .i64 (q.a:Nat),.int .i64 (q.er:Nat),.int .i64 (q.line:Nat),.int .i64 (q.col:Nat),.int .i64 q.op] 33:=Ho.new _ _ _ (by simp)
    have hN4:=HN3.out.step hA4
    generalize (w3.alloc (.cells #[.int .i64 vd.k,.int .i64 vd.i,.string vd.s,.bool vd.b] 39)).alloc (.cells #[.int .i64 (q.a:Nat),.int .i64 (q.er:Nat),.int .i64 (q.line:Nat),.int .i64 (q.col:Nat),.int .i64 q.op] 33)=w4 at hA4 hV4 hQ4 hN4 ⊢
    have HN4:=Lib.hid hN4
    have HV4:=Lib.hid hV4
    have HQ4:=Lib.hid hQ4
    clear hA4 hN4 hV4 hQ4
    obtain ⟨p0,p1,p2,p3,p4⟩:=pl5 HN4.out.pl
    have hpl:=HN4.out.pl.lt
    go_wp2_with fail
    clear p0 p1 p2 p3 p4 hpl
    refine (HI3.out _ HN4.out.below).mono ?_
    rintro e w5 ⟨rfl,k1⟩
    have HN5:=Lib.hid (HN4.out.step k1)
    have HV5:=Lib.hid (HV4.out.below k1)
    have HQ5:=Lib.hid (HQ4.out.below k1)
    clear k1
    obtain ⟨p0,p1,p2,p3,p4⟩:=pl5 HN5.out.pl
    have hpl:=HN5.out.pl.lt
    go_wp2_with fail
    clear p0 p1 p2 p3 p4 hpl
    refine (HST.out _ HN5.out.below).mono ?_
    rintro e w8 ⟨rfl,k1⟩
    have HN8:=Lib.hid (HN5.out.step k1)
    have HR8:=Lib.hid (HO.out w8 HN8.out.below)
    clear k1
    obtain ⟨q0,q1,q2,q3,q4⟩:=pl5 HN8.out.re
    obtain ⟨f0,f1,f2,f3,f4⟩:=pl5f HN8.out.re
    have hre:=HN8.out.re.lt
    go_wp2_with fail
    refine bodyPost_ret (v:=nodR (.slice va o.length vc) z) ?_ rfl (nd_fin (r:=(o,z)) HN8.out.re HN8.out.below HR8.out)
    refine cs_result2 rfl _ _ _ (a:=⟨w.heap.size + 1,0,none⟩) (by rfl) (by rfl) ?_
    unfold plV
    go_simp
   | false =>
    rw [HE2.out,if_pos ⟨rfl,rfl⟩]
    have HN9:=Lib.hid (HND.out rfl)
    clear HND
    have HND:=HN9
    clear HN9
    generalize nodeP M q p.a o 1 0 0 [] vd=R at HND ⊢
    go_enter Tryz.func110,Tryz.ntmps110
    go_wp2_with fail
    generalize (w.alloc (.cells #[.int .i64 (p.a:Nat),.int .i64 (p.er:Nat),.int .i64 (p.line:Nat),.int .i64 (p.col:Nat),.int .i64 p.op] 33)).alloc (.cells #[.int .i64 0,.int .i64 0,.int .i64 0,.int .i64 0,.int .i64 0] 33)=w1 at HNB ⊢
    refine (HI2.out _ HNB.out.below).mono ?_
    rintro e w2 ⟨rfl,k1⟩
    have HN2:=Lib.hid (HNB.out.step k1)
    clear k1
    obtain ⟨p0,p1,p2,p3,p4⟩:=pl5 HN2.out.pl
    have hpl:=HN2.out.pl.lt
    have e0:w2.cell? ⟨tb,off + p.a * 4,none⟩=some (.int .i64 (x.k:Nat)):=(HN2.out.below.cell (p:=⟨tb,_,none⟩) htb).trans d0
    have e1:w2.cell? ⟨tb,off + p.a * 4 + 1,none⟩=some (.string ⟨x.t.toArray⟩):=(HN2.out.below.cell (p:=⟨tb,_,none⟩) htb).trans d1
    have htz:tb < w2.heap.size:=by have:=HN2.out.below.size; omega
    go_wp2_with fail
    clear p0 p1 p2 p3 p4 hpl e0 e1 htz
    refine (HVA.out _ HN2.out.below).mono ?_
    rintro e w3 ⟨rfl,k1⟩
    have HN3:=Lib.hid (HN2.out.step k1)
    clear k1
    go_upto_region 7 with fail
    have hA4:Below w3.heap.size w3 ((w3.alloc (.cells #[.int .i64 vd.k,.int .i64 vd.i,.string vd.s,.bool vd.b] 39)).alloc (.cells #[.int .i64 (q.a:Nat),.int .i64 (q.er:Nat),.int .i64 (q.line:Nat),.int .i64 (q.col:Nat),.int .i64 q.op] 33)):=((Below.refl _ _).alloc (Nat.le_refl _) _).alloc (by simp) _
    have hV4:Ho ((w3.alloc (.cells #[.int .i64 vd.k,.int .i64 vd.i,.string vd.s,.bool vd.b] 39)).alloc (.cells #[.int .i64 (q.a:Nat),.int .i64 (q.er:Nat),.int .i64 (q.line:Nat),.int .i64 (q.col:Nat),.int .i64 q.op] 33)) w3.heap.size #[.int .i64 vd.k,.int .i64 vd.i,.string vd.s,.bool vd.b] 39:=(Ho.new _ _ _ rfl).alloc _
    have hQ4:Ho ((w3.alloc (.cells #[.int .i64 vd.k,.int .i64 vd.i,.string vd.s,.bool vd.b] 39)).alloc (.cells #[.int .i64 (q.a:Nat),.int .i64 (q.er:Nat),.int .i64 (q.line:Nat),.int .i64 (q.col:Nat),.int .i64 q.op] 33)) (w3.heap.size + 1) #[.int .i64 (q.a:Nat),.int .i64 (q.er:Nat),.int .i64 (q.line:Nat),.int .i64 (q.col:Nat),.int .i64 q.op] 33:=Ho.new _ _ _ (by simp)
    have hN4:=HN3.out.step hA4
    generalize (w3.alloc (.cells #[.int .i64 vd.k,.int .i64 vd.i,.string vd.s,.bool vd.b] 39)).alloc (.cells #[.int .i64 (q.a:Nat),.int .i64 (q.er:Nat),.int .i64 (q.line:Nat),.int .i64 (q.col:Nat),.int .i64 q.op] 33)=w4 at hA4 hV4 hQ4 hN4 ⊢
    have HN4:=Lib.hid hN4
    have HV4:=Lib.hid hV4
    have HQ4:=Lib.hid hQ4
    clear hA4 hN4 hV4 hQ4
    obtain ⟨p0,p1,p2,p3,p4⟩:=pl5 HN4.out.pl
    have hpl:=HN4.out.pl.lt
    go_wp2_with fail
    clear p0 p1 p2 p3 p4 hpl
    refine (HI3.out _ HN4.out.below).mono ?_
    rintro e w5 ⟨rfl,k1⟩
    have HN5:=Lib.hid (HN4.out.step k1)
    have HV5:=Lib.hid (HV4.out.below k1)
    have HQ5:=Lib.hid (HQ4.out.below k1)
    clear k1
    obtain ⟨p0,p1,p2,p3,p4⟩:=pl5 HN5.out.pl
    have hpl:=HN5.out.pl.lt
    obtain ⟨x0,x1,x2,x3,_,_,_,_⟩:=vd_cells HV5.out
    obtain ⟨q0,q1,q2,q3,q4⟩:=pl5 HQ5.out
    have hvl:=HV5.out.lt
    have hql:=HQ5.out.lt
    go_wp2_with fail
    clear x0 x1 x2 x3 q0 q1 q2 q3 q4 p0 p1 p2 p3 p4 hpl hvl hql
    refine (HND.out _ HN5.out.below).mono ?_
    rintro e w6 ⟨v6,rfl,hn6,k1⟩
    have HN6:=Lib.hid (HN5.out.step k1)
    have HR6:=Lib.hid hn6
    clear k1 hn6
    obtain ⟨r0,qr⟩:=R
    unfold nodR plV
    obtain ⟨q0,q1,q2,q3,q4⟩:=pl5 HN6.out.re
    obtain ⟨f0,f1,f2,f3,f4⟩:=pl5f HN6.out.re
    have hre:=HN6.out.re.lt
    go_wp2_with fail
    refine bodyPost_ret (v:=nodR v6 qr) ?_ rfl (nd_fin (r:=(r0,qr)) HN6.out.re HN6.out.below HR6.out)
    refine cs_result2 rfl _ _ _ (a:=⟨w.heap.size + 1,0,none⟩) (by rfl) (by rfl) ?_
    unfold plV
    go_simp
 case pos =>
 have t4:((x.k:Int) == 1)=true:=by rw [k1]; rfl
 by_cases k95:x.t=[95]
 case pos =>
  have t5:(x.t == [95])=true:=by rw [k95]; rfl
  have t6:(x.t != [95])=false:=by rw [k95]; rfl
  have HE2:Hid (exprP M (k + 1) 11 p o=if ok=true ∧ mn=false then nodeP M q p.a o 1 0 0 [] vd else (o,z)):=Lib.hid (by rw [HE.out,if_neg (fun k=>by rw [hxt] at k; have k2:=k.2; simp [k95] at k2)])
  clear HE
  clear he hl hx hxt k1 k95
  clear hk hv h hb0 HU hM hM6 hm hat HTK HCL
  unfold plV at HI2 HI3 HST
  unfold valR plV vdV at HVA
  unfold plV exV at HND
  unfold plV
  generalize M.length=ml at *
  cases ok with
  | false =>
   rw [HE2.out,if_neg (fun k=>by cases k.1)]
   go_enter Tryz.func110,Tryz.ntmps110
   go_wp2_with fail
   generalize (w.alloc (.cells #[.int .i64 (p.a:Nat),.int .i64 (p.er:Nat),.int .i64 (p.line:Nat),.int .i64 (p.col:Nat),.int .i64 p.op] 33)).alloc (.cells #[.int .i64 0,.int .i64 0,.int .i64 0,.int .i64 0,.int .i64 0] 33)=w1 at HNB ⊢
   refine (HI2.out _ HNB.out.below).mono ?_
   rintro e w2 ⟨rfl,k1⟩
   have HN2:=Lib.hid (HNB.out.step k1)
   clear k1
   obtain ⟨p0,p1,p2,p3,p4⟩:=pl5 HN2.out.pl
   have hpl:=HN2.out.pl.lt
   have e0:w2.cell? ⟨tb,off + p.a * 4,none⟩=some (.int .i64 (x.k:Nat)):=(HN2.out.below.cell (p:=⟨tb,_,none⟩) htb).trans d0
   have e1:w2.cell? ⟨tb,off + p.a * 4 + 1,none⟩=some (.string ⟨x.t.toArray⟩):=(HN2.out.below.cell (p:=⟨tb,_,none⟩) htb).trans d1
   have htz:tb < w2.heap.size:=by have:=HN2.out.below.size; omega
   go_wp2_with fail
   clear p0 p1 p2 p3 p4 hpl e0 e1 htz
   refine (HVA.out _ HN2.out.below).mono ?_
   rintro e w3 ⟨rfl,k1⟩
   have HN3:=Lib.hid (HN2.out.step k1)
   clear k1
   go_upto_region 7 with fail
   have hA4:Below w3.heap.size w3 ((w3.alloc (.cells #[.int .i64 vd.k,.int .i64 vd.i,.string vd.s,.bool vd.b] 39)).alloc (.cells #[.int .i64 (q.a:Nat),.int .i64 (q.er:Nat),.int .i64 (q.line:Nat),.int .i64 (q.col:Nat),.int .i64 q.op] 33)):=((Below.refl _ _).alloc (Nat.le_refl _) _).alloc (by simp) _
   have hV4:Ho ((w3.alloc (.cells #[.int .i64 vd.k,.int .i64 vd.i,.string vd.s,.bool vd.b] 39)).alloc (.cells #[.int .i64 (q.a:Nat),.int .i64 (q.er:Nat),.int .i64 (q.line:Nat),.int .i64 (q.col:Nat),.int .i64 q.op] 33)) w3.heap.size #[.int .i64 vd.k,.int .i64 vd.i,.string vd.s,.bool vd.b] 39:=(Ho.new _ _ _ rfl).alloc _
   have hQ4:Ho ((w3.alloc (.cells #[.int .i64 vd.k,.int .i64 vd.i,.string vd.s,.bool vd.b] 39)).alloc (.cells #[.int .i64 (q.a:Nat),.int .i64 (q.er:Nat),.int .i64 (q.line:Nat),.int .i64 (q.col:Nat),.int .i64 q.op] 33)) (w3.heap.size + 1) #[.int .i64 (q.a:Nat),.int .i64 (q.er:Nat),.int .i64 (q.line:Nat),.int .i64 (q.col:Nat),.int .i64 q.op] 33:=Ho.new _ _ _ (by simp)
   have hN4:=HN3.out.step hA4
   generalize (w3.alloc (.cells #[.int .i64 vd.k,.int .i64 vd.i,.string vd.s,.bool vd.b] 39)).alloc (.cells #[.int .i64 (q.a:Nat),.int .i64 (q.er:Nat),.int .i64 (q.line:Nat),.int .i64 (q.col:Nat),.int .i64 q.op] 33)=w4 at hA4 hV4 hQ4 hN4 ⊢
   have HN4:=Lib.hid hN4
   have HV4:=Lib.hid hV4
   have HQ4:=Lib.hid hQ4
   clear hA4 hN4 hV4 hQ4
   obtain ⟨p0,p1,p2,p3,p4⟩:=pl5 HN4.out.pl
   have hpl:=HN4.out.pl.lt
   go_wp2_with fail
   clear p0 p1 p2 p3 p4 hpl
   refine (HST.out _ HN4.out.below).mono ?_
   rintro e w8 ⟨rfl,k1⟩
   have HN8:=Lib.hid (HN4.out.step k1)
   have HR8:=Lib.hid (HO.out w8 HN8.out.below)
   clear k1
   obtain ⟨q0,q1,q2,q3,q4⟩:=pl5 HN8.out.re
   obtain ⟨f0,f1,f2,f3,f4⟩:=pl5f HN8.out.re
   have hre:=HN8.out.re.lt
   go_wp2_with fail
   refine bodyPost_ret (v:=nodR (.slice va o.length vc) z) ?_ rfl (nd_fin (r:=(o,z)) HN8.out.re HN8.out.below HR8.out)
   refine cs_result2 rfl _ _ _ (a:=⟨w.heap.size + 1,0,none⟩) (by rfl) (by rfl) ?_
   unfold plV
   go_simp
  | true =>
   cases mn with
   | true =>
    rw [HE2.out,if_neg (fun k=>by cases k.2)]
    go_enter Tryz.func110,Tryz.ntmps110
    go_wp2_with fail
    generalize (w.alloc (.cells #[.int .i64 (p.a:Nat),.int .i64 (p.er:Nat),.int .i64 (p.line:Nat),.int .i64 (p.col:Nat),.int .i64 p.op] 33)).alloc (.cells #[.int .i64 0,.int .i64 0,.int .i64 0,.int .i64 0,.int .i64 0] 33)=w1 at HNB ⊢
    refine (HI2.out _ HNB.out.below).mono ?_
    rintro e w2 ⟨rfl,k1⟩
    have HN2:=Lib.hid (HNB.out.step k1)
    clear k1
    obtain ⟨p0,p1,p2,p3,p4⟩:=pl5 HN2.out.pl
    have hpl:=HN2.out.pl.lt
    have e0:w2.cell? ⟨tb,off + p.a * 4,none⟩=some (.int .i64 (x.k:Nat)):=(HN2.out.below.cell (p:=⟨tb,_,none⟩) htb).trans d0
    have e1:w2.cell? ⟨tb,off + p.a * 4 + 1,none⟩=some (.string ⟨x.t.toArray⟩):=(HN2.out.below.cell (p:=⟨tb,_,none⟩) htb).trans d1
    have htz:tb < w2.heap.size:=by have:=HN2.out.below.size; omega
    go_wp2_with fail
    clear p0 p1 p2 p3 p4 hpl e0 e1 htz
    refine (HVA.out _ HN2.out.below).mono ?_
    rintro e w3 ⟨rfl,k1⟩
    have HN3:=Lib.hid (HN2.out.step k1)
    clear k1
    go_upto_region 7 with fail
    have hA4:Below w3.heap.size w3 ((w3.alloc (.cells #[.int .i64 vd.k,.int .i64 vd.i,.string vd.s,.bool vd.b] 39)).alloc (.cells #[.int .i64 (q.a:Nat),.int .i64 (q.er:Nat),.int .i64 (q.line:Nat),.int .i64 (q.col:Nat),.int .i64 q.op] 33)):=((Below.refl _ _).alloc (Nat.le_refl _) _).alloc (by simp) _
    have hV4:Ho ((w3.alloc (.cells #[.int .i64 vd.k,.int .i64 vd.i,.string vd.s,.bool vd.b] 39)).alloc (.cells #[.int .i64 (q.a:Nat),.int .i64 (q.er:Nat),.int .i64 (q.line:Nat),.int .i64 (q.col:Nat),.int .i64 q.op] 33)) w3.heap.size #[.int .i64 vd.k,.int .i64 vd.i,.string vd.s,.bool vd.b] 39:=(Ho.new _ _ _ rfl).alloc _
    have hQ4:Ho ((w3.alloc (.cells #[.int .i64 vd.k,.int .i64 vd.i,.string vd.s,.bool vd.b] 39)).alloc (.cells #[.int .i64 (q.a:Nat),.int .i64 (q.er:Nat),.int .i64 (q.line:Nat),.int .i64 (q.col:Nat),.int .i64 q.op] 33)) (w3.heap.size + 1) #[.int .i64 (q.a:Nat),.int .i64 (q.er:Nat),.int .i64 (q.line:Nat),.int .i64 (q.col:Nat),.int .i64 q.op] 33:=Ho.new _ _ _ (by simp)
    have hN4:=HN3.out.step hA4
    generalize (w3.alloc (.cells #[.int .i64 vd.k,.int .i64 vd.i,.string vd.s,.bool vd.b] 39)).alloc (.cells #[.int .i64 (q.a:Nat),.int .i64 (q.er:Nat),.int .i64 (q.line:Nat),.int .i64 (q.col:Nat),.int .i64 q.op] 33)=w4 at hA4 hV4 hQ4 hN4 ⊢
    have HN4:=Lib.hid hN4
    have HV4:=Lib.hid hV4
    have HQ4:=Lib.hid hQ4
    clear hA4 hN4 hV4 hQ4
    obtain ⟨p0,p1,p2,p3,p4⟩:=pl5 HN4.out.pl
    have hpl:=HN4.out.pl.lt
    go_wp2_with fail
    clear p0 p1 p2 p3 p4 hpl
    refine (HI3.out _ HN4.out.below).mono ?_
    rintro e w5 ⟨rfl,k1⟩
    have HN5:=Lib.hid (HN4.out.step k1)
    have HV5:=Lib.hid (HV4.out.below k1)
    have HQ5:=Lib.hid (HQ4.out.below k1)
    clear k1
    obtain ⟨p0,p1,p2,p3,p4⟩:=pl5 HN5.out.pl
    have hpl:=HN5.out.pl.lt
    go_wp2_with fail
    clear p0 p1 p2 p3 p4 hpl
    refine (HST.out _ HN5.out.below).mono ?_
    rintro e w8 ⟨rfl,k1⟩
    have HN8:=Lib.hid (HN5.out.step k1)
    have HR8:=Lib.hid (HO.out w8 HN8.out.below)
    clear k1
    obtain ⟨q0,q1,q2,q3,q4⟩:=pl5 HN8.out.re
    obtain ⟨f0,f1,f2,f3,f4⟩:=pl5f HN8.out.re
    have hre:=HN8.out.re.lt
    go_wp2_with fail
    refine bodyPost_ret (v:=nodR (.slice va o.length vc) z) ?_ rfl (nd_fin (r:=(o,z)) HN8.out.re HN8.out.below HR8.out)
    refine cs_result2 rfl _ _ _ (a:=⟨w.heap.size + 1,0,none⟩) (by rfl) (by rfl) ?_
    unfold plV
    go_simp
   | false =>
    rw [HE2.out,if_pos ⟨rfl,rfl⟩]
    have HN9:=Lib.hid (HND.out rfl)
    clear HND
    have HND:=HN9
    clear HN9
    generalize nodeP M q p.a o 1 0 0 [] vd=R at HND ⊢
    go_enter Tryz.func110,Tryz.ntmps110
    go_wp2_with fail
    generalize (w.alloc (.cells #[.int .i64 (p.a:Nat),.int .i64 (p.er:Nat),.int .i64 (p.line:Nat),.int .i64 (p.col:Nat),.int .i64 p.op] 33)).alloc (.cells #[.int .i64 0,.int .i64 0,.int .i64 0,.int .i64 0,.int .i64 0] 33)=w1 at HNB ⊢
    refine (HI2.out _ HNB.out.below).mono ?_
    rintro e w2 ⟨rfl,k1⟩
    have HN2:=Lib.hid (HNB.out.step k1)
    clear k1
    obtain ⟨p0,p1,p2,p3,p4⟩:=pl5 HN2.out.pl
    have hpl:=HN2.out.pl.lt
    have e0:w2.cell? ⟨tb,off + p.a * 4,none⟩=some (.int .i64 (x.k:Nat)):=(HN2.out.below.cell (p:=⟨tb,_,none⟩) htb).trans d0
    have e1:w2.cell? ⟨tb,off + p.a * 4 + 1,none⟩=some (.string ⟨x.t.toArray⟩):=(HN2.out.below.cell (p:=⟨tb,_,none⟩) htb).trans d1
    have htz:tb < w2.heap.size:=by have:=HN2.out.below.size; omega
    go_wp2_with fail
    clear p0 p1 p2 p3 p4 hpl e0 e1 htz
    refine (HVA.out _ HN2.out.below).mono ?_
    rintro e w3 ⟨rfl,k1⟩
    have HN3:=Lib.hid (HN2.out.step k1)
    clear k1
    go_upto_region 7 with fail
    have hA4:Below w3.heap.size w3 ((w3.alloc (.cells #[.int .i64 vd.k,.int .i64 vd.i,.string vd.s,.bool vd.b] 39)).alloc (.cells #[.int .i64 (q.a:Nat),.int .i64 (q.er:Nat),.int .i64 (q.line:Nat),.int .i64 (q.col:Nat),.int .i64 q.op] 33)):=((Below.refl _ _).alloc (Nat.le_refl _) _).alloc (by simp) _
    have hV4:Ho ((w3.alloc (.cells #[.int .i64 vd.k,.int .i64 vd.i,.string vd.s,.bool vd.b] 39)).alloc (.cells #[.int .i64 (q.a:Nat),.int .i64 (q.er:Nat),.int .i64 (q.line:Nat),.int .i64 (q.col:Nat),.int .i64 q.op] 33)) w3.heap.size #[.int .i64 vd.k,.int .i64 vd.i,.string vd.s,.bool vd.b] 39:=(Ho.new _ _ _ rfl).alloc _
    have hQ4:Ho ((w3.alloc (.cells #[.int .i64 vd.k,.int .i64 vd.i,.string vd.s,.bool vd.b] 39)).alloc (.cells #[.int .i64 (q.a:Nat),.int .i64 (q.er:Nat),.int .i64 (q.line:Nat),.int .i64 (q.col:Nat),.int .i64 q.op] 33)) (w3.heap.size + 1) #[.int .i64 (q.a:Nat),.int .i64 (q.er:Nat),.int .i64 (q.line:Nat),.int .i64 (q.col:Nat),.int .i64 q.op] 33:=Ho.new _ _ _ (by simp)
    have hN4:=HN3.out.step hA4
    generalize (w3.alloc (.cells #[.int .i64 vd.k,.int .i64 vd.i,.string vd.s,.bool vd.b] 39)).alloc (.cells #[.int .i64 (q.a:Nat),.int .i64 (q.er:Nat),.int .i64 (q.line:Nat),.int .i64 (q.col:Nat),.int .i64 q.op] 33)=w4 at hA4 hV4 hQ4 hN4 ⊢
    have HN4:=Lib.hid hN4
    have HV4:=Lib.hid hV4
    have HQ4:=Lib.hid hQ4
    clear hA4 hN4 hV4 hQ4
    obtain ⟨p0,p1,p2,p3,p4⟩:=pl5 HN4.out.pl
    have hpl:=HN4.out.pl.lt
    go_wp2_with fail
    clear p0 p1 p2 p3 p4 hpl
    refine (HI3.out _ HN4.out.below).mono ?_
    rintro e w5 ⟨rfl,k1⟩
    have HN5:=Lib.hid (HN4.out.step k1)
    have HV5:=Lib.hid (HV4.out.below k1)
    have HQ5:=Lib.hid (HQ4.out.below k1)
    clear k1
    obtain ⟨p0,p1,p2,p3,p4⟩:=pl5 HN5.out.pl
    have hpl:=HN5.out.pl.lt
    obtain ⟨x0,x1,x2,x3,_,_,_,_⟩:=vd_cells HV5.out
    obtain ⟨q0,q1,q2,q3,q4⟩:=pl5 HQ5.out
    have hvl:=HV5.out.lt
    have hql:=HQ5.out.lt
    go_wp2_with fail
    clear x0 x1 x2 x3 q0 q1 q2 q3 q4 p0 p1 p2 p3 p4 hpl hvl hql
    refine (HND.out _ HN5.out.below).mono ?_
    rintro e w6 ⟨v6,rfl,hn6,k1⟩
    have HN6:=Lib.hid (HN5.out.step k1)
    have HR6:=Lib.hid hn6
    clear k1 hn6
    obtain ⟨r0,qr⟩:=R
    unfold nodR plV
    obtain ⟨q0,q1,q2,q3,q4⟩:=pl5 HN6.out.re
    obtain ⟨f0,f1,f2,f3,f4⟩:=pl5f HN6.out.re
    have hre:=HN6.out.re.lt
    go_wp2_with fail
    refine bodyPost_ret (v:=nodR v6 qr) ?_ rfl (nd_fin (r:=(r0,qr)) HN6.out.re HN6.out.below HR6.out)
    refine cs_result2 rfl _ _ _ (a:=⟨w.heap.size + 1,0,none⟩) (by rfl) (by rfl) ?_
    unfold plV
    go_simp
 case neg =>
  have t5:(x.t == [95])=false:=by rw [beq_eq_false_iff_ne]; exact k95
  have t6:(x.t != [95])=true:=by rw [bne_iff_ne]; exact k95
  have HV:Hid (exprP M (k + 1) 11 p o=nodeP M (skipP p) p.a o 17 0 0 x.t v0):=Lib.hid (by
   rw [HE.out,if_pos ⟨he,by rw [hxt]; simp [k1,k95]⟩])
  have HND2:Hid (∀ w1,Below w.heap.size w w1 → Calls Tryz.prog 18 #[.slice (some ⟨tb,off,none⟩) M.length tc,plV (skipP p),.int .i64 (p.a:Nat),.slice va o.length vc,exV ⟨17,0,0,⟨x.t.toArray⟩,v0,0,0⟩] w1 (NdPost (nodeP M (skipP p) p.a o 17 0 0 x.t v0) w1)):=Lib.hid (fun w1 hb=>refNode_calls _ tc p.a M (skipP p) o ⟨17,0,0,⟨x.t.toArray⟩,v0,0,0⟩ x.t _ w1 (HTK.out w1 hb) hml (fun _=>hl) rfl (HO.out w1 hb) (by omega) (fun _=>Cl.snoc (HCL.out he) (.inl (.inr rfl))))
  have HSK:=Lib.hid (fun w1=>refSkip_calls p w1 (by omega))
  rw [HV.out]
  generalize nodeP M (skipP p) p.a o 17 0 0 x.t v0=R at HND2 ⊢
  clear HND HE HV HVA HI3 HST he hl hx hxt k1 k95 hk hv h hb0 HU hM hM6 hm hat HTK HCL
  obtain ⟨sk,hsk⟩:∃ sk,sk=skipP p:=⟨_,rfl⟩
  rw [← hsk] at HND2 HSK
  clear hsk
  unfold plV at HI2 HSK
  unfold plV exV at HND2
  unfold plV
  generalize M.length=ml at *
  go_enter Tryz.func110,Tryz.ntmps110
  go_wp2_with fail
  generalize (w.alloc (.cells #[.int .i64 (p.a:Nat),.int .i64 (p.er:Nat),.int .i64 (p.line:Nat),.int .i64 (p.col:Nat),.int .i64 p.op] 33)).alloc (.cells #[.int .i64 0,.int .i64 0,.int .i64 0,.int .i64 0,.int .i64 0] 33)=w1 at HNB ⊢
  refine (HI2.out _ HNB.out.below).mono ?_
  rintro e w2 ⟨rfl,k1⟩
  have HN2:=Lib.hid (HNB.out.step k1)
  clear k1
  obtain ⟨p0,p1,p2,p3,p4⟩:=pl5 HN2.out.pl
  have hpl:=HN2.out.pl.lt
  have e0:w2.cell? ⟨tb,off + p.a * 4,none⟩=some (.int .i64 (x.k:Nat)):=(HN2.out.below.cell (p:=⟨tb,_,none⟩) htb).trans d0
  have e1:w2.cell? ⟨tb,off + p.a * 4 + 1,none⟩=some (.string ⟨x.t.toArray⟩):=(HN2.out.below.cell (p:=⟨tb,_,none⟩) htb).trans d1
  have htz:tb < w2.heap.size:=by have:=HN2.out.below.size; omega
  have HSS:Hid (∀ W,UB w p W → (W.cell? ⟨w.heap.size,0,none⟩=some (.int .i64 (p.a:Nat)) ∧ W.cell? ⟨w.heap.size,1,none⟩=some (.int .i64 (p.er:Nat)) ∧ W.cell? ⟨w.heap.size,2,none⟩=some (.int .i64 (p.line:Nat)) ∧ W.cell? ⟨w.heap.size,3,none⟩=some (.int .i64 (p.col:Nat)) ∧ W.cell? ⟨w.heap.size,4,none⟩=some (.int .i64 p.op) ∧ W.cell? ⟨tb,off + p.a * 4 + 1,none⟩=some (.string ⟨x.t.toArray⟩))):=Lib.hid (fun W h1=>⟨(pl5 h1.pl).1,(pl5 h1.pl).2.1,(pl5 h1.pl).2.2.1,(pl5 h1.pl).2.2.2.1,(pl5 h1.pl).2.2.2.2,(h1.below.cell (p:=⟨tb,_,none⟩) htb).trans d1⟩)
  go_upto_region 5 with fail
  clear p0 p1 p2 p3 p4 hpl e0 e1 htz
  have HNd:=Lib.hid (HN2.out.step (Below.refl w2.heap.size w2).drew)
  refine wp_region_B (S:=(fun W=>W.cell? ⟨w.heap.size,0,none⟩=some (.int .i64 (p.a:Nat)) ∧ W.cell? ⟨w.heap.size,1,none⟩=some (.int .i64 (p.er:Nat)) ∧ W.cell? ⟨w.heap.size,2,none⟩=some (.int .i64 (p.line:Nat)) ∧ W.cell? ⟨w.heap.size,3,none⟩=some (.int .i64 (p.col:Nat)) ∧ W.cell? ⟨w.heap.size,4,none⟩=some (.int .i64 p.op) ∧ W.cell? ⟨tb,off + p.a * 4 + 1,none⟩=some (.string ⟨x.t.toArray⟩))) [17] (by kernel_rfl) (HSS.out _ HNd.out) (fun hH0=>?_)
  refine wpB_take (i:=0) (v:=.slice (some ⟨tb,off,none⟩) ml tc) [17] rfl (by kernel_rfl) (by kernel_rfl) (by kernel_rfl) (by kernel_rfl) (fun _ _ _ h=>h) (Or.inl ⟨by kernel_rfl,fun wS hSw=>by (try dsimp only at hSw); go_simp⟩) hH0 ?_
  refine wpB_take (i:=1) (v:=.agg #[.int .i64 (p.a:Nat),.int .i64 (p.er:Nat),.int .i64 (p.line:Nat),.int .i64 (p.col:Nat),.int .i64 p.op]) [2,13,14,15,16,17] rfl (by kernel_rfl) (by kernel_rfl) (by kernel_rfl) (by kernel_rfl) (fun _ _ _ h=>h) (Or.inl ⟨by kernel_rfl,fun wS hSw=>by (try dsimp only at hSw); go_simp⟩) hH0 ?_
  refine wpB_take (i:=3) (v:=.pointer (some ⟨w.heap.size,0,none⟩)) [17] rfl (by kernel_rfl) (by kernel_rfl) (by kernel_rfl) (by kernel_rfl) (fun _ _ _ h=>h) (Or.inl ⟨by kernel_rfl,fun wS hSw=>by (try dsimp only at hSw); go_simp⟩) hH0 ?_
  refine wpB_take (i:=4) (v:=.int .i64 (p.a:Nat)) [17] rfl (by kernel_rfl) (by kernel_rfl) (by kernel_rfl) (by kernel_rfl) (fun _ _ _ h=>h) (Or.inl ⟨by kernel_rfl,fun wS hSw=>by (try dsimp only at hSw); go_simp⟩) hH0 ?_
  refine wpB_take (i:=5) (v:=.slice va o.length vc) [17] rfl (by kernel_rfl) (by kernel_rfl) (by kernel_rfl) (by kernel_rfl) (fun _ _ _ h=>h) (Or.inl ⟨by kernel_rfl,fun wS hSw=>by (try dsimp only at hSw); go_simp⟩) hH0 ?_
  refine wpB_take (i:=6) (v:=.slice (some ⟨tb,off,none⟩) ml tc) [17] rfl (by kernel_rfl) (by kernel_rfl) (by kernel_rfl) (by kernel_rfl) (fun _ _ _ h=>h) (Or.inl ⟨by kernel_rfl,fun wS hSw=>by (try dsimp only at hSw); go_simp⟩) hH0 ?_
  refine wpB_take (i:=7) (v:=.pointer (some ⟨w.heap.size,0,none⟩)) [17] rfl (by kernel_rfl) (by kernel_rfl) (by kernel_rfl) (by kernel_rfl) (fun _ _ _ h=>h) (Or.inl ⟨by kernel_rfl,fun wS hSw=>by (try dsimp only at hSw); go_simp⟩) hH0 ?_
  refine wpB_take (i:=8) (v:=.int .i64 (p.a:Nat)) [17] rfl (by kernel_rfl) (by kernel_rfl) (by kernel_rfl) (by kernel_rfl) (fun _ _ _ h=>h) (Or.inl ⟨by kernel_rfl,fun wS hSw=>by (try dsimp only at hSw); go_simp⟩) hH0 ?_
  refine wpB_take (i:=9) (v:=.pointer (some ⟨tb,off + p.a * 4,none⟩)) [17] rfl (by kernel_rfl) (by kernel_rfl) (by kernel_rfl) (by kernel_rfl) (fun _ _ _ h=>h) (Or.inl ⟨by kernel_rfl,fun wS hSw=>by (try dsimp only at hSw); go_simp⟩) hH0 ?_
  refine wpB_take (i:=10) (v:=.pointer (some ⟨tb,off + p.a * 4 + 1,none⟩)) [17] rfl (by kernel_rfl) (by kernel_rfl) (by kernel_rfl) (by kernel_rfl) (fun _ _ _ h=>h) (Or.inl ⟨by kernel_rfl,fun wS hSw=>by (try dsimp only at hSw); go_simp⟩) hH0 ?_
  refine wpB_take (i:=11) (v:=.string ⟨x.t.toArray⟩) [17] rfl (by kernel_rfl) (by kernel_rfl) (by kernel_rfl) (by kernel_rfl) (fun _ _ _ h=>h) (Or.inl ⟨by kernel_rfl,fun wS hSw=>by (try dsimp only at hSw); go_simp⟩) hH0 ?_
  refine wpB_take (i:=12) (v:=.agg #[.int .i64 17,.int .i64 0,.int .i64 0,.string ⟨x.t.toArray⟩,.int .i64 0,.int .i64 0,.string ⟨#[]⟩,.bool false,.int .i64 0,.int .i64 0]) [17] rfl (by kernel_rfl) (by kernel_rfl) (by kernel_rfl) (by kernel_rfl) (fun _ _ _ h=>h) (Or.inl ⟨by kernel_rfl,fun wS hSw=>by (try dsimp only at hSw); go_simp⟩) hH0 ?_
  generalize w2.drew=wd at hH0 HNd ⊢
  refine wpB_step (i:=2) rfl (by kernel_rfl) (fun K hK=>?_)
  rw [if_pos (by kernel_rfl)]
  go_simp
  refine (HSK.out _).mono ?_
  rintro e w8 ⟨rfl,k1⟩
  have HN8:=Lib.hid (HNd.out.step k1)
  clear k1
  refine hK.out _ _ (HSS.out _ HN8.out) (fun hH1=>?_)
  clear hK K
  refine wpB_step (i:=13) rfl (by kernel_rfl) (fun K hK=>?_)
  rw [if_pos (by kernel_rfl)]
  go_simp
  refine (HND2.out _ HN8.out.below).mono ?_
  rintro e w9 ⟨v9,rfl,hn9,k1⟩
  have HN9:=Lib.hid (HN8.out.step k1)
  have HR9:=Lib.hid hn9
  clear k1 hn9
  obtain ⟨r0,qr⟩:=R
  unfold nodR plV
  refine hK.out _ _ (HSS.out _ HN9.out) (fun hH2=>?_)
  clear hK K
  refine wpB_take (i:=14) (v:=v9) [17] rfl (by kernel_rfl) (by kernel_rfl) (by kernel_rfl) (by kernel_rfl) (fun _ _ _ h=>h) (Or.inl ⟨by kernel_rfl,fun wS hSw=>by (try dsimp only at hSw); go_simp⟩) hH2 ?_
  refine wpB_take (i:=15) (v:=.agg #[.int .i64 (qr.a:Nat),.int .i64 (qr.er:Nat),.int .i64 (qr.line:Nat),.int .i64 (qr.col:Nat),.int .i64 qr.op]) [17] rfl (by kernel_rfl) (by kernel_rfl) (by kernel_rfl) (by kernel_rfl) (fun _ _ _ h=>h) (Or.inl ⟨by kernel_rfl,fun wS hSw=>by (try dsimp only at hSw); go_simp⟩) hH2 ?_
  refine wpB_take (i:=16) (v:=v9) [17] rfl (by kernel_rfl) (by kernel_rfl) (by kernel_rfl) (by kernel_rfl) (fun _ _ _ h=>h) (Or.inl ⟨by kernel_rfl,fun wS hSw=>by (try dsimp only at hSw); go_simp⟩) hH2 ?_
  obtain ⟨q0,q1,q2,q3,q4⟩:=pl5 HN9.out.re
  obtain ⟨f0,f1,f2,f3,f4⟩:=pl5f HN9.out.re
  have hre:=HN9.out.re.lt
  refine wpB_past (i:=17) rfl (by kernel_rfl) (by kernel_rfl) (fun K hK=>?_)
  rw [if_pos (by kernel_rfl)]
  go_simp
  refine hK.out _ _ ?_
  clear hK K
  refine wpB_done (by kernel_rfl) ?_ _
  go_simp
  go_wp2_with fail
  refine bodyPost_ret (v:=nodR v9 qr) ?_ rfl (nd_fin (r:=(r0,qr)) HN9.out.re HN9.out.below HR9.out)
  refine cs_result2 rfl _ _ _ (a:=⟨w.heap.size + 1,0,none⟩) (by rfl) (by rfl) ?_
  unfold plV
  go_simp
set_option maxHeartbeats 16000000 in
set_option maxRecDepth 100000 in
theorem refNot_calls (ta:Option Addr) (tc k:Nat) (M:List Tk) (w0:World) (h:TkIn w0 37 ta M.length M) (hM:MOk M) (hM6:M.length ≤ 65536)
  (HP:RefC 49 5 k ta tc M w0) (HU:RefC 32 4 k ta tc M w0):RefC 32 4 (k + 1) ta tc M w0:=by
 intro p o v w hb0 hk hv
 have hml:M.length ≤ 1000000:=by omega
 have hat:=hk.at'
 have HTK:=Lib.hid (fun w1 (hb:Below w.heap.size w w1)=>(h.below hb0).below hb)
 have HNB:=Lib.hid (UB.new w p)
 have HI:=Lib.hid (fun w1 (hb:Below w.heap.size w w1)=>refIs_calls ta tc M p ⟨#[110,111,116]⟩ w1 (HTK.out w1 hb) hml hat)
 have HO:=Lib.hid (fun w1 (hb:Below w.heap.size w w1)=>hv.below hb)
 have HB0:=Lib.hid (fun w1 (hb:Below w.heap.size w w1)=>hb0.trans (hb.mono hb0.size))
 have HK:=Lib.hid hk
 have HM:=Lib.hid hM
 cases hm:isP M p kwNot with
 | false =>
  have HI2:Hid (∀ w1,Below w.heap.size w w1 → Calls Tryz.prog 16 #[.slice ta M.length tc,plV p,.string ⟨#[110,111,116]⟩] w1 fun e w'=>e=.returned (.bool false) ∧ Below w1.heap.size w1 w'):=Lib.hid (fun w1 hb=>by
   have:=HI.out w1 hb
   rw [show (⟨#[110,111,116]⟩:ByteArray).data.toList=kwNot from rfl,hm] at this
   exact this)
  have HV:Hid (exprP M (k + 1) 4 p o=exprP M k 5 p o):=Lib.hid (by rw [exprP_4,hm,if_neg (by decide)])
  have HC:=Lib.hid (fun w1 (hb:Below w.heap.size w w1)=>HP p o v w1 (HB0.out w1 hb) (HK.out.down (by decide)) (HO.out w1 hb))
  rw [HV.out]
  generalize exprP M k 5 p o=R at HC ⊢
  clear hk hv h hb0 HP HU hM hm hml hat HTK HI HV hM6 HO HB0 HK HM
  generalize M.length=ml at HI2 HC ⊢
  unfold plV at HI2 HC
  unfold plV
  go_enter Tryz.func32,Tryz.ntmps32
  go_wp2_with fail
  generalize (w.alloc (.cells #[.int .i64 (p.a:Nat),.int .i64 (p.er:Nat),.int .i64 (p.line:Nat),.int .i64 (p.col:Nat),.int .i64 p.op] 33)).alloc (.cells #[.int .i64 0,.int .i64 0,.int .i64 0,.int .i64 0,.int .i64 0] 33)=w1 at HNB ⊢
  refine (HI2.out _ HNB.out.below).mono ?_
  rintro e w2 ⟨rfl,k1⟩
  have HN2:=Lib.hid (HNB.out.step k1)
  clear k1
  obtain ⟨p0,p1,p2,p3,p4⟩:=pl5 HN2.out.pl
  have hpl:=HN2.out.pl.lt
  go_wp2_with fail
  clear p0 p1 p2 p3 p4 hpl
  refine (HC.out _ HN2.out.below).mono ?_
  rintro e w3 ⟨v3,rfl,hn3,k1⟩
  have HN3:=Lib.hid (HN2.out.step k1)
  have HR3:=Lib.hid hn3
  clear k1 hn3
  obtain ⟨r0,q⟩:=R
  unfold nodR plV
  obtain ⟨q0,q1,q2,q3,q4⟩:=pl5 HN3.out.re
  obtain ⟨f0,f1,f2,f3,f4⟩:=pl5f HN3.out.re
  have hre:=HN3.out.re.lt
  go_wp2_with fail
  refine bodyPost_ret (v:=nodR v3 q) ?_ rfl (nd_fin (r:=(r0,q)) HN3.out.re HN3.out.below HR3.out)
  refine cs_result2 rfl _ _ _ (a:=⟨w.heap.size + 1,0,none⟩) (by rfl) (by rfl) ?_
  unfold plV
  go_simp
 | true =>
  have hlt:p.a < M.length:=isP_lt hm
  have her:p.er=0:=(isP_some hm).1
  have HI2:Hid (∀ w1,Below w.heap.size w w1 → Calls Tryz.prog 16 #[.slice ta M.length tc,plV p,.string ⟨#[110,111,116]⟩] w1 fun e w'=>e=.returned (.bool true) ∧ Below w1.heap.size w1 w'):=Lib.hid (fun w1 hb=>by
   have:=HI.out w1 hb
   rw [show (⟨#[110,111,116]⟩:ByteArray).data.toList=kwNot from rfl,hm] at this
   exact this)
  have hol:o.length ≤ 800000:=by have:=hk.len; omega
  have hcl:=hk.cl her
  obtain ⟨va,vc,rfl⟩:=hv.slice
  obtain ⟨pp,hpp⟩:∃ pp,pp=openP M p:=⟨_,rfl⟩
  obtain ⟨S,hS⟩:∃ S,S=exprP M k 4 (openP M p) o:=⟨_,rfl⟩
  have hkk:Rk M k 4 (openP M p) o:=hk.open hm
  have hres:=hkk.res (by unfold joinL; omega)
  have HOP:Hid (∀ w1,Below w.heap.size w w1 → Calls Tryz.prog 50 #[.slice ta M.length tc,plV p] w1 fun e w'=>e=.returned (plV pp) ∧ Below w1.heap.size w1 w'):=Lib.hid (fun w1 hb=>by
   have:=refOpen_calls ta tc M p w1 (HTK.out w1 hb) hml ⟨hat,by have:=hk.lo; omega,by have:=hk.hi; omega⟩
   rw [← hpp] at this
   exact this)
  have HUC:Hid (∀ w1,Below w.heap.size w w1 → Calls Tryz.prog 32 #[.slice ta M.length tc,plV pp,.slice va o.length vc] w1 (NdPost S w1)):=Lib.hid (fun w1 hb=>by
   have:=HU (openP M p) o _ w1 (HB0.out w1 hb) hkk (HO.out w1 hb)
   rw [← hS] at this
   rw [hpp]
   exact this)
  rw [← hS] at hres
  obtain ⟨r1,r2,r3,r4,r5,r6,r7,r8⟩:=hres
  obtain ⟨so,d⟩:=S
  have r1:d.a ≤ M.length:=r1
  have r2:so.length + (M.length - d.a) ≤ 800000:=r2
  have r3:d.er=0 → Cl 0 so ∧ o.length < so.length:=r3
  have r5:-2 ≤ d.op:=r5
  have r6:d.op ≤ 128:=r6
  have HSH:=Lib.hid (fun w1=>refShut_calls d w1 (by omega))
  have HV:Hid (exprP M (k + 1) 4 p o=nodeP M (shutP d) p.a so 4 ((so.length:Int) - 1) 0 [] v0):=Lib.hid (by rw [exprP_4,hm,if_pos rfl,← hS])
  have HND:Hid (∀ v1 w1,Below w.heap.size w w1 → NsAt 0 w1 v1 so → Calls Tryz.prog 18 #[.slice ta M.length tc,plV (shutP d),.int .i64 (p.a:Nat),v1,exV ⟨4,(so.length:Int) - 1,0,⟨#[]⟩,v0,0,0⟩] w1 (NdPost (nodeP M (shutP d) p.a so 4 ((so.length:Int) - 1) 0 [] v0) w1)):=Lib.hid (fun v1 w1 hb hn1=>refNode_calls ta tc p.a M (shutP d) so ⟨4,(so.length:Int) - 1,0,⟨#[]⟩,v0,0,0⟩ [] _ w1 (HTK.out w1 hb) hml (fun _=>hlt) rfl hn1 (by omega) (fun e=>by
   obtain ⟨c1,c2⟩:=r3 e
   exact Cl.snoc c1 (.inr ⟨by show (4:Int) ≤ 4; omega,by show (4:Int) ≤ 16; omega,by show (0:Int) ≤ (so.length:Int) - 1; omega,by show (so.length:Int) - 1 < so.length; omega,fun k=>absurd k (by show ¬ (5:Int) < 4; omega)⟩)))
  rw [HV.out]
  generalize nodeP M (shutP d) p.a so 4 ((so.length:Int) - 1) 0 [] v0=R at HND ⊢
  have hsl:so.length ≤ 800000:=by omega
  clear hk hkk hv h hb0 HP HU hM hm hat HTK HI HV hM6 HO HB0 HK HM hcl her hpp hS r1 r2 r3 r4 r5 r6 r7 r8
  generalize M.length=ml at HI2 HND HOP HUC hlt hml ⊢
  obtain ⟨sh,hsh⟩:∃ sh,sh=shutP d:=⟨_,rfl⟩
  rw [← hsh] at HND HSH
  clear hsh
  obtain ⟨n1,hn1⟩:∃ n1,n1=so.length:=⟨_,rfl⟩
  have HN1:=Lib.hid hn1
  rw [← hn1] at HND hsl
  clear hn1
  unfold plV at HI2 HOP HUC HSH
  unfold plV exV at HND
  unfold plV
  go_enter Tryz.func32,Tryz.ntmps32
  go_wp2_with fail
  generalize (w.alloc (.cells #[.int .i64 (p.a:Nat),.int .i64 (p.er:Nat),.int .i64 (p.line:Nat),.int .i64 (p.col:Nat),.int .i64 p.op] 33)).alloc (.cells #[.int .i64 0,.int .i64 0,.int .i64 0,.int .i64 0,.int .i64 0] 33)=w1 at HNB ⊢
  refine (HI2.out _ HNB.out.below).mono ?_
  rintro e w2 ⟨rfl,k1⟩
  have HN2:=Lib.hid (HNB.out.step k1)
  clear k1
  obtain ⟨p0,p1,p2,p3,p4⟩:=pl5 HN2.out.pl
  have hpl:=HN2.out.pl.lt
  go_wp2_with fail
  clear p0 p1 p2 p3 p4 hpl
  refine (HOP.out _ HN2.out.below).mono ?_
  rintro e w5 ⟨rfl,k1⟩
  have HN5:=Lib.hid (HN2.out.step k1)
  clear k1
  go_wp2_with fail
  refine (HUC.out _ HN5.out.below).mono ?_
  rintro e w6 ⟨v6,rfl,hn6,k1⟩
  have HN6:=Lib.hid (HN5.out.step k1)
  clear k1
  have hn6:NsAt 0 w6 v6 so:=hn6
  obtain ⟨va6,vc6,rfl⟩:=hn6.slice
  rw [← HN1.out] at hn6
  have HS6:=Lib.hid hn6
  clear hn6
  unfold nodR plV
  rw [← HN1.out]
  go_upto_region 4 with fail
  have hA7:Below w6.heap.size w6 (w6.alloc (.cells #[.int .i64 (d.a:Nat),.int .i64 (d.er:Nat),.int .i64 (d.line:Nat),.int .i64 (d.col:Nat),.int .i64 d.op] 33)):=(Below.refl _ _).alloc (Nat.le_refl _) _
  have hD7:Ho (w6.alloc (.cells #[.int .i64 (d.a:Nat),.int .i64 (d.er:Nat),.int .i64 (d.line:Nat),.int .i64 (d.col:Nat),.int .i64 d.op] 33)) w6.heap.size #[.int .i64 (d.a:Nat),.int .i64 (d.er:Nat),.int .i64 (d.line:Nat),.int .i64 (d.col:Nat),.int .i64 d.op] 33:=Ho.new _ _ _ rfl
  have HN7:=Lib.hid (HN6.out.step hA7)
  have HS7:=Lib.hid (HS6.out.below hA7)
  generalize w6.alloc (.cells #[.int .i64 (d.a:Nat),.int .i64 (d.er:Nat),.int .i64 (d.line:Nat),.int .i64 (d.col:Nat),.int .i64 d.op] 33)=w7 at hA7 hD7 HN7 HS7 ⊢
  have HD7:=Lib.hid hD7
  clear hA7 hD7
  have HSS:Hid (∀ W,UB w p W → Ho W w6.heap.size #[.int .i64 (d.a:Nat),.int .i64 (d.er:Nat),.int .i64 (d.line:Nat),.int .i64 (d.col:Nat),.int .i64 d.op] 33 → (W.cell? ⟨w6.heap.size,0,none⟩=some (.int .i64 (d.a:Nat)) ∧ W.cell? ⟨w6.heap.size,1,none⟩=some (.int .i64 (d.er:Nat)) ∧ W.cell? ⟨w6.heap.size,2,none⟩=some (.int .i64 (d.line:Nat)) ∧ W.cell? ⟨w6.heap.size,3,none⟩=some (.int .i64 (d.col:Nat)) ∧ W.cell? ⟨w6.heap.size,4,none⟩=some (.int .i64 d.op) ∧ W.cell? ⟨w.heap.size,0,none⟩=some (.int .i64 (p.a:Nat)))):=Lib.hid (fun W h1 h2=>⟨(pl5 h2).1,(pl5 h2).2.1,(pl5 h2).2.2.1,(pl5 h2).2.2.2.1,(pl5 h2).2.2.2.2,(pl5 h1.pl).1⟩)
  have hwr:IntKind.i64.wrap ((n1:Int) - 1)=(n1:Int) - 1:=by rw [IntKind.wrap_i64]; omega
  have HNd:=Lib.hid (HN7.out.step (Below.refl w7.heap.size w7).drew)
  have HDd:=Lib.hid (HD7.out.below (Below.refl w7.heap.size w7).drew)
  have HSd:=Lib.hid (HS7.out.below (Below.refl w7.heap.size w7).drew)
  refine wp_region_B (S:=(fun W=>W.cell? ⟨w6.heap.size,0,none⟩=some (.int .i64 (d.a:Nat)) ∧ W.cell? ⟨w6.heap.size,1,none⟩=some (.int .i64 (d.er:Nat)) ∧ W.cell? ⟨w6.heap.size,2,none⟩=some (.int .i64 (d.line:Nat)) ∧ W.cell? ⟨w6.heap.size,3,none⟩=some (.int .i64 (d.col:Nat)) ∧ W.cell? ⟨w6.heap.size,4,none⟩=some (.int .i64 d.op) ∧ W.cell? ⟨w.heap.size,0,none⟩=some (.int .i64 (p.a:Nat)))) [14] (by kernel_rfl) (HSS.out _ HNd.out HDd.out) (fun hH0=>?_)
  refine wpB_take (i:=0) (v:=.slice ta ml tc) [14] rfl (by kernel_rfl) (by kernel_rfl) (by kernel_rfl) (by kernel_rfl) (fun _ _ _ h=>h) (Or.inl ⟨by kernel_rfl,fun wS hSw=>by (try dsimp only at hSw); go_simp⟩) hH0 ?_
  refine wpB_take (i:=1) (v:=.agg #[.int .i64 (d.a:Nat),.int .i64 (d.er:Nat),.int .i64 (d.line:Nat),.int .i64 (d.col:Nat),.int .i64 d.op]) [2,10,11,12,13,14] rfl (by kernel_rfl) (by kernel_rfl) (by kernel_rfl) (by kernel_rfl) (fun _ _ _ h=>h) (Or.inl ⟨by kernel_rfl,fun wS hSw=>by (try dsimp only at hSw); go_simp⟩) hH0 ?_
  refine wpB_take (i:=3) (v:=.pointer (some ⟨w.heap.size,0,none⟩)) [14] rfl (by kernel_rfl) (by kernel_rfl) (by kernel_rfl) (by kernel_rfl) (fun _ _ _ h=>h) (Or.inl ⟨by kernel_rfl,fun wS hSw=>by (try dsimp only at hSw); go_simp⟩) hH0 ?_
  refine wpB_take (i:=4) (v:=.int .i64 (p.a:Nat)) [14] rfl (by kernel_rfl) (by kernel_rfl) (by kernel_rfl) (by kernel_rfl) (fun _ _ _ h=>h) (Or.inl ⟨by kernel_rfl,fun wS hSw=>by (try dsimp only at hSw); go_simp⟩) hH0 ?_
  refine wpB_take (i:=5) (v:=.slice va6 n1 vc6) [14] rfl (by kernel_rfl) (by kernel_rfl) (by kernel_rfl) (by kernel_rfl) (fun _ _ _ h=>h) (Or.inl ⟨by kernel_rfl,fun wS hSw=>by (try dsimp only at hSw); go_simp⟩) hH0 ?_
  refine wpB_take (i:=6) (v:=.slice va6 n1 vc6) [14] rfl (by kernel_rfl) (by kernel_rfl) (by kernel_rfl) (by kernel_rfl) (fun _ _ _ h=>h) (Or.inl ⟨by kernel_rfl,fun wS hSw=>by (try dsimp only at hSw); go_simp⟩) hH0 ?_
  refine wpB_take (i:=7) (v:=.int .i64 (n1:Nat)) [14] rfl (by kernel_rfl) (by kernel_rfl) (by kernel_rfl) (by kernel_rfl) (fun _ _ _ h=>h) (Or.inl ⟨by kernel_rfl,fun wS hSw=>by (try dsimp only at hSw); go_simp⟩) hH0 ?_
  refine wpB_take (i:=8) (v:=.int .i64 ((n1:Int) - 1)) [14] rfl (by kernel_rfl) (by kernel_rfl) (by kernel_rfl) (by kernel_rfl) (fun _ _ _ h=>h) (Or.inl ⟨by kernel_rfl,fun wS hSw=>by (try dsimp only at hSw); go_simp⟩) hH0 ?_
  refine wpB_take (i:=9) (v:=.agg #[.int .i64 4,.int .i64 ((n1:Int) - 1),.int .i64 0,.string ⟨#[]⟩,.int .i64 0,.int .i64 0,.string ⟨#[]⟩,.bool false,.int .i64 0,.int .i64 0]) [14] rfl (by kernel_rfl) (by kernel_rfl) (by kernel_rfl) (by kernel_rfl) (fun _ _ _ h=>h) (Or.inl ⟨by kernel_rfl,fun wS hSw=>by (try dsimp only at hSw); go_simp⟩) hH0 ?_
  generalize w7.drew=wd at hH0 HNd HDd HSd ⊢
  refine wpB_step (i:=2) rfl (by kernel_rfl) (fun K hK=>?_)
  rw [if_pos (by kernel_rfl)]
  go_simp
  refine (HSH.out _).mono ?_
  rintro e w8 ⟨rfl,k1⟩
  have HN8:=Lib.hid (HNd.out.step k1)
  have HD8:=Lib.hid (HDd.out.below k1)
  have HS8:=Lib.hid (HSd.out.below k1)
  clear k1
  refine hK.out _ _ (HSS.out _ HN8.out HD8.out) (fun hH1=>?_)
  clear hK K
  refine wpB_step (i:=10) rfl (by kernel_rfl) (fun K hK=>?_)
  rw [if_pos (by kernel_rfl)]
  go_simp
  refine (HND.out _ _ HN8.out.below HS8.out).mono ?_
  rintro e w9 ⟨v9,rfl,hn9,k1⟩
  have HN9:=Lib.hid (HN8.out.step k1)
  have HD9:=Lib.hid (HD8.out.below k1)
  have HR9:=Lib.hid hn9
  clear k1 hn9
  obtain ⟨r0,qr⟩:=R
  unfold nodR plV
  refine hK.out _ _ (HSS.out _ HN9.out HD9.out) (fun hH2=>?_)
  clear hK K
  refine wpB_take (i:=11) (v:=v9) [14] rfl (by kernel_rfl) (by kernel_rfl) (by kernel_rfl) (by kernel_rfl) (fun _ _ _ h=>h) (Or.inl ⟨by kernel_rfl,fun wS hSw=>by (try dsimp only at hSw); go_simp⟩) hH2 ?_
  refine wpB_take (i:=12) (v:=.agg #[.int .i64 (qr.a:Nat),.int .i64 (qr.er:Nat),.int .i64 (qr.line:Nat),.int .i64 (qr.col:Nat),.int .i64 qr.op]) [14] rfl (by kernel_rfl) (by kernel_rfl) (by kernel_rfl) (by kernel_rfl) (fun _ _ _ h=>h) (Or.inl ⟨by kernel_rfl,fun wS hSw=>by (try dsimp only at hSw); go_simp⟩) hH2 ?_
  refine wpB_take (i:=13) (v:=v9) [14] rfl (by kernel_rfl) (by kernel_rfl) (by kernel_rfl) (by kernel_rfl) (fun _ _ _ h=>h) (Or.inl ⟨by kernel_rfl,fun wS hSw=>by (try dsimp only at hSw); go_simp⟩) hH2 ?_
  obtain ⟨q0,q1,q2,q3,q4⟩:=pl5 HN9.out.re
  obtain ⟨f0,f1,f2,f3,f4⟩:=pl5f HN9.out.re
  have hre:=HN9.out.re.lt
  refine wpB_past (i:=14) rfl (by kernel_rfl) (by kernel_rfl) (fun K hK=>?_)
  rw [if_pos (by kernel_rfl)]
  go_simp
  refine hK.out _ _ ?_
  clear hK K
  refine wpB_done (by kernel_rfl) ?_ _
  go_simp
  go_wp2_with fail
  refine bodyPost_ret (v:=nodR v9 qr) ?_ rfl (nd_fin (r:=(r0,qr)) HN9.out.re HN9.out.below HR9.out)
  refine cs_result2 rfl _ _ _ (a:=⟨w.heap.size + 1,0,none⟩) (by rfl) (by rfl) ?_
  unfold plV
  go_simp
end Go.Proofs.YtmknmmbfaljkbaaGreatDoor
