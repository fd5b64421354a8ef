/- paclaim: ParRefC ParRefUn ParRefLk ParRefLp -/
import Derived.Test.YtmknmmbfaljkbaaGreatDoorLowR2
import Derived.Test.YtmknmmbfaljkbaaGreatDoorLowR3
import Derived.Test.YtmknmmbfaljkbaaGreatDoorParRefV
import Derived.Test.YtmknmmbfaljkbaaGreatDoorLowPa6
import Derived.Deep.Cut
namespace Go.Proofs.YtmknmmbfaljkbaaGreatDoor
open Go.RowKit
set_option linter.unusedVariables false
structure Rk (M:List Tk) (k lv:Nat) (p:Pl) (o:List Ex):Prop where
 at':p.a ≤ M.length
 len:o.length + (M.length - p.a) ≤ 800000
 cl:p.er=0 → Cl 0 o
 lo0:p.er=0 → 0 ≤ p.op
 lo:-1 ≤ p.op
 hi:p.op ≤ 128
 fu:needP M lv p ≤ k
def RefC (f:FuncId) (lv k:Nat) (ta:Option Addr) (tc:Nat) (M:List Tk) (w0:World):Prop:=∀ (p:Pl) (o:List Ex) (v:Value) (w:World),Below w0.heap.size w0 w → Rk M k lv p o → NsAt 0 w v o →
 Calls Tryz.prog f #[.slice ta M.length tc,plV p,v] w (NdPost (exprP M k lv p o) w)
theorem open_hi {M:List Tk} {p:Pl} (h:p.op ≤ 128):(openP M p).op ≤ 128 ∧ p.op ≤ (openP M p).op ∧ ((openP M p).er=0 → p.er=0):=by
 unfold openP
 split
 ·obtain ⟨_,h2⟩:=stop_op M p 13
  exact ⟨by rw [h2]; exact h,by rw [h2]; exact Int.le_refl _,fun e=>absurd e (stop_no M p 13 (by decide))⟩
 ·exact ⟨by show p.op + 1 ≤ 128; omega,by show p.op ≤ p.op + 1; omega,fun e=>e⟩
theorem Rk.open {M:List Tk} {k lv lv':Nat} {p:Pl} {o:List Ex} {s:List UInt8} (h:Rk M (k + 1) lv p o) (hs:isP M p s=true):Rk M k lv' (openP M p) o:=by
 obtain ⟨h1,h2,h3⟩:=open_hi (M:=M) h.hi
 have hl:=isP_lt hs
 have ha:(openP M p).a ≤ p.a + 1 ∧ p.a ≤ (openP M p).a:=by
  rcases open_at M p with ⟨_,o2,_⟩ | ⟨o1,_,_⟩ <;> omega
 have:=h.len
 refine ⟨by omega,by omega,fun e=>h.cl (h3 e),fun e=>by have:=h.lo0 (h3 e); omega,by have:=h.lo; omega,h1,?_⟩
 have h4:=mu_open hs
 have h5:=h.fu
 have h6:=rank_le lv'
 have h7:=rank_pos lv
 unfold needP at h5 ⊢
 omega
theorem Rk.skip {M:List Tk} {k lv lv':Nat} {p:Pl} {o:List Ex} {s:List UInt8} (h:Rk M (k + 1) lv p o) (hs:isP M p s=true):Rk M k lv' (skipP p) o:=by
 have hl:=isP_lt hs
 have:=h.len
 refine ⟨hl,by show o.length + (M.length - (p.a + 1)) ≤ _; omega,h.cl,h.lo0,h.lo,h.hi,?_⟩
 have h4:=mu_skip hs
 have h5:=h.fu
 have h6:=rank_le lv'
 have h7:=rank_pos lv
 unfold needP at h5 ⊢
 omega
theorem Rk.down {M:List Tk} {k lv lv':Nat} {p:Pl} {o:List Ex} (h:Rk M (k + 1) lv p o) (hr:rankP lv' < rankP lv):Rk M k lv' p o:=by
 refine ⟨h.at',h.len,h.cl,h.lo0,h.lo,h.hi,?_⟩
 have h5:=h.fu
 unfold needP at h5 ⊢
 omega
theorem Rk.res {M:List Tk} {k lv:Nat} {p:Pl} {o:List Ex} (h:Rk M k lv p o) (hj:¬ joinL lv) :
  let S:=exprP M k lv p o
  S.2.a ≤ M.length ∧ S.1.length + (M.length - S.2.a) ≤ 800000 ∧ (S.2.er=0 → Cl 0 S.1 ∧ o.length < S.1.length) ∧ (S.2.er=0 → 0 ≤ S.2.op) ∧ -2 ≤ S.2.op ∧ S.2.op ≤ 128 ∧ (S.2.er=0 → S.2.op=p.op ∧ p.er=0) ∧ muP M S.2 ≤ muP M p:=by
 intro S
 have hb:Bd M p o S:=expr_bd M k lv p o h.at'
 have hg:S.2.er=0 → p.er=0:=(ge_expr M k lv p o).2
 have h1:=hb.le
 have h2:=hb.ge
 have h3:=hb.len
 have h4:=h.len
 have h5:=hb.lo
 have h6:=hb.hi
 have h7:=h.lo
 have h8:=h.hi
 refine ⟨h1,by omega,fun e=>?_,fun e=>by have:=hb.eq e; have:=h.lo0 (hg e); omega,by omega,by omega,fun e=>⟨hb.eq e,hg e⟩,(fuel_enough M k lv p o h.fu).1⟩
 obtain ⟨x1,x2,x3,_⟩:=(expr_ok M k lv p o h.fu e).2 hj
 exact ⟨Cl.join (h.cl (hg e)) x3 x2 (Nat.zero_le _),x1⟩
structure UB (w:World) (p:Pl) (W:World):Prop where
 pl:Ho W w.heap.size #[.int .i64 (p.a:Nat),.int .i64 (p.er:Nat),.int .i64 (p.line:Nat),.int .i64 (p.col:Nat),.int .i64 p.op] 33
 re:Ho W (w.heap.size + 1) #[.int .i64 0,.int .i64 0,.int .i64 0,.int .i64 0,.int .i64 0] 33
 below:Below w.heap.size w W
theorem UB.step {w W W':World} {p:Pl} (h:UB w p W) (k:Below W.heap.size W W'):UB w p W':=⟨h.pl.below k,h.re.below k,h.below.trans (k.mono h.below.size)⟩
theorem UB.new (w:World) (p:Pl):UB w p ((w.alloc (.cells #[.int .i64 (p.a:Nat),.int .i64 (p.er:Nat),.int .i64 (p.line:Nat),.int .i64 (p.col:Nat),.int .i64 p.op] 33)).alloc (.cells #[.int .i64 0,.int .i64 0,.int .i64 0,.int .i64 0,.int .i64 0] 33)):=⟨(Ho.new _ _ _ rfl).alloc _,Ho.new _ _ _ (by simp),((Below.refl _ _).alloc (Nat.le_refl _) _).alloc (by simp) _⟩
theorem nd_fin {w W:World} {r:List Ex × Pl} {v:Value} {a b c d e:Value} (hr:Ho W (w.heap.size + 1) #[.int .i64 0,.int .i64 0,.int .i64 0,.int .i64 0,.int .i64 0] 33) (hb:Below w.heap.size w W) (hn:NsAt 0 W v r.1) :
  NdPost r w (.returned (nodR v r.2)) (((((W.setCell ⟨w.heap.size + 1,0,none⟩ a).setCell ⟨w.heap.size + 1,1,none⟩ b).setCell ⟨w.heap.size + 1,2,none⟩ c).setCell ⟨w.heap.size + 1,3,none⟩ d).setCell ⟨w.heap.size + 1,4,none⟩ e):=by
 refine ⟨v,rfl,?_,?_⟩
 ·refine hn.heap (fun k c=>?_)
  refine Kp.block (S:=K1 (w.heap.size + 1)) ?_ k c.lt (fun e=>c.ne hr.cblk (by decide) e)
  repeat' (first | (with_reducible exact Kp.refl _ _) | with_reducible refine kp_set1 ?_ _ _)
 ·repeat' (first | (with_reducible exact hb) | with_reducible refine Below.setCell ?_ (by simp) _)
set_option maxHeartbeats 16000000 in
set_option maxRecDepth 100000 in
theorem refUnary_calls (ta:Option Addr) (tc k:Nat) (M:List Tk) (w0:World) (h:TkIn w0 37 ta M.length M) (hM:MOk M) (hM6:M.length ≤ 65536)
  (HP:RefC 110 11 k ta tc M w0) (HU:RefC 99 10 k ta tc M w0):RefC 99 10 (k + 1) ta tc M w0:=by
 intro p o v w hb0 hk hv
 have hml:M.length ≤ 1000000:=by omega
 have hat:=hk.at'
 have HTK:=Lib.hid (fun w1 (hb:Below w.heap.size w w1)=>(h.below hb0).below hb)
 have HNB:=Lib.hid (UB.new w p)
 have HI:=Lib.hid (fun w1 (hb:Below w.heap.size w w1)=>refIs_calls ta tc M p ⟨#[45]⟩ w1 (HTK.out w1 hb) hml hat)
 have HO:=Lib.hid (fun w1 (hb:Below w.heap.size w w1)=>hv.below hb)
 have HB0:=Lib.hid (fun w1 (hb:Below w.heap.size w w1)=>hb0.trans (hb.mono hb0.size))
 have HK:=Lib.hid hk
 have HM:=Lib.hid hM
 cases hm:isP M p [45] with
 | false =>
  have HI2:Hid (∀ w1,Below w.heap.size w w1 → Calls Tryz.prog 16 #[.slice ta M.length tc,plV p,.string ⟨#[45]⟩] w1 fun e w'=>e=.returned (.bool false) ∧ Below w1.heap.size w1 w'):=Lib.hid (fun w1 hb=>by
   have:=HI.out w1 hb
   rw [show (⟨#[45]⟩:ByteArray).data.toList=[45] from rfl,hm] at this
   exact this)
  have HV:Hid (exprP M (k + 1) 10 p o=exprP M k 11 p o):=Lib.hid (by rw [exprP_10,hm,if_neg (by decide)])
  have HC:=Lib.hid (fun w1 (hb:Below w.heap.size w w1)=>HP p o v w1 (HB0.out w1 hb) (HK.out.down (by decide)) (HO.out w1 hb))
  rw [HV.out]
  generalize exprP M k 11 p o=R at HC ⊢
  clear hk hv h hb0 HP HU hM hm hml hat HTK HI HV hM6 HO HB0 HK HM
  generalize M.length=ml at HI2 HC ⊢
  unfold plV at HI2 HC
  unfold plV
  go_enter Tryz.func99,Tryz.ntmps99
  go_wp2_with fail
  generalize (w.alloc (.cells #[.int .i64 (p.a:Nat),.int .i64 (p.er:Nat),.int .i64 (p.line:Nat),.int .i64 (p.col:Nat),.int .i64 p.op] 33)).alloc (.cells #[.int .i64 0,.int .i64 0,.int .i64 0,.int .i64 0,.int .i64 0] 33)=w1 at HNB ⊢
  refine (HI2.out _ HNB.out.below).mono ?_
  rintro e w2 ⟨rfl,k1⟩
  have HN2:=Lib.hid (HNB.out.step k1)
  clear k1
  obtain ⟨p0,p1,p2,p3,p4⟩:=pl5 HN2.out.pl
  have hpl:=HN2.out.pl.lt
  go_wp2_with fail
  clear p0 p1 p2 p3 p4 hpl
  refine (HC.out _ HN2.out.below).mono ?_
  rintro e w3 ⟨v3,rfl,hn3,k1⟩
  have HN3:=Lib.hid (HN2.out.step k1)
  have HR3:=Lib.hid hn3
  clear k1 hn3
  obtain ⟨r0,q⟩:=R
  unfold nodR plV
  obtain ⟨q0,q1,q2,q3,q4⟩:=pl5 HN3.out.re
  obtain ⟨f0,f1,f2,f3,f4⟩:=pl5f HN3.out.re
  have hre:=HN3.out.re.lt
  go_wp2_with fail
  refine bodyPost_ret (v:=nodR v3 q) ?_ rfl (nd_fin (r:=(r0,q)) HN3.out.re HN3.out.below HR3.out)
  refine cs_result2 rfl _ _ _ (a:=⟨w.heap.size + 1,0,none⟩) (by rfl) (by rfl) ?_
  unfold plV
  go_simp
 | true =>
  have hlt:p.a < M.length:=isP_lt hm
  have her:p.er=0:=(isP_some hm).1
  have HI2:Hid (∀ w1,Below w.heap.size w w1 → Calls Tryz.prog 16 #[.slice ta M.length tc,plV p,.string ⟨#[45]⟩] w1 fun e w'=>e=.returned (.bool true) ∧ Below w1.heap.size w1 w'):=Lib.hid (fun w1 hb=>by
   have:=HI.out w1 hb
   rw [show (⟨#[45]⟩:ByteArray).data.toList=[45] from rfl,hm] at this
   exact this)
  have HVA:=Lib.hid (fun w1 (hb:Below w.heap.size w w1)=>refValue_calls ta tc M p w1 (HTK.out w1 hb) hM hat)
  obtain ⟨vd,hvd⟩:∃ vd,vd=(valueP M p).1:=⟨_,rfl⟩
  obtain ⟨q,hq⟩:∃ q,q=(valueP M p).2.1:=⟨_,rfl⟩
  rw [← hvd,← hq] at HVA
  have hol:o.length ≤ 800000:=by have:=hk.len; omega
  have hcl:=hk.cl her
  obtain ⟨va,vc,rfl⟩:=hv.slice
  cases hok:(valueP M p).2.2 with
  | true =>
   rw [hok] at HVA
   have HV:Hid (exprP M (k + 1) 10 p o=nodeP M q p.a o 1 0 0 [] vd):=Lib.hid (by rw [exprP_10,hm,if_pos rfl,hok,if_pos rfl,hvd,hq])
   have HND:Hid (∀ w1,Below w.heap.size w w1 → Calls Tryz.prog 18 #[.slice ta M.length tc,plV q,.int .i64 (p.a:Nat),.slice va o.length vc,exV ⟨1,0,0,⟨#[]⟩,vd,0,0⟩] w1 (NdPost (nodeP M q p.a o 1 0 0 [] vd) w1)):=Lib.hid (fun w1 hb=>refNode_calls ta tc p.a M q o ⟨1,0,0,⟨#[]⟩,vd,0,0⟩ [] _ w1 (HTK.out w1 hb) hml (fun _=>hlt) rfl (HO.out w1 hb) (by omega) (fun _=>Cl.snoc hcl (.inl (.inl rfl))))
   rw [HV.out]
   generalize nodeP M q p.a o 1 0 0 [] vd=R at HND ⊢
   clear hk hv h hb0 HP HU hM hm hat HTK HI HV hM6 HO HB0 HK HM hvd hq hok hcl her
   generalize M.length=ml at HI2 HVA HND hlt hml ⊢
   unfold plV at HI2
   unfold valR plV vdV at HVA
   unfold plV exV at HND
   unfold plV
   go_enter Tryz.func99,Tryz.ntmps99
   go_wp2_with fail
   generalize (w.alloc (.cells #[.int .i64 (p.a:Nat),.int .i64 (p.er:Nat),.int .i64 (p.line:Nat),.int .i64 (p.col:Nat),.int .i64 p.op] 33)).alloc (.cells #[.int .i64 0,.int .i64 0,.int .i64 0,.int .i64 0,.int .i64 0] 33)=w1 at HNB ⊢
   refine (HI2.out _ HNB.out.below).mono ?_
   rintro e w2 ⟨rfl,k1⟩
   have HN2:=Lib.hid (HNB.out.step k1)
   clear k1
   obtain ⟨p0,p1,p2,p3,p4⟩:=pl5 HN2.out.pl
   have hpl:=HN2.out.pl.lt
   go_wp2_with fail
   clear p0 p1 p2 p3 p4 hpl
   refine (HVA.out _ HN2.out.below).mono ?_
   rintro e w3 ⟨rfl,k1⟩
   have HN3:=Lib.hid (HN2.out.step k1)
   clear k1
   go_upto_region 4 with fail
   have hA4:Below w3.heap.size w3 ((w3.alloc (.cells #[.int .i64 vd.k,.int .i64 vd.i,.string vd.s,.bool vd.b] 39)).alloc (.cells #[.int .i64 (q.a:Nat),.int .i64 (q.er:Nat),.int .i64 (q.line:Nat),.int .i64 (q.col:Nat),.int .i64 q.op] 33)):=((Below.refl _ _).alloc (Nat.le_refl _) _).alloc (by simp) _
   have hV4:Ho ((w3.alloc (.cells #[.int .i64 vd.k,.int .i64 vd.i,.string vd.s,.bool vd.b] 39)).alloc (.cells #[.int .i64 (q.a:Nat),.int .i64 (q.er:Nat),.int .i64 (q.line:Nat),.int .i64 (q.col:Nat),.int .i64 q.op] 33)) w3.heap.size #[.int .i64 vd.k,.int .i64 vd.i,.string vd.s,.bool vd.b] 39:=(Ho.new _ _ _ rfl).alloc _
   have hQ4:Ho ((w3.alloc (.cells #[.int .i64 vd.k,.int .i64 vd.i,.string vd.s,.bool vd.b] 39)).alloc (.cells #[.int .i64 (q.a:Nat),.int .i64 (q.er:Nat),.int .i64 (q.line:Nat),.int .i64 (q.col:Nat),.int .i64 q.op] 33)) (w3.heap.size + 1) #[.int .i64 (q.a:Nat),.int .i64 (q.er:Nat),.int .i64 (q.line:Nat),.int .i64 (q.col:Nat),.int .i64 q.op] 33:=Ho.new _ _ _ (by simp)
   have hN4:=HN3.out.step hA4
   generalize (w3.alloc (.cells #[.int .i64 vd.k,.int .i64 vd.i,.string vd.s,.bool vd.b] 39)).alloc (.cells #[.int .i64 (q.a:Nat),.int .i64 (q.er:Nat),.int .i64 (q.line:Nat),.int .i64 (q.col:Nat),.int .i64 q.op] 33)=w4 at hA4 hV4 hQ4 hN4 ⊢
   have HN4:=Lib.hid hN4
   clear hA4 hN4
   obtain ⟨x0,x1,x2,x3,_,_,_,_⟩:=vd_cells hV4
   obtain ⟨q0,q1,q2,q3,q4⟩:=pl5 hQ4
   obtain ⟨p0,p1,p2,p3,p4⟩:=pl5 HN4.out.pl
   have hpl:=HN4.out.pl.lt
   have hvl:=hV4.lt
   have hql:=hQ4.lt
   clear hV4 hQ4
   go_wp2_with fail
   clear x0 x1 x2 x3 q0 q1 q2 q3 q4 p0 p1 p2 p3 p4 hpl hvl hql
   refine (HND.out _ HN4.out.below).mono ?_
   rintro e w5 ⟨v5,rfl,hn5,k1⟩
   have HN5:=Lib.hid (HN4.out.step k1)
   have HR5:=Lib.hid hn5
   clear k1 hn5
   obtain ⟨r0,qr⟩:=R
   unfold nodR plV
   obtain ⟨q0,q1,q2,q3,q4⟩:=pl5 HN5.out.re
   obtain ⟨f0,f1,f2,f3,f4⟩:=pl5f HN5.out.re
   have hre:=HN5.out.re.lt
   go_wp2_with fail
   refine bodyPost_ret (v:=nodR v5 qr) ?_ rfl (nd_fin (r:=(r0,qr)) HN5.out.re HN5.out.below HR5.out)
   refine cs_result2 rfl _ _ _ (a:=⟨w.heap.size + 1,0,none⟩) (by rfl) (by rfl) ?_
   unfold plV
   go_simp
  | false =>
   rw [hok] at HVA
   obtain ⟨pp,hpp⟩:∃ pp,pp=openP M p:=⟨_,rfl⟩
   obtain ⟨S,hS⟩:∃ S,S=exprP M k 10 (openP M p) o:=⟨_,rfl⟩
   have hkk:Rk M k 10 (openP M p) o:=hk.open hm
   have hres:=hkk.res (by unfold joinL; omega)
   have HOP:Hid (∀ w1,Below w.heap.size w w1 → Calls Tryz.prog 50 #[.slice ta M.length tc,plV p] w1 fun e w'=>e=.returned (plV pp) ∧ Below w1.heap.size w1 w'):=Lib.hid (fun w1 hb=>by
    have:=refOpen_calls ta tc M p w1 (HTK.out w1 hb) hml ⟨hat,by have:=hk.lo; omega,by have:=hk.hi; omega⟩
    rw [← hpp] at this
    exact this)
   have HUC:Hid (∀ w1,Below w.heap.size w w1 → Calls Tryz.prog 99 #[.slice ta M.length tc,plV pp,.slice va o.length vc] w1 (NdPost S w1)):=Lib.hid (fun w1 hb=>by
    have:=HU (openP M p) o _ w1 (HB0.out w1 hb) hkk (HO.out w1 hb)
    rw [← hS] at this
    rw [hpp]
    exact this)
   rw [← hS] at hres
   obtain ⟨r1,r2,r3,r4,r5,r6,r7,r8⟩:=hres
   obtain ⟨so,d⟩:=S
   have r1:d.a ≤ M.length:=r1
   have r2:so.length + (M.length - d.a) ≤ 800000:=r2
   have r3:d.er=0 → Cl 0 so ∧ o.length < so.length:=r3
   have r5:-2 ≤ d.op:=r5
   have r6:d.op ≤ 128:=r6
   have HSH:=Lib.hid (fun w1=>refShut_calls d w1 (by omega))
   have HV:Hid (exprP M (k + 1) 10 p o=nodeP M (shutP d) p.a so 5 ((so.length:Int) - 1) 0 [] v0):=Lib.hid (by rw [exprP_10,hm,if_pos rfl,hok,if_neg (by decide),← hS])
   have HND:Hid (∀ v1 w1,Below w.heap.size w w1 → NsAt 0 w1 v1 so → Calls Tryz.prog 18 #[.slice ta M.length tc,plV (shutP d),.int .i64 (p.a:Nat),v1,exV ⟨5,(so.length:Int) - 1,0,⟨#[]⟩,v0,0,0⟩] w1 (NdPost (nodeP M (shutP d) p.a so 5 ((so.length:Int) - 1) 0 [] v0) w1)):=Lib.hid (fun v1 w1 hb hn1=>refNode_calls ta tc p.a M (shutP d) so ⟨5,(so.length:Int) - 1,0,⟨#[]⟩,v0,0,0⟩ [] _ w1 (HTK.out w1 hb) hml (fun _=>hlt) rfl hn1 (by omega) (fun e=>by
    obtain ⟨c1,c2⟩:=r3 e
    exact Cl.snoc c1 (.inr ⟨by show (4:Int) ≤ 5; omega,by show (5:Int) ≤ 16; omega,by show (0:Int) ≤ (so.length:Int) - 1; omega,by show (so.length:Int) - 1 < so.length; omega,fun k=>absurd k (by show ¬ (5:Int) < 5; omega)⟩)))
   rw [HV.out]
   generalize nodeP M (shutP d) p.a so 5 ((so.length:Int) - 1) 0 [] v0=R at HND ⊢
   have hsl:so.length ≤ 800000:=by omega
   clear hk hkk hv h hb0 HP HU hM hm hat HTK HI HV hM6 HO HB0 HK HM hvd hq hok hcl her hpp hS r1 r2 r3 r4 r5 r6 r7 r8
   generalize M.length=ml at HI2 HVA HND HOP HUC hlt hml ⊢
   obtain ⟨sh,hsh⟩:∃ sh,sh=shutP d:=⟨_,rfl⟩
   rw [← hsh] at HND HSH
   clear hsh
   obtain ⟨n1,hn1⟩:∃ n1,n1=so.length:=⟨_,rfl⟩
   have HN1:=Lib.hid hn1
   rw [← hn1] at HND hsl
   clear hn1
   unfold plV at HI2 HOP HUC HSH
   unfold valR plV vdV at HVA
   unfold plV exV at HND
   unfold plV
   go_enter Tryz.func99,Tryz.ntmps99
   go_wp2_with fail
   generalize (w.alloc (.cells #[.int .i64 (p.a:Nat),.int .i64 (p.er:Nat),.int .i64 (p.line:Nat),.int .i64 (p.col:Nat),.int .i64 p.op] 33)).alloc (.cells #[.int .i64 0,.int .i64 0,.int .i64 0,.int .i64 0,.int .i64 0] 33)=w1 at HNB ⊢
   refine (HI2.out _ HNB.out.below).mono ?_
   rintro e w2 ⟨rfl,k1⟩
   have HN2:=Lib.hid (HNB.out.step k1)
   clear k1
   obtain ⟨p0,p1,p2,p3,p4⟩:=pl5 HN2.out.pl
   have hpl:=HN2.out.pl.lt
   go_wp2_with fail
   clear p0 p1 p2 p3 p4 hpl
   refine (HVA.out _ HN2.out.below).mono ?_
   rintro e w3 ⟨rfl,k1⟩
   have HN3:=Lib.hid (HN2.out.step k1)
   clear k1
   go_upto_region 4 with fail
   have hA4:Below w3.heap.size w3 ((w3.alloc (.cells #[.int .i64 vd.k,.int .i64 vd.i,.string vd.s,.bool vd.b] 39)).alloc (.cells #[.int .i64 (q.a:Nat),.int .i64 (q.er:Nat),.int .i64 (q.line:Nat),.int .i64 (q.col:Nat),.int .i64 q.op] 33)):=((Below.refl _ _).alloc (Nat.le_refl _) _).alloc (by simp) _
   have hV4:Ho ((w3.alloc (.cells #[.int .i64 vd.k,.int .i64 vd.i,.string vd.s,.bool vd.b] 39)).alloc (.cells #[.int .i64 (q.a:Nat),.int .i64 (q.er:Nat),.int .i64 (q.line:Nat),.int .i64 (q.col:Nat),.int .i64 q.op] 33)) w3.heap.size #[.int .i64 vd.k,.int .i64 vd.i,.string vd.s,.bool vd.b] 39:=(Ho.new _ _ _ rfl).alloc _
   have hQ4:Ho ((w3.alloc (.cells #[.int .i64 vd.k,.int .i64 vd.i,.string vd.s,.bool vd.b] 39)).alloc (.cells #[.int .i64 (q.a:Nat),.int .i64 (q.er:Nat),.int .i64 (q.line:Nat),.int .i64 (q.col:Nat),.int .i64 q.op] 33)) (w3.heap.size + 1) #[.int .i64 (q.a:Nat),.int .i64 (q.er:Nat),.int .i64 (q.line:Nat),.int .i64 (q.col:Nat),.int .i64 q.op] 33:=Ho.new _ _ _ (by simp)
   have hN4:=HN3.out.step hA4
   generalize (w3.alloc (.cells #[.int .i64 vd.k,.int .i64 vd.i,.string vd.s,.bool vd.b] 39)).alloc (.cells #[.int .i64 (q.a:Nat),.int .i64 (q.er:Nat),.int .i64 (q.line:Nat),.int .i64 (q.col:Nat),.int .i64 q.op] 33)=w4 at hA4 hV4 hQ4 hN4 ⊢
   have HN4:=Lib.hid hN4
   clear hA4 hN4
   clear hV4 hQ4
   obtain ⟨p0,p1,p2,p3,p4⟩:=pl5 HN4.out.pl
   have hpl:=HN4.out.pl.lt
   go_wp2_with fail
   clear p0 p1 p2 p3 p4 hpl
   refine (HOP.out _ HN4.out.below).mono ?_
   rintro e w5 ⟨rfl,k1⟩
   have HN5:=Lib.hid (HN4.out.step k1)
   clear k1
   go_wp2_with fail
   refine (HUC.out _ HN5.out.below).mono ?_
   rintro e w6 ⟨v6,rfl,hn6,k1⟩
   have HN6:=Lib.hid (HN5.out.step k1)
   clear k1
   have hn6:NsAt 0 w6 v6 so:=hn6
   obtain ⟨va6,vc6,rfl⟩:=hn6.slice
   rw [← HN1.out] at hn6
   have HS6:=Lib.hid hn6
   clear hn6
   unfold nodR plV
   rw [← HN1.out]
   go_upto_region 7 with fail
   have hA7:Below w6.heap.size w6 (w6.alloc (.cells #[.int .i64 (d.a:Nat),.int .i64 (d.er:Nat),.int .i64 (d.line:Nat),.int .i64 (d.col:Nat),.int .i64 d.op] 33)):=(Below.refl _ _).alloc (Nat.le_refl _) _
   have hD7:Ho (w6.alloc (.cells #[.int .i64 (d.a:Nat),.int .i64 (d.er:Nat),.int .i64 (d.line:Nat),.int .i64 (d.col:Nat),.int .i64 d.op] 33)) w6.heap.size #[.int .i64 (d.a:Nat),.int .i64 (d.er:Nat),.int .i64 (d.line:Nat),.int .i64 (d.col:Nat),.int .i64 d.op] 33:=Ho.new _ _ _ rfl
   have HN7:=Lib.hid (HN6.out.step hA7)
   have HS7:=Lib.hid (HS6.out.below hA7)
   generalize w6.alloc (.cells #[.int .i64 (d.a:Nat),.int .i64 (d.er:Nat),.int .i64 (d.line:Nat),.int .i64 (d.col:Nat),.int .i64 d.op] 33)=w7 at hA7 hD7 HN7 HS7 ⊢
   have HD7:=Lib.hid hD7
   clear hA7 hD7
   have HSS:Hid (∀ W,UB w p W → Ho W w6.heap.size #[.int .i64 (d.a:Nat),.int .i64 (d.er:Nat),.int .i64 (d.line:Nat),.int .i64 (d.col:Nat),.int .i64 d.op] 33 → (W.cell? ⟨w6.heap.size,0,none⟩=some (.int .i64 (d.a:Nat)) ∧ W.cell? ⟨w6.heap.size,1,none⟩=some (.int .i64 (d.er:Nat)) ∧ W.cell? ⟨w6.heap.size,2,none⟩=some (.int .i64 (d.line:Nat)) ∧ W.cell? ⟨w6.heap.size,3,none⟩=some (.int .i64 (d.col:Nat)) ∧ W.cell? ⟨w6.heap.size,4,none⟩=some (.int .i64 d.op) ∧ W.cell? ⟨w.heap.size,0,none⟩=some (.int .i64 (p.a:Nat)))):=Lib.hid (fun W h1 h2=>⟨(pl5 h2).1,(pl5 h2).2.1,(pl5 h2).2.2.1,(pl5 h2).2.2.2.1,(pl5 h2).2.2.2.2,(pl5 h1.pl).1⟩)
   have hwr:IntKind.i64.wrap ((n1:Int) - 1)=(n1:Int) - 1:=by rw [IntKind.wrap_i64]; omega
   have HNd:=Lib.hid (HN7.out.step (Below.refl w7.heap.size w7).drew)
   have HDd:=Lib.hid (HD7.out.below (Below.refl w7.heap.size w7).drew)
   have HSd:=Lib.hid (HS7.out.below (Below.refl w7.heap.size w7).drew)
   refine wp_region_B (S:=(fun W=>W.cell? ⟨w6.heap.size,0,none⟩=some (.int .i64 (d.a:Nat)) ∧ W.cell? ⟨w6.heap.size,1,none⟩=some (.int .i64 (d.er:Nat)) ∧ W.cell? ⟨w6.heap.size,2,none⟩=some (.int .i64 (d.line:Nat)) ∧ W.cell? ⟨w6.heap.size,3,none⟩=some (.int .i64 (d.col:Nat)) ∧ W.cell? ⟨w6.heap.size,4,none⟩=some (.int .i64 d.op) ∧ W.cell? ⟨w.heap.size,0,none⟩=some (.int .i64 (p.a:Nat)))) [14] (by kernel_rfl) (HSS.out _ HNd.out HDd.out) (fun hH0=>?_)
   refine wpB_take (i:=0) (v:=.slice ta ml tc) [14] rfl (by kernel_rfl) (by kernel_rfl) (by kernel_rfl) (by kernel_rfl) (fun _ _ _ h=>h) (Or.inl ⟨by kernel_rfl,fun wS hSw=>by (try dsimp only at hSw); go_simp⟩) hH0 ?_
   refine wpB_take (i:=1) (v:=.agg #[.int .i64 (d.a:Nat),.int .i64 (d.er:Nat),.int .i64 (d.line:Nat),.int .i64 (d.col:Nat),.int .i64 d.op]) [2,10,11,12,13,14] rfl (by kernel_rfl) (by kernel_rfl) (by kernel_rfl) (by kernel_rfl) (fun _ _ _ h=>h) (Or.inl ⟨by kernel_rfl,fun wS hSw=>by (try dsimp only at hSw); go_simp⟩) hH0 ?_
   refine wpB_take (i:=3) (v:=.pointer (some ⟨w.heap.size,0,none⟩)) [14] rfl (by kernel_rfl) (by kernel_rfl) (by kernel_rfl) (by kernel_rfl) (fun _ _ _ h=>h) (Or.inl ⟨by kernel_rfl,fun wS hSw=>by (try dsimp only at hSw); go_simp⟩) hH0 ?_
   refine wpB_take (i:=4) (v:=.int .i64 (p.a:Nat)) [14] rfl (by kernel_rfl) (by kernel_rfl) (by kernel_rfl) (by kernel_rfl) (fun _ _ _ h=>h) (Or.inl ⟨by kernel_rfl,fun wS hSw=>by (try dsimp only at hSw); go_simp⟩) hH0 ?_
   refine wpB_take (i:=5) (v:=.slice va6 n1 vc6) [14] rfl (by kernel_rfl) (by kernel_rfl) (by kernel_rfl) (by kernel_rfl) (fun _ _ _ h=>h) (Or.inl ⟨by kernel_rfl,fun wS hSw=>by (try dsimp only at hSw); go_simp⟩) hH0 ?_
   refine wpB_take (i:=6) (v:=.slice va6 n1 vc6) [14] rfl (by kernel_rfl) (by kernel_rfl) (by kernel_rfl) (by kernel_rfl) (fun _ _ _ h=>h) (Or.inl ⟨by kernel_rfl,fun wS hSw=>by (try dsimp only at hSw); go_simp⟩) hH0 ?_
   refine wpB_take (i:=7) (v:=.int .i64 (n1:Nat)) [14] rfl (by kernel_rfl) (by kernel_rfl) (by kernel_rfl) (by kernel_rfl) (fun _ _ _ h=>h) (Or.inl ⟨by kernel_rfl,fun wS hSw=>by (try dsimp only at hSw); go_simp⟩) hH0 ?_
   refine wpB_take (i:=8) (v:=.int .i64 ((n1:Int) - 1)) [14] rfl (by kernel_rfl) (by kernel_rfl) (by kernel_rfl) (by kernel_rfl) (fun _ _ _ h=>h) (Or.inl ⟨by kernel_rfl,fun wS hSw=>by (try dsimp only at hSw); go_simp⟩) hH0 ?_
   refine wpB_take (i:=9) (v:=.agg #[.int .i64 5,.int .i64 ((n1:Int) - 1),.int .i64 0,.string ⟨#[]⟩,.int .i64 0,.int .i64 0,.string ⟨#[]⟩,.bool false,.int .i64 0,.int .i64 0]) [14] rfl (by kernel_rfl) (by kernel_rfl) (by kernel_rfl) (by kernel_rfl) (fun _ _ _ h=>h) (Or.inl ⟨by kernel_rfl,fun wS hSw=>by (try dsimp only at hSw); go_simp⟩) hH0 ?_
   generalize w7.drew=wd at hH0 HNd HDd HSd ⊢
   refine wpB_step (i:=2) rfl (by kernel_rfl) (fun K hK=>?_)
   rw [if_pos (by kernel_rfl)]
   go_simp
   refine (HSH.out _).mono ?_
   rintro e w8 ⟨rfl,k1⟩
   have HN8:=Lib.hid (HNd.out.step k1)
   have HD8:=Lib.hid (HDd.out.below k1)
   have HS8:=Lib.hid (HSd.out.below k1)
   clear k1
   refine hK.out _ _ (HSS.out _ HN8.out HD8.out) (fun hH1=>?_)
   clear hK K
   refine wpB_step (i:=10) rfl (by kernel_rfl) (fun K hK=>?_)
   rw [if_pos (by kernel_rfl)]
   go_simp
   refine (HND.out _ _ HN8.out.below HS8.out).mono ?_
   rintro e w9 ⟨v9,rfl,hn9,k1⟩
   have HN9:=Lib.hid (HN8.out.step k1)
   have HD9:=Lib.hid (HD8.out.below k1)
   have HR9:=Lib.hid hn9
   clear k1 hn9
   obtain ⟨r0,qr⟩:=R
   unfold nodR plV
   refine hK.out _ _ (HSS.out _ HN9.out HD9.out) (fun hH2=>?_)
   clear hK K
   refine wpB_take (i:=11) (v:=v9) [14] rfl (by kernel_rfl) (by kernel_rfl) (by kernel_rfl) (by kernel_rfl) (fun _ _ _ h=>h) (Or.inl ⟨by kernel_rfl,fun wS hSw=>by (try dsimp only at hSw); go_simp⟩) hH2 ?_
   refine wpB_take (i:=12) (v:=.agg #[.int .i64 (qr.a:Nat),.int .i64 (qr.er:Nat),.int .i64 (qr.line:Nat),.int .i64 (qr.col:Nat),.int .i64 qr.op]) [14] rfl (by kernel_rfl) (by kernel_rfl) (by kernel_rfl) (by kernel_rfl) (fun _ _ _ h=>h) (Or.inl ⟨by kernel_rfl,fun wS hSw=>by (try dsimp only at hSw); go_simp⟩) hH2 ?_
   refine wpB_take (i:=13) (v:=v9) [14] rfl (by kernel_rfl) (by kernel_rfl) (by kernel_rfl) (by kernel_rfl) (fun _ _ _ h=>h) (Or.inl ⟨by kernel_rfl,fun wS hSw=>by (try dsimp only at hSw); go_simp⟩) hH2 ?_
   obtain ⟨q0,q1,q2,q3,q4⟩:=pl5 HN9.out.re
   obtain ⟨f0,f1,f2,f3,f4⟩:=pl5f HN9.out.re
   have hre:=HN9.out.re.lt
   refine wpB_past (i:=14) rfl (by kernel_rfl) (by kernel_rfl) (fun K hK=>?_)
   rw [if_pos (by kernel_rfl)]
   go_simp
   refine hK.out _ _ ?_
   clear hK K
   refine wpB_done (by kernel_rfl) ?_ _
   go_simp
   go_wp2_with fail
   refine bodyPost_ret (v:=nodR v9 qr) ?_ rfl (nd_fin (r:=(r0,qr)) HN9.out.re HN9.out.below HR9.out)
   refine cs_result2 rfl _ _ _ (a:=⟨w.heap.size + 1,0,none⟩) (by rfl) (by rfl) ?_
   unfold plV
   go_simp
structure Lk (M:List Tk) (k:Nat) (p:Pl) (o:List Ex):Prop where
 at':p.a ≤ M.length
 len:o.length + (M.length - p.a) ≤ 800000
 cl:p.er=0 → Cl 0 o ∧ 0 < o.length
 lo0:p.er=0 → 0 ≤ p.op
 lo:-2 ≤ p.op
 hi:p.op ≤ 128
 mu:13 * muP M p ≤ k
theorem Lk.first {M:List Tk} {k lv:Nat} {p:Pl} {o:List Ex} (h:Rk M k lv p o) (hj:¬ joinL lv):Lk M k (canP M lv p o).2 (canP M lv p o).1:=by
 have hr:=h.res hj
 rw [can_eq h.fu] at hr
 obtain ⟨r1,r2,r3,r4,r5,r6,r7,r8⟩:=hr
 have hf:=h.fu
 unfold needP at hf
 exact ⟨r1,r2,fun e=>⟨(r3 e).1,by have:=(r3 e).2; omega⟩,r4,r5,r6,by omega⟩
theorem Lk.skip {M:List Tk} {k lv:Nat} {p:Pl} {o:List Ex} {s:List UInt8} (h:Lk M k p o) (hs:isP M p s=true):Rk M k lv (skipP p) o:=by
 have he:=(isP_some hs).1
 have hl:=isP_lt hs
 have hm:=mu_skip hs
 have h1:=h.mu
 have h2:=rank_le lv
 have h3:=h.lo0 he
 have h4:=h.len
 refine ⟨hl,by show o.length + (M.length - (p.a + 1)) ≤ _; omega,fun e=>(h.cl he).1,fun _=>h3,by show -1 ≤ p.op; omega,h.hi,?_⟩
 unfold needP
 omega
theorem jn_ops {M:List Tk} {p:Pl} {lv:Nat} (hj:joinL lv) (h0:firstOp M p (jnS lv) ≠ 0):6 ≤ firstOp M p (jnS lv) ∧ firstOp M p (jnS lv) ≤ 16:=by
 have e:jnS lv=opsL lv:=by
  unfold joinL at hj
  rcases hj with rfl | rfl | rfl | rfl <;> rfl
 rw [e] at h0 ⊢
 have:=ops_ok hj h0
 omega
theorem Lk.node {M:List Tk} {k lv:Nat} {p:Pl} {o:List Ex} {s:List UInt8} (h:Lk M k p o) (hs:isP M p s=true) (hj:joinL lv) (h0:firstOp M p (jnS lv) ≠ 0) (n:ByteArray) (v:Vd) (l c:Int) (e:(canP M (lv + 1) (skipP p) o).2.er=0) :
  Cl 0 ((canP M (lv + 1) (skipP p) o).1 ++ [⟨(firstOp M p (jnS lv):Int),(o.length:Int) - 1,((canP M (lv + 1) (skipP p) o).1.length:Int) - 1,n,v,l,c⟩]):=by
 have hk:Rk M k (lv + 1) (skipP p) o:=h.skip hs
 have hr:=hk.res (by unfold joinL at hj ⊢; omega)
 rw [can_eq hk.fu] at hr
 obtain ⟨r1,r2,r3,r4,r5,r6,r7,r8⟩:=hr
 obtain ⟨c1,c2⟩:=r3 e
 have c3:=(h.cl (isP_some hs).1).2
 obtain ⟨o1,o2⟩:=jn_ops hj h0
 exact c1.snoc (.inr ⟨by show (4:Int) ≤ (firstOp M p (jnS lv):Int); omega,by show (firstOp M p (jnS lv):Int) ≤ 16; omega,by show (0:Int) ≤ (o.length:Int) - 1; omega,by show (o.length:Int) - 1 < _; omega,fun _=>⟨by show (0:Int) ≤ ((canP M (lv + 1) (skipP p) o).1.length:Int) - 1; omega,by show ((canP M (lv + 1) (skipP p) o).1.length:Int) - 1 < _; omega⟩⟩)
theorem Lk.next {M:List Tk} {k lv:Nat} {p:Pl} {o:List Ex} (h:Lk M k p o) (hj:joinL lv) (h0:firstOp M p (jnS lv) ≠ 0):Lk M k (rndP M lv p o).2 (rndP M lv p o).1:=by
 obtain ⟨s,hs⟩:=firstOp_some (jnS lv) h0
 have hk:Rk M k (lv + 1) (skipP p) o:=h.skip hs
 have hr:=hk.res (by unfold joinL at hj ⊢; omega)
 rw [can_eq hk.fu] at hr
 obtain ⟨r1,r2,r3,r4,r5,r6,r7,r8⟩:=hr
 have hb:Bd M (skipP p) o (canP M (lv + 1) (skipP p) o):=by
  have:=expr_bd M k (lv + 1) (skipP p) o hk.at'
  rw [can_eq hk.fu] at this
  exact this
 have hb2:Bd M p o (rndP M lv p o):=bd_node hb _ _ _ _ _ _
 obtain ⟨n1,n2,n3,n4,n5⟩:=node_at M (canP M (lv + 1) (skipP p) o).2 p.a (canP M (lv + 1) (skipP p) o).1 (firstOp M p (jnS lv)) ((o.length:Int) - 1) (((canP M (lv + 1) (skipP p) o).1.length:Int) - 1) [] v0
 have hm:=(can_more (o:=o) hj h0).2
 have g1:=h.len
 have g2:=hb2.len
 have g3:=hb2.ge
 have g4:=hb2.le
 have g5:=hb2.more
 have g6:=h.mu
 have g7:=h.lo0 (isP_some hs).1
 refine ⟨g4,by omega,fun e=>?_,fun e=>by have:=hb2.eq e; omega,by have:=hb2.lo; omega,by have:=hb2.hi; have:=h.hi; omega,by omega⟩
 have e1:(canP M (lv + 1) (skipP p) o).2.er=0:=n5 e
 refine ⟨?_,by have:=(h.cl (isP_some hs).1).2; omega⟩
 obtain ⟨_,x,x1,x2,x3,x4,_⟩:=node_ok e
 have hc:=h.node hs hj h0 x.n x.v x.l x.c e1
 have hx:x=⟨(firstOp M p (jnS lv):Int),(o.length:Int) - 1,((canP M (lv + 1) (skipP p) o).1.length:Int) - 1,x.n,x.v,x.l,x.c⟩:=by
  cases x
  simp only at x1 x2 x3
  rw [x1,x2,x3]
 have x5:(rndP M lv p o).1=(canP M (lv + 1) (skipP p) o).1 ++ [x]:=by unfold rndP; rw [x4]
 rw [x5,hx]
 exact hc
theorem p5_set {W:World} {b:Nat} {T:TypeId} {u0 u1 u2 u3 u4 a c d e f:Value} (h:Ho W b #[u0,u1,u2,u3,u4] T):Ho (((((W.setCell ⟨b,0,none⟩ a).setCell ⟨b,1,none⟩ c).setCell ⟨b,2,none⟩ d).setCell ⟨b,3,none⟩ e).setCell ⟨b,4,none⟩ f) b #[a,c,d,e,f] T:=by
 have h0:Ho (W.setCell ⟨b,0,none⟩ a) b #[a,u1,u2,u3,u4] T:=Ho.set (o:=0) (v:=a) h rfl
 have h1:Ho ((W.setCell ⟨b,0,none⟩ a).setCell ⟨b,1,none⟩ c) b #[a,c,u2,u3,u4] T:=Ho.set (o:=1) (v:=c) h0 rfl
 have h2:Ho (((W.setCell ⟨b,0,none⟩ a).setCell ⟨b,1,none⟩ c).setCell ⟨b,2,none⟩ d) b #[a,c,d,u3,u4] T:=Ho.set (o:=2) (v:=d) h1 rfl
 have h3:Ho ((((W.setCell ⟨b,0,none⟩ a).setCell ⟨b,1,none⟩ c).setCell ⟨b,2,none⟩ d).setCell ⟨b,3,none⟩ e) b #[a,c,d,e,u4] T:=Ho.set (o:=3) (v:=e) h2 rfl
 exact Ho.set (o:=4) (v:=f) h3 rfl
theorem p5_other {W:World} {b g:Nat} {T:TypeId} {cs:Array Value} {a c d e f:Value} (h:Ho W g cs T) (hne:g ≠ b):Ho (((((W.setCell ⟨b,0,none⟩ a).setCell ⟨b,1,none⟩ c).setCell ⟨b,2,none⟩ d).setCell ⟨b,3,none⟩ e).setCell ⟨b,4,none⟩ f) g cs T :=
 ((((h.other hne).other hne).other hne).other hne).other hne
theorem p5_ns {W:World} {b:Nat} {v:Value} {L:List Ex} {a c d e f:Value} (hn:NsAt 0 W v L) (hb:CBlk W b 33):NsAt 0 (((((W.setCell ⟨b,0,none⟩ a).setCell ⟨b,1,none⟩ c).setCell ⟨b,2,none⟩ d).setCell ⟨b,3,none⟩ e).setCell ⟨b,4,none⟩ f) v L:=by
 refine hn.heap (fun k c=>?_)
 refine Kp.block (S:=K1 b) ?_ k c.lt (fun e=>c.ne hb (by decide) e)
 repeat' (first | (with_reducible exact Kp.refl _ _) | with_reducible refine kp_set1 ?_ _ _)
theorem p5_below {w W:World} {n b:Nat} {a c d e f:Value} (h:Below n w W) (hb:n ≤ b):Below n w (((((W.setCell ⟨b,0,none⟩ a).setCell ⟨b,1,none⟩ c).setCell ⟨b,2,none⟩ d).setCell ⟨b,3,none⟩ e).setCell ⟨b,4,none⟩ f):=by
 repeat' (first | (with_reducible exact h) | with_reducible refine Below.setCell ?_ (by simp <;> omega) _)
theorem UB.set {w W:World} {p:Pl} (h:UB w p W) (q:Pl):UB w q (((((W.setCell ⟨w.heap.size,0,none⟩ (.int .i64 (q.a:Nat))).setCell ⟨w.heap.size,1,none⟩ (.int .i64 (q.er:Nat))).setCell ⟨w.heap.size,2,none⟩ (.int .i64 (q.line:Nat))).setCell ⟨w.heap.size,3,none⟩ (.int .i64 (q.col:Nat))).setCell ⟨w.heap.size,4,none⟩ (.int .i64 q.op)) :=
 ⟨p5_set h.pl,p5_other h.re (by omega),p5_below h.below (Nat.le_refl _)⟩
theorem UB.put {w W:World} {p:Pl} (h:UB w p W) (q:Pl):UB w p (W.alloc (.cells #[.int .i64 (q.a:Nat),.int .i64 (q.er:Nat),.int .i64 (q.line:Nat),.int .i64 (q.col:Nat),.int .i64 q.op] 33)) ∧ Ho (W.alloc (.cells #[.int .i64 (q.a:Nat),.int .i64 (q.er:Nat),.int .i64 (q.line:Nat),.int .i64 (q.col:Nat),.int .i64 q.op] 33)) W.heap.size #[.int .i64 (q.a:Nat),.int .i64 (q.er:Nat),.int .i64 (q.line:Nat),.int .i64 (q.col:Nat),.int .i64 q.op] 33 ∧ ∀ v L,NsAt 0 W v L → NsAt 0 (W.alloc (.cells #[.int .i64 (q.a:Nat),.int .i64 (q.er:Nat),.int .i64 (q.line:Nat),.int .i64 (q.col:Nat),.int .i64 q.op] 33)) v L:=by
 have hA:Below W.heap.size W (W.alloc (.cells #[.int .i64 (q.a:Nat),.int .i64 (q.er:Nat),.int .i64 (q.line:Nat),.int .i64 (q.col:Nat),.int .i64 q.op] 33)):=(Below.refl _ _).alloc (Nat.le_refl _) _
 exact ⟨h.step hA,Ho.new _ _ _ rfl,fun v L k=>k.below hA⟩
theorem UB.at' {w W:World} {p:Pl} (h:UB w p W):atOf (W.cell? ⟨w.heap.size,0,none⟩)=p.a:=by rw [(pl5 h.pl).1]; rfl
theorem sg_new {W:World} {L:List (List UInt8 × Nat)} {ss os:Array Value} {T U:TypeId} {g g':Nat} (e:g=W.heap.size) (e':g'=W.heap.size + 1) (h:∀ (j:Nat) (s:List UInt8) (o:Nat),L[j]? = some (s,o) → ss[j]? = some (Value.string ⟨s.toArray⟩) ∧ os[j]? = some (Value.int .i64 (o:Nat))):SgAt ((W.alloc (.cells ss T)).alloc (.cells os U)) g g' L:=by
 subst e e'
 have h1:Ho ((W.alloc (.cells ss T)).alloc (.cells os U)) W.heap.size ss T:=(Ho.new _ _ _ rfl).alloc _
 have h2:Ho ((W.alloc (.cells ss T)).alloc (.cells os U)) (W.heap.size + 1) os U:=Ho.new _ _ _ (by simp)
 exact ⟨h1.lt,h2.lt,fun j s o hj=>⟨by rw [cell_of_row _ _ j _ _ _ h1]; exact (h j s o hj).1,by rw [cell_of_row _ _ j _ _ _ h2]; exact (h j s o hj).2⟩⟩
theorem two_new {w W:World} {ss os:Array Value} {T U:TypeId} (h:Below w.heap.size w W):Below w.heap.size w ((W.alloc (.cells ss T)).alloc (.cells os U)):=(h.alloc h.size _).alloc (by simp; have:=h.size; omega) _
end Go.Proofs.YtmknmmbfaljkbaaGreatDoor
