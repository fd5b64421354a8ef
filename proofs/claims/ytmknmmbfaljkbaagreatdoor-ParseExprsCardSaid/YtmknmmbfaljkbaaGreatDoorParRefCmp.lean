/- paclaim: ParRefCmp -/
import Derived.Test.YtmknmmbfaljkbaaGreatDoorLowR5
import Derived.Deep.Cut
namespace Go.Proofs.YtmknmmbfaljkbaaGreatDoor
open Go.RowKit
set_option linter.unusedVariables false
theorem cl_bounds {L:List Ex} (h:Cl 0 L) (hl:L.length ≤ 800000):∀ x ∈ L,(4 ≤ x.op → x.op ≤ 16 → -1000000 ≤ x.a ∧ x.a ≤ 1000000) ∧ (5 < x.op → x.op ≤ 16 → -1000000 ≤ x.b ∧ x.b ≤ 1000000):=fun x hx=>by
 obtain ⟨n,hn,e⟩:=List.getElem_of_mem hx
 have hx2:L[n]? = some x:=by rw [List.getElem?_eq_getElem hn,e]
 rcases h n x (Nat.zero_le _) hx2 with k | ⟨k1,k2,k3,k4,k5⟩
 ·exact ⟨fun a b=>by omega,fun a b=>by omega⟩
 ·exact ⟨fun a b=>by omega,fun a b=>by have:=k5 a; omega⟩
theorem cmp_pre {o:List Ex} {p:Pl} {S T:List Ex × Pl} (hO:Cl 0 o) (h1:Okx o p S) (h2:Okx S.1 (skipP S.2) T):Cl 0 T.1 ∧ Cl 0 (turnedE T.1 o.length S.1.length) ∧ (turnedE T.1 o.length S.1.length).length=T.1.length ∧ o.length < S.1.length ∧ S.1.length < T.1.length:=by
 obtain ⟨a1,a2,a3,a4⟩:=h1
 obtain ⟨b1,b2,b3,b4⟩:=h2
 have ht:T.1.take o.length=o:=by
  have h5:=congrArg (List.take o.length) b2
  rw [List.take_take,Nat.min_eq_left (by omega)] at h5
  rw [h5]
  exact a2
 have hcl:Cl o.length T.1:=a3.join b3 b2 (by omega)
 have hl:=turned_len (l:=T.1) (f:=o.length) (m:=S.1.length) (by omega) (by omega)
 have hc:=turned_cl (l:=T.1) (f:=o.length) (m:=S.1.length) (by omega) (by omega) (by rw [b2]; exact a3) b3
 have hk:=turned_take (l:=T.1) (f:=o.length) (m:=S.1.length) (by omega) (by omega)
 exact ⟨hO.join hcl ht (Nat.zero_le _),hO.join hc (by rw [hk,ht]) (Nat.zero_le _),hl,a1,b1⟩
theorem sg_cmp (W:World):SgAt ((W.alloc (.cells #[.string ⟨#[61,61]⟩,.string ⟨#[33,61]⟩,.string ⟨#[60]⟩,.string ⟨#[60,61]⟩,.string ⟨#[62]⟩,.string ⟨#[62,61]⟩] 9)).alloc (.cells #[.int .i64 13,.int .i64 14,.int .i64 15,.int .i64 16,.int .i64 115,.int .i64 116] 3)) W.heap.size (W.heap.size + 1) cmpS:=sg_new rfl rfl (fun j s o hj=>by
 obtain ⟨hl,e⟩:=List.getElem?_eq_some_iff.1 hj
 have hl2:j < 6:=hl
 match j,hl2 with
  | 0,_=>cases e; exact ⟨rfl,rfl⟩
  | 1,_=>cases e; exact ⟨rfl,rfl⟩
  | 2,_=>cases e; exact ⟨rfl,rfl⟩
  | 3,_=>cases e; exact ⟨rfl,rfl⟩
  | 4,_=>cases e; exact ⟨rfl,rfl⟩
  | 5,_=>cases e; exact ⟨rfl,rfl⟩)
set_option maxHeartbeats 16000000 in
set_option maxRecDepth 100000 in
theorem refCmpA (ta:Option Addr) (tc k:Nat) (M:List Tk) (w0:World) (h:TkIn w0 37 ta M.length M) (hM:MOk M) (hM6:M.length ≤ 65536)
  (HS:RefC 65 6 k ta tc M w0) (p:Pl) (o:List Ex) (v:Value) (w:World) (hb0:Below w0.heap.size w0 w) (hk:Rk M (k + 1) 5 p o) (hv:NsAt 0 w v o)
  (hcase:firstOp M (canP M 6 p o).2 cmpS=0) :
  Calls Tryz.prog 49 #[.slice ta M.length tc,plV p,v] w (NdPost (exprP M (k + 1) 5 p o) w):=by
 obtain ⟨ml,hml⟩:∃ ml,ml=M.length:=⟨_,rfl⟩
 have HTK:=Lib.hid (fun w1 (hb:Below w.heap.size w w1)=>(h.below hb0).below hb)
 have HNB:=Lib.hid (UB.new w p)
 have HO:=Lib.hid (fun w1 (hb:Below w.heap.size w w1)=>hv.below hb)
 have HB0:=Lib.hid (fun w1 (hb:Below w.heap.size w w1)=>hb0.trans (hb.mono hb0.size))
 have hkd:Rk M k 6 p o:=hk.down (by decide)
 have hns:¬ joinL 6:=by unfold joinL; omega
 have HSUB:Hid (∀ (q:Pl) (u:List Ex) (x:Value) (w1:World),Below w.heap.size w w1 → Rk M k 6 q u → NsAt 0 w1 x u → Calls Tryz.prog 65 #[.slice ta ml tc,plV q,x] w1 (NdPost (canP M 6 q u) w1)):=Lib.hid (fun q u x w1 hb h1 h2=>by
  have:=HS q u x w1 (HB0.out w1 hb) h1 h2
  rw [can_eq h1.fu,← hml] at this
  exact this)
 have HLK:Lk M k (canP M 6 p o).2 (canP M 6 p o).1:=Lk.first hkd hns
 have HOK:(canP M 6 p o).2.er=0 → Okx o p (canP M 6 p o):=fun e=>by
  rw [← can_eq hkd.fu] at e ⊢
  exact (expr_ok M k 6 p o hkd.fu e).2 hns
 have HER:(canP M 6 p o).2.er=0 → p.er=0:=fun e=>by
  rw [← can_eq hkd.fu] at e
  exact (ge_expr M k 6 p o).2 e
 have HC:Hid (∀ w1,Below w.heap.size w w1 → Calls Tryz.prog 65 #[.slice ta ml tc,plV p,v] w1 (NdPost (canP M 6 p o) w1)):=Lib.hid (fun w1 hb=>HSUB.out p o v w1 hb hkd (HO.out w1 hb))
 have hvx:exprP M (k + 1) 5 p o=(if firstOp M (canP M 6 p o).2 cmpS=0 then canP M 6 p o else cmpP M (canP M 6 p o).2 o.length (canP M 6 p o).1.length (firstOp M (canP M 6 p o).2 cmpS) (exprP M k 6 (skipP (canP M 6 p o).2) (canP M 6 p o).1)):=by rw [exprP_5,can_eq hkd.fu]
 obtain ⟨op,hop⟩:∃ op,op=firstOp M (canP M 6 p o).2 cmpS:=⟨_,rfl⟩
 rw [← hop] at hvx hcase
 have hpo:o.length ≤ 800000:=by have:=hk.len; omega
 have HSG:Hid (∀ (gs gi:Nat) (w1:World),Below w.heap.size w w1 → SgAt w1 gs gi cmpS → Calls Tryz.prog 66 #[.slice ta ml tc,plV (canP M 6 p o).2,.slice (some ⟨gs,0,none⟩) 6 6,.slice (some ⟨gi,0,none⟩) 6 6] w1 fun e w'=>e=.returned (.int .i64 (op:Nat)) ∧ Below w1.heap.size w1 w'):=Lib.hid (fun gs gi w1 hb h2=>by
  have:=refSign_calls ta tc gs gi 6 M (canP M 6 p o).2 cmpS w1 (HTK.out w1 hb) (by omega) HLK.at' h2 rfl (by omega)
  rw [← hml,← hop] at this
  exact this)
 have HV:Hid (exprP M (k + 1) 5 p o=canP M 6 p o):=Lib.hid (by rw [hvx,if_pos hcase])
 have t0:((op:Int) == 0)=true:=by rw [hcase]; rfl
 obtain ⟨va,vc,rfl⟩:=hv.slice
 obtain ⟨n0,hn0⟩:∃ n0,n0=o.length:=⟨_,rfl⟩
 rw [← hn0] at HC ⊢
 rw [HV.out,← hml]
 generalize canP M 6 p o=S at HC HSG hop HLK HOK HER hvx HV ⊢
 obtain ⟨so,s⟩:=S
 have hb:n0 ≤ 800000:=by omega
 clear hk hkd hv h hb0 HS hM hM6 HTK HO HB0 hml hns HSUB HLK HOK HER hvx hpo HV hop hcase hn0
 have HSG:Hid (∀ (gs gi:Nat) (w1:World),Below w.heap.size w w1 → SgAt w1 gs gi cmpS → Calls Tryz.prog 66 #[.slice ta ml tc,plV s,.slice (some ⟨gs,0,none⟩) 6 6,.slice (some ⟨gi,0,none⟩) 6 6] w1 fun e w'=>e=.returned (.int .i64 (op:Nat)) ∧ Below w1.heap.size w1 w'):=HSG
 unfold plV at HC HSG
 unfold plV
 go_enter Tryz.func49,Tryz.ntmps49
 go_wp2_with fail
 generalize (w.alloc (.cells #[.int .i64 (p.a:Nat),.int .i64 (p.er:Nat),.int .i64 (p.line:Nat),.int .i64 (p.col:Nat),.int .i64 p.op] 33)).alloc (.cells #[.int .i64 0,.int .i64 0,.int .i64 0,.int .i64 0,.int .i64 0] 33)=w1 at HNB ⊢
 obtain ⟨p0,p1,p2,p3,p4⟩:=pl5 HNB.out.pl
 have hpl:=HNB.out.pl.lt
 go_wp2_with fail
 clear p0 p1 p2 p3 p4 hpl
 refine (HC.out _ HNB.out.below).mono ?_
 rintro e w2 ⟨v2,rfl,hn2,k1⟩
 have HU2:=Lib.hid (HNB.out.step k1)
 have hn2:NsAt 0 w2 v2 so:=hn2
 clear k1 HNB HC
 have HN2:=Lib.hid hn2
 clear hn2
 unfold nodR plV
 obtain ⟨p0,p1,p2,p3,p4⟩:=pl5 HU2.out.pl
 obtain ⟨f0,f1,f2,f3,f4⟩:=pl5f HU2.out.pl
 have hpl:=HU2.out.pl.lt
 go_upto_region 3 with fail
 clear p0 p1 p2 p3 p4 f0 f1 f2 f3 f4 hpl
 have hu3:=HU2.out.set s
 have hn3:=p5_ns (a:=.int .i64 (s.a:Nat)) (c:=.int .i64 (s.er:Nat)) (d:=.int .i64 (s.line:Nat)) (e:=.int .i64 (s.col:Nat)) (f:=.int .i64 s.op) HN2.out HU2.out.pl.cblk
 generalize (((((w2.setCell ⟨w.heap.size,0,none⟩ (.int .i64 (s.a:Nat))).setCell ⟨w.heap.size,1,none⟩ (.int .i64 (s.er:Nat))).setCell ⟨w.heap.size,2,none⟩ (.int .i64 (s.line:Nat))).setCell ⟨w.heap.size,3,none⟩ (.int .i64 (s.col:Nat))).setCell ⟨w.heap.size,4,none⟩ (.int .i64 s.op))=w3 at hu3 hn3 ⊢
 have HU3:=Lib.hid hu3
 have HN3:=Lib.hid hn3
 clear hu3 hn3 HU2 HN2
 obtain ⟨p0,p1,p2,p3,p4⟩:=pl5 HU3.out.pl
 have hpl:=HU3.out.pl.lt
 go_wp2_with fail
 clear p0 p1 p2 p3 p4 hpl
 refine (HSG.out _ _ _ (two_new HU3.out.below) (sg_cmp _)).mono ?_
 rintro e w4 ⟨rfl,k1⟩
 have k2:=(two_new (Below.refl w3.heap.size w3)).trans (k1.mono (two_new (Below.refl w3.heap.size w3)).size)
 have HU4:=Lib.hid (HU3.out.step k2)
 have HN4:=Lib.hid (HN3.out.below k2)
 clear k1 k2 HU3 HN3 HSG
 obtain ⟨p0,p1,p2,p3,p4⟩:=pl5 HU4.out.pl
 have hpl:=HU4.out.pl.lt
 go_upto_region 5 with fail
 obtain ⟨q0,q1,q2,q3,q4⟩:=pl5 HU4.out.re
 obtain ⟨f0,f1,f2,f3,f4⟩:=pl5f HU4.out.re
 have hre:=HU4.out.re.lt
 go_region
 all_goals (go_wp2_with fail)
 all_goals (try simp only [Exit.inBlock,Exit.then])
 all_goals (
  refine bodyPost_ret (v:=nodR v2 s) ?_ rfl (nd_fin (r:=(so,s)) (HU4.out.step (Below.refl w4.heap.size w4).drew).re (HU4.out.step (Below.refl w4.heap.size w4).drew).below (HN4.out.below (Below.refl w4.heap.size w4).drew))
  refine cs_result2 rfl _ _ _ (a:=⟨w.heap.size + 1,0,none⟩) (by rfl) (by rfl) ?_
  unfold plV
  go_simp)
set_option maxHeartbeats 16000000 in
set_option maxRecDepth 100000 in
theorem refCmpB (ta:Option Addr) (tc k:Nat) (M:List Tk) (w0:World) (h:TkIn w0 37 ta M.length M) (hM:MOk M) (hM6:M.length ≤ 65536)
  (HS:RefC 65 6 k ta tc M w0) (p:Pl) (o:List Ex) (v:Value) (w:World) (hb0:Below w0.heap.size w0 w) (hk:Rk M (k + 1) 5 p o) (hv:NsAt 0 w v o)
  (hcase:firstOp M (canP M 6 p o).2 cmpS ≠ 0 ∧ (canP M 6 (skipP (canP M 6 p o).2) (canP M 6 p o).1).2.er ≠ 0) :
  Calls Tryz.prog 49 #[.slice ta M.length tc,plV p,v] w (NdPost (exprP M (k + 1) 5 p o) w):=by
 obtain ⟨ml,hml⟩:∃ ml,ml=M.length:=⟨_,rfl⟩
 have HTK:=Lib.hid (fun w1 (hb:Below w.heap.size w w1)=>(h.below hb0).below hb)
 have HNB:=Lib.hid (UB.new w p)
 have HO:=Lib.hid (fun w1 (hb:Below w.heap.size w w1)=>hv.below hb)
 have HB0:=Lib.hid (fun w1 (hb:Below w.heap.size w w1)=>hb0.trans (hb.mono hb0.size))
 have hkd:Rk M k 6 p o:=hk.down (by decide)
 have hns:¬ joinL 6:=by unfold joinL; omega
 have HSUB:Hid (∀ (q:Pl) (u:List Ex) (x:Value) (w1:World),Below w.heap.size w w1 → Rk M k 6 q u → NsAt 0 w1 x u → Calls Tryz.prog 65 #[.slice ta ml tc,plV q,x] w1 (NdPost (canP M 6 q u) w1)):=Lib.hid (fun q u x w1 hb h1 h2=>by
  have:=HS q u x w1 (HB0.out w1 hb) h1 h2
  rw [can_eq h1.fu,← hml] at this
  exact this)
 have HLK:Lk M k (canP M 6 p o).2 (canP M 6 p o).1:=Lk.first hkd hns
 have HOK:(canP M 6 p o).2.er=0 → Okx o p (canP M 6 p o):=fun e=>by
  rw [← can_eq hkd.fu] at e ⊢
  exact (expr_ok M k 6 p o hkd.fu e).2 hns
 have HER:(canP M 6 p o).2.er=0 → p.er=0:=fun e=>by
  rw [← can_eq hkd.fu] at e
  exact (ge_expr M k 6 p o).2 e
 have HC:Hid (∀ w1,Below w.heap.size w w1 → Calls Tryz.prog 65 #[.slice ta ml tc,plV p,v] w1 (NdPost (canP M 6 p o) w1)):=Lib.hid (fun w1 hb=>HSUB.out p o v w1 hb hkd (HO.out w1 hb))
 have hvx:exprP M (k + 1) 5 p o=(if firstOp M (canP M 6 p o).2 cmpS=0 then canP M 6 p o else cmpP M (canP M 6 p o).2 o.length (canP M 6 p o).1.length (firstOp M (canP M 6 p o).2 cmpS) (exprP M k 6 (skipP (canP M 6 p o).2) (canP M 6 p o).1)):=by rw [exprP_5,can_eq hkd.fu]
 obtain ⟨op,hop⟩:∃ op,op=firstOp M (canP M 6 p o).2 cmpS:=⟨_,rfl⟩
 rw [← hop] at hvx hcase
 have hpo:o.length ≤ 800000:=by have:=hk.len; omega
 have HSG:Hid (∀ (gs gi:Nat) (w1:World),Below w.heap.size w w1 → SgAt w1 gs gi cmpS → Calls Tryz.prog 66 #[.slice ta ml tc,plV (canP M 6 p o).2,.slice (some ⟨gs,0,none⟩) 6 6,.slice (some ⟨gi,0,none⟩) 6 6] w1 fun e w'=>e=.returned (.int .i64 (op:Nat)) ∧ Below w1.heap.size w1 w'):=Lib.hid (fun gs gi w1 hb h2=>by
  have:=refSign_calls ta tc gs gi 6 M (canP M 6 p o).2 cmpS w1 (HTK.out w1 hb) (by omega) HLK.at' h2 rfl (by omega)
  rw [← hml,← hop] at this
  exact this)
 have hs:=firstOp_some (M:=M) (p:=(canP M 6 p o).2) cmpS (by rw [← hop]; exact hcase.1)
 obtain ⟨sg,hs⟩:=hs
 have hkk:Rk M k 6 (skipP (canP M 6 p o).2) (canP M 6 p o).1:=HLK.skip hs
 rw [if_neg hcase.1,can_eq hkk.fu] at hvx
 have hse:(canP M 6 p o).2.er=0:=(isP_some hs).1
 have hlt:(canP M 6 p o).2.a < M.length:=isP_lt hs
 have hok1:=HOK hse
 have hpc:=hk.cl (HER hse)
 have hsl0:=HLK.len
 obtain ⟨T,hT⟩:∃ T,T=canP M 6 (skipP (canP M 6 p o).2) (canP M 6 p o).1:=⟨_,rfl⟩
 have hok2:T.2.er=0 → Okx (canP M 6 p o).1 (skipP (canP M 6 p o).2) T:=fun e=>by
  rw [hT,← can_eq hkk.fu] at e ⊢
  exact (expr_ok M k 6 _ _ hkk.fu e).2 hns
 have hres:=hkk.res hns
 rw [can_eq hkk.fu,← hT] at hres
 have HUC0:∀ x w1,Below w.heap.size w w1 → NsAt 0 w1 x (canP M 6 p o).1 → Calls Tryz.prog 65 #[.slice ta ml tc,plV (skipP (canP M 6 p o).2),x] w1 (NdPost T w1):=fun x w1 hb hn=>by
  rw [hT]
  exact HSUB.out _ _ _ w1 hb hkk hn
 rw [← hT] at hvx hcase
 obtain ⟨r1,r2,r3,r4,r5,r6,r7,r8⟩:=hres
 have t0:((op:Int) == 0)=false:=by rw [beq_eq_false_iff_ne]; omega
 obtain ⟨va,vc,rfl⟩:=hv.slice
 obtain ⟨n0,hn0⟩:∃ n0,n0=o.length:=⟨_,rfl⟩
 have hopb:(6 ≤ op ∧ op ≤ 16) ∨ (106 ≤ op ∧ op ≤ 116):=by
  have:=cmp_op (M:=M) (p:=(canP M 6 p o).2) (by rw [← hop]; exact hcase.1)
  rw [← hop] at this
  exact this
 have HSK:=Lib.hid (fun w1=>refSkip_calls (canP M 6 p o).2 w1 (by omega))
 have HND:Hid (∀ (q:Pl) (u:List Ex) (y:Ex) (x:Value) (w1:World),Below w.heap.size w w1 → y.n=⟨#[]⟩ → NsAt 0 w1 x u → u.length ≤ 900000 → (q.er=0 → Cl 0 (u ++ [⟨y.op,y.a,y.b,y.n,y.v,(tkAt M (canP M 6 p o).2.a).line,(tkAt M (canP M 6 p o).2.a).col⟩])) → Calls Tryz.prog 18 #[.slice ta ml tc,plV q,.int .i64 ((canP M 6 p o).2.a:Nat),x,exV y] w1 (NdPost (nodeP M q (canP M 6 p o).2.a u y.op y.a y.b [] y.v) w1)):=Lib.hid (fun q u y x w1 hb h2 h3 h4 h5=>by
  have:=refNode_calls ta tc (canP M 6 p o).2.a M q u y [] x w1 (HTK.out w1 hb) (by omega) (fun _=>hlt) h2 h3 h4 h5
  rw [← hml] at this
  exact this)
 rw [← hml]
 generalize canP M 6 p o=S at HC HSG hop HLK HOK HER hvx hs hkk hse hlt hok1 hsl0 hT hok2 r7 r8 HUC0 HSK HND
 obtain ⟨so,s⟩:=S
 obtain ⟨uo,d⟩:=T
 have hvx:exprP M (k + 1) 5 p o=cmpP M s o.length so.length op (uo,d):=hvx
 have HUC0:∀ x w1,Below w.heap.size w w1 → NsAt 0 w1 x so → Calls Tryz.prog 65 #[.slice ta ml tc,plV (skipP s),x] w1 (NdPost (uo,d) w1):=HUC0
 have HUC:=Lib.hid HUC0
 have hlt:s.a < M.length:=hlt
 have r2:uo.length + (M.length - d.a) ≤ 800000:=r2
 have hsl0:so.length + (M.length - s.a) ≤ 800000:=hsl0
 have hsl:so.length ≤ 800000:=by omega
 have hul:uo.length ≤ 800000:=by omega
 obtain ⟨n1,hn1⟩:∃ n1,n1=so.length:=⟨_,rfl⟩
 obtain ⟨n2,hn2⟩:∃ n2,n2=uo.length:=⟨_,rfl⟩
 have HN1:=Lib.hid hn1
 have HN2':=Lib.hid hn2
 have hb0':n0 ≤ 800000:=by omega
 have hb1:n1 ≤ 800000:=by omega
 have hb2:n2 ≤ 800000:=by omega
 have HSG:Hid (∀ (gs gi:Nat) (w1:World),Below w.heap.size w w1 → SgAt w1 gs gi cmpS → Calls Tryz.prog 66 #[.slice ta ml tc,plV s,.slice (some ⟨gs,0,none⟩) 6 6,.slice (some ⟨gi,0,none⟩) 6 6] w1 fun e w'=>e=.returned (.int .i64 (op:Nat)) ∧ Below w1.heap.size w1 w'):=HSG
 have HSK:Hid (∀ w1,Calls Tryz.prog 17 #[plV s] w1 fun e w'=>e=.returned (plV (skipP s)) ∧ Below w1.heap.size w1 w'):=HSK
 have HND:Hid (∀ (q:Pl) (u:List Ex) (y:Ex) (x:Value) (w1:World),Below w.heap.size w w1 → y.n=⟨#[]⟩ → NsAt 0 w1 x u → u.length ≤ 900000 → (q.er=0 → Cl 0 (u ++ [⟨y.op,y.a,y.b,y.n,y.v,(tkAt M s.a).line,(tkAt M s.a).col⟩])) → Calls Tryz.prog 18 #[.slice ta ml tc,plV q,.int .i64 (s.a:Nat),x,exV y] w1 (NdPost (nodeP M q s.a u y.op y.a y.b [] y.v) w1)):=HND
 have HV:Hid (exprP M (k + 1) 5 p o=(uo,d)):=Lib.hid (by rw [hvx]; unfold cmpP; rw [if_neg (show ¬ d.er=0 from hcase.2)])
 have t1:((d.er:Int) != 0)=true:=by
  have:d.er ≠ 0:=hcase.2
  rw [bne_iff_ne]; omega
 rw [HV.out]
 rw [← hn0] at HC ⊢
 clear hk hkd hv h hb0 HS hM hM6 HTK HO HB0 hml hns HSUB HLK HOK HER hvx hpo r1 r2 r3 r4 r5 r6 r7 r8 hs hkk hse hlt hok1 hok2 hsl0 hsl hul hT HUC0 hop hcase hpc HV hn0 hn1 hn2 HND hopb
 unfold plV at HSK HUC
 unfold plV at HC HSG
 unfold plV
 go_enter Tryz.func49,Tryz.ntmps49
 go_wp2_with fail
 generalize (w.alloc (.cells #[.int .i64 (p.a:Nat),.int .i64 (p.er:Nat),.int .i64 (p.line:Nat),.int .i64 (p.col:Nat),.int .i64 p.op] 33)).alloc (.cells #[.int .i64 0,.int .i64 0,.int .i64 0,.int .i64 0,.int .i64 0] 33)=w1 at HNB ⊢
 obtain ⟨p0,p1,p2,p3,p4⟩:=pl5 HNB.out.pl
 have hpl:=HNB.out.pl.lt
 go_wp2_with fail
 clear p0 p1 p2 p3 p4 hpl
 refine (HC.out _ HNB.out.below).mono ?_
 rintro e w2 ⟨v2,rfl,hn2,k1⟩
 have HU2:=Lib.hid (HNB.out.step k1)
 have hn2:NsAt 0 w2 v2 so:=hn2
 clear k1 HNB HC
 obtain ⟨va2,vc2,rfl⟩:=hn2.slice
 rw [← HN1.out] at hn2
 rw [← HN1.out]
 have HN2:=Lib.hid hn2
 clear hn2
 unfold nodR plV
 obtain ⟨p0,p1,p2,p3,p4⟩:=pl5 HU2.out.pl
 obtain ⟨f0,f1,f2,f3,f4⟩:=pl5f HU2.out.pl
 have hpl:=HU2.out.pl.lt
 go_upto_region 3 with fail
 clear p0 p1 p2 p3 p4 f0 f1 f2 f3 f4 hpl
 have hu3:=HU2.out.set s
 have hn3:=p5_ns (a:=.int .i64 (s.a:Nat)) (c:=.int .i64 (s.er:Nat)) (d:=.int .i64 (s.line:Nat)) (e:=.int .i64 (s.col:Nat)) (f:=.int .i64 s.op) HN2.out HU2.out.pl.cblk
 generalize (((((w2.setCell ⟨w.heap.size,0,none⟩ (.int .i64 (s.a:Nat))).setCell ⟨w.heap.size,1,none⟩ (.int .i64 (s.er:Nat))).setCell ⟨w.heap.size,2,none⟩ (.int .i64 (s.line:Nat))).setCell ⟨w.heap.size,3,none⟩ (.int .i64 (s.col:Nat))).setCell ⟨w.heap.size,4,none⟩ (.int .i64 s.op))=w3 at hu3 hn3 ⊢
 have HU3:=Lib.hid hu3
 have HN3:=Lib.hid hn3
 clear hu3 hn3 HU2 HN2
 obtain ⟨p0,p1,p2,p3,p4⟩:=pl5 HU3.out.pl
 have hpl:=HU3.out.pl.lt
 go_wp2_with fail
 clear p0 p1 p2 p3 p4 hpl
 refine (HSG.out _ _ _ (two_new HU3.out.below) (sg_cmp _)).mono ?_
 rintro e w4 ⟨rfl,k1⟩
 have k2:=(two_new (Below.refl w3.heap.size w3)).trans (k1.mono (two_new (Below.refl w3.heap.size w3)).size)
 have HU4:=Lib.hid (HU3.out.step k2)
 have HN4:=Lib.hid (HN3.out.below k2)
 clear k1 k2 HU3 HN3 HSG
 obtain ⟨p0,p1,p2,p3,p4⟩:=pl5 HU4.out.pl
 have hpl:=HU4.out.pl.lt
 go_wp2_with fail
 clear p0 p1 p2 p3 p4 hpl
 refine (HSK.out _).mono ?_
 rintro e w5 ⟨rfl,k1⟩
 have HU5:=Lib.hid (HU4.out.step k1)
 have HN5:=Lib.hid (HN4.out.below k1)
 clear k1 HU4 HN4 HSK
 go_wp2_with fail
 refine (HUC.out _ _ HU5.out.below HN5.out).mono ?_
 rintro e w6 ⟨v6,rfl,hn6,k1⟩
 have HU6:=Lib.hid (HU5.out.step k1)
 have hn6:NsAt 0 w6 v6 uo:=hn6
 obtain ⟨va6,vc6,rfl⟩:=hn6.slice
 rw [← HN2'.out] at hn6
 have HN6:=Lib.hid hn6
 rw [← HN2'.out]
 clear k1 hn6 HU5 HN5 HUC
 unfold nodR plV
 go_upto_region 8 with fail
 have h7:=HU6.out.put d
 generalize (w6.alloc (.cells #[.int .i64 (d.a:Nat),.int .i64 (d.er:Nat),.int .i64 (d.line:Nat),.int .i64 (d.col:Nat),.int .i64 d.op] 33))=w7 at h7 ⊢
 obtain ⟨hu7,hd7,hn7⟩:=h7
 have HU7:=Lib.hid hu7
 have HD7:=Lib.hid hd7
 have HN7:=Lib.hid (hn7 _ _ HN6.out)
 have hql:=hd7.lt
 clear hu7 hd7 hn7 HU6 HN6
 obtain ⟨x0,x1,x2,x3,x4⟩:=pl5 HD7.out
 go_upto_region 9 with fail
 obtain ⟨q0,q1,q2,q3,q4⟩:=pl5 HU7.out.re
 obtain ⟨f0,f1,f2,f3,f4⟩:=pl5f HU7.out.re
 have hre:=HU7.out.re.lt
 go_region
 all_goals (go_wp2_with fail)
 all_goals (try simp only [Exit.inBlock,Exit.then])
 all_goals (
  refine bodyPost_ret (v:=nodR (.slice va6 n2 vc6) d) ?_ rfl (nd_fin (r:=(uo,d)) (HU7.out.step (Below.refl w7.heap.size w7).drew).re (HU7.out.step (Below.refl w7.heap.size w7).drew).below (HN7.out.below (Below.refl w7.heap.size w7).drew))
  refine cs_result2 rfl _ _ _ (a:=⟨w.heap.size + 1,0,none⟩) (by rfl) (by rfl) ?_
  unfold plV
  go_simp)
set_option maxHeartbeats 16000000 in
set_option maxRecDepth 100000 in
theorem refCmpC (ta:Option Addr) (tc k:Nat) (M:List Tk) (w0:World) (h:TkIn w0 37 ta M.length M) (hM:MOk M) (hM6:M.length ≤ 65536)
  (HS:RefC 65 6 k ta tc M w0) (p:Pl) (o:List Ex) (v:Value) (w:World) (hb0:Below w0.heap.size w0 w) (hk:Rk M (k + 1) 5 p o) (hv:NsAt 0 w v o)
  (hcase:firstOp M (canP M 6 p o).2 cmpS ≠ 0 ∧ (canP M 6 (skipP (canP M 6 p o).2) (canP M 6 p o).1).2.er=0 ∧ ¬ 100 < firstOp M (canP M 6 p o).2 cmpS) :
  Calls Tryz.prog 49 #[.slice ta M.length tc,plV p,v] w (NdPost (exprP M (k + 1) 5 p o) w):=by
 obtain ⟨ml,hml⟩:∃ ml,ml=M.length:=⟨_,rfl⟩
 have HTK:=Lib.hid (fun w1 (hb:Below w.heap.size w w1)=>(h.below hb0).below hb)
 have HNB:=Lib.hid (UB.new w p)
 have HO:=Lib.hid (fun w1 (hb:Below w.heap.size w w1)=>hv.below hb)
 have HB0:=Lib.hid (fun w1 (hb:Below w.heap.size w w1)=>hb0.trans (hb.mono hb0.size))
 have hkd:Rk M k 6 p o:=hk.down (by decide)
 have hns:¬ joinL 6:=by unfold joinL; omega
 have HSUB:Hid (∀ (q:Pl) (u:List Ex) (x:Value) (w1:World),Below w.heap.size w w1 → Rk M k 6 q u → NsAt 0 w1 x u → Calls Tryz.prog 65 #[.slice ta ml tc,plV q,x] w1 (NdPost (canP M 6 q u) w1)):=Lib.hid (fun q u x w1 hb h1 h2=>by
  have:=HS q u x w1 (HB0.out w1 hb) h1 h2
  rw [can_eq h1.fu,← hml] at this
  exact this)
 have HLK:Lk M k (canP M 6 p o).2 (canP M 6 p o).1:=Lk.first hkd hns
 have HOK:(canP M 6 p o).2.er=0 → Okx o p (canP M 6 p o):=fun e=>by
  rw [← can_eq hkd.fu] at e ⊢
  exact (expr_ok M k 6 p o hkd.fu e).2 hns
 have HER:(canP M 6 p o).2.er=0 → p.er=0:=fun e=>by
  rw [← can_eq hkd.fu] at e
  exact (ge_expr M k 6 p o).2 e
 have HC:Hid (∀ w1,Below w.heap.size w w1 → Calls Tryz.prog 65 #[.slice ta ml tc,plV p,v] w1 (NdPost (canP M 6 p o) w1)):=Lib.hid (fun w1 hb=>HSUB.out p o v w1 hb hkd (HO.out w1 hb))
 have hvx:exprP M (k + 1) 5 p o=(if firstOp M (canP M 6 p o).2 cmpS=0 then canP M 6 p o else cmpP M (canP M 6 p o).2 o.length (canP M 6 p o).1.length (firstOp M (canP M 6 p o).2 cmpS) (exprP M k 6 (skipP (canP M 6 p o).2) (canP M 6 p o).1)):=by rw [exprP_5,can_eq hkd.fu]
 obtain ⟨op,hop⟩:∃ op,op=firstOp M (canP M 6 p o).2 cmpS:=⟨_,rfl⟩
 rw [← hop] at hvx hcase
 have hpo:o.length ≤ 800000:=by have:=hk.len; omega
 have HSG:Hid (∀ (gs gi:Nat) (w1:World),Below w.heap.size w w1 → SgAt w1 gs gi cmpS → Calls Tryz.prog 66 #[.slice ta ml tc,plV (canP M 6 p o).2,.slice (some ⟨gs,0,none⟩) 6 6,.slice (some ⟨gi,0,none⟩) 6 6] w1 fun e w'=>e=.returned (.int .i64 (op:Nat)) ∧ Below w1.heap.size w1 w'):=Lib.hid (fun gs gi w1 hb h2=>by
  have:=refSign_calls ta tc gs gi 6 M (canP M 6 p o).2 cmpS w1 (HTK.out w1 hb) (by omega) HLK.at' h2 rfl (by omega)
  rw [← hml,← hop] at this
  exact this)
 have hs:=firstOp_some (M:=M) (p:=(canP M 6 p o).2) cmpS (by rw [← hop]; exact hcase.1)
 obtain ⟨sg,hs⟩:=hs
 have hkk:Rk M k 6 (skipP (canP M 6 p o).2) (canP M 6 p o).1:=HLK.skip hs
 rw [if_neg hcase.1,can_eq hkk.fu] at hvx
 have hse:(canP M 6 p o).2.er=0:=(isP_some hs).1
 have hlt:(canP M 6 p o).2.a < M.length:=isP_lt hs
 have hok1:=HOK hse
 have hpc:=hk.cl (HER hse)
 have hsl0:=HLK.len
 obtain ⟨T,hT⟩:∃ T,T=canP M 6 (skipP (canP M 6 p o).2) (canP M 6 p o).1:=⟨_,rfl⟩
 have hok2:T.2.er=0 → Okx (canP M 6 p o).1 (skipP (canP M 6 p o).2) T:=fun e=>by
  rw [hT,← can_eq hkk.fu] at e ⊢
  exact (expr_ok M k 6 _ _ hkk.fu e).2 hns
 have hres:=hkk.res hns
 rw [can_eq hkk.fu,← hT] at hres
 have HUC0:∀ x w1,Below w.heap.size w w1 → NsAt 0 w1 x (canP M 6 p o).1 → Calls Tryz.prog 65 #[.slice ta ml tc,plV (skipP (canP M 6 p o).2),x] w1 (NdPost T w1):=fun x w1 hb hn=>by
  rw [hT]
  exact HSUB.out _ _ _ w1 hb hkk hn
 rw [← hT] at hvx hcase
 obtain ⟨r1,r2,r3,r4,r5,r6,r7,r8⟩:=hres
 have t0:((op:Int) == 0)=false:=by rw [beq_eq_false_iff_ne]; omega
 obtain ⟨va,vc,rfl⟩:=hv.slice
 obtain ⟨n0,hn0⟩:∃ n0,n0=o.length:=⟨_,rfl⟩
 have hopb:(6 ≤ op ∧ op ≤ 16) ∨ (106 ≤ op ∧ op ≤ 116):=by
  have:=cmp_op (M:=M) (p:=(canP M 6 p o).2) (by rw [← hop]; exact hcase.1)
  rw [← hop] at this
  exact this
 have HSK:=Lib.hid (fun w1=>refSkip_calls (canP M 6 p o).2 w1 (by omega))
 have HND:Hid (∀ (q:Pl) (u:List Ex) (y:Ex) (x:Value) (w1:World),Below w.heap.size w w1 → y.n=⟨#[]⟩ → NsAt 0 w1 x u → u.length ≤ 900000 → (q.er=0 → Cl 0 (u ++ [⟨y.op,y.a,y.b,y.n,y.v,(tkAt M (canP M 6 p o).2.a).line,(tkAt M (canP M 6 p o).2.a).col⟩])) → Calls Tryz.prog 18 #[.slice ta ml tc,plV q,.int .i64 ((canP M 6 p o).2.a:Nat),x,exV y] w1 (NdPost (nodeP M q (canP M 6 p o).2.a u y.op y.a y.b [] y.v) w1)):=Lib.hid (fun q u y x w1 hb h2 h3 h4 h5=>by
  have:=refNode_calls ta tc (canP M 6 p o).2.a M q u y [] x w1 (HTK.out w1 hb) (by omega) (fun _=>hlt) h2 h3 h4 h5
  rw [← hml] at this
  exact this)
 rw [← hml]
 generalize canP M 6 p o=S at HC HSG hop HLK HOK HER hvx hs hkk hse hlt hok1 hsl0 hT hok2 r7 r8 HUC0 HSK HND
 obtain ⟨so,s⟩:=S
 obtain ⟨uo,d⟩:=T
 have hvx:exprP M (k + 1) 5 p o=cmpP M s o.length so.length op (uo,d):=hvx
 have HUC0:∀ x w1,Below w.heap.size w w1 → NsAt 0 w1 x so → Calls Tryz.prog 65 #[.slice ta ml tc,plV (skipP s),x] w1 (NdPost (uo,d) w1):=HUC0
 have HUC:=Lib.hid HUC0
 have hlt:s.a < M.length:=hlt
 have r2:uo.length + (M.length - d.a) ≤ 800000:=r2
 have hsl0:so.length + (M.length - s.a) ≤ 800000:=hsl0
 have hsl:so.length ≤ 800000:=by omega
 have hul:uo.length ≤ 800000:=by omega
 obtain ⟨n1,hn1⟩:∃ n1,n1=so.length:=⟨_,rfl⟩
 obtain ⟨n2,hn2⟩:∃ n2,n2=uo.length:=⟨_,rfl⟩
 have HN1:=Lib.hid hn1
 have HN2':=Lib.hid hn2
 have hb0':n0 ≤ 800000:=by omega
 have hb1:n1 ≤ 800000:=by omega
 have hb2:n2 ≤ 800000:=by omega
 have HSG:Hid (∀ (gs gi:Nat) (w1:World),Below w.heap.size w w1 → SgAt w1 gs gi cmpS → Calls Tryz.prog 66 #[.slice ta ml tc,plV s,.slice (some ⟨gs,0,none⟩) 6 6,.slice (some ⟨gi,0,none⟩) 6 6] w1 fun e w'=>e=.returned (.int .i64 (op:Nat)) ∧ Below w1.heap.size w1 w'):=HSG
 have HSK:Hid (∀ w1,Calls Tryz.prog 17 #[plV s] w1 fun e w'=>e=.returned (plV (skipP s)) ∧ Below w1.heap.size w1 w'):=HSK
 have HND:Hid (∀ (q:Pl) (u:List Ex) (y:Ex) (x:Value) (w1:World),Below w.heap.size w w1 → y.n=⟨#[]⟩ → NsAt 0 w1 x u → u.length ≤ 900000 → (q.er=0 → Cl 0 (u ++ [⟨y.op,y.a,y.b,y.n,y.v,(tkAt M s.a).line,(tkAt M s.a).col⟩])) → Calls Tryz.prog 18 #[.slice ta ml tc,plV q,.int .i64 (s.a:Nat),x,exV y] w1 (NdPost (nodeP M q s.a u y.op y.a y.b [] y.v) w1)):=HND
 have hde:d.er=0:=hcase.2.1
 obtain ⟨c1,c2,c3,c4,c5⟩:=cmp_pre hpc hok1 (hok2 hde)
 have c4:o.length < so.length:=c4
 have c5:so.length < uo.length:=c5
 have t1:((d.er:Int) != 0)=false:=by rw [hde]; rfl
 have hwr2:IntKind.i64.wrap ((n2:Int) - 1)=(n2:Int) - 1:=by rw [IntKind.wrap_i64]; omega
 have HV:Hid (exprP M (k + 1) 5 p o=nodeP M d s.a uo (op:Int) ((n1:Int) - 1) ((n2:Int) - 1) [] v0):=Lib.hid (by rw [hvx]; unfold cmpP; rw [if_pos hde,if_neg hcase.2.2,← hn1]; show nodeP M d s.a uo (op:Int) ((n1:Int) - 1) ((uo.length:Int) - 1) [] v0=_; rw [← hn2])
 have hwr1:IntKind.i64.wrap ((n1:Int) - 1)=(n1:Int) - 1:=by rw [IntKind.wrap_i64]; omega
 have u1:decide ((100:Int) < (op:Int))=false:=decide_eq_false (by have:=hcase.2.2; omega)
 have u2:decide (100 < op)=false:=decide_eq_false hcase.2.2
 have u3:¬ 100 < op:=hcase.2.2
 have HNC:Hid (∀ x w1,Below w.heap.size w w1 → NsAt 0 w1 x uo → Calls Tryz.prog 18 #[.slice ta ml tc,plV d,.int .i64 (s.a:Nat),x,exV ⟨(op:Int),(n1:Int) - 1,(n2:Int) - 1,⟨#[]⟩,v0,0,0⟩] w1 (NdPost (nodeP M d s.a uo (op:Int) ((n1:Int) - 1) ((n2:Int) - 1) [] v0) w1)):=Lib.hid (fun x w1 hb hn=>HND.out d uo ⟨(op:Int),(n1:Int) - 1,(n2:Int) - 1,⟨#[]⟩,v0,0,0⟩ x w1 hb rfl hn (by omega) (fun _=>c1.snoc (.inr ⟨by show (4:Int) ≤ (op:Int); omega,by show (op:Int) ≤ 16; omega,by show (0:Int) ≤ (n1:Int) - 1; omega,by show (n1:Int) - 1 < (uo.length:Int); omega,fun _=>⟨by show (0:Int) ≤ (n2:Int) - 1; omega,by show (n2:Int) - 1 < (uo.length:Int); omega⟩⟩)))
 rw [HV.out]
 generalize nodeP M d s.a uo (op:Int) ((n1:Int) - 1) ((n2:Int) - 1) [] v0=R at HNC HV ⊢
 rw [← hn0] at HC ⊢
 clear hk hkd hv h hb0 HS hM hM6 HTK HO HB0 hml hns HSUB HLK HOK HER hvx hpo r1 r2 r3 r4 r5 r6 r7 r8 hs hkk hse hlt hok1 hok2 hsl0 hsl hul hT HUC0 hop hcase hpc HV hn0 hn1 hn2 HND hde c1 c2 c3 c4 c5 hopb
 unfold plV at HSK HUC HNC
 unfold exV at HNC
 unfold plV at HC HSG
 unfold plV
 go_enter Tryz.func49,Tryz.ntmps49
 go_wp2_with fail
 generalize (w.alloc (.cells #[.int .i64 (p.a:Nat),.int .i64 (p.er:Nat),.int .i64 (p.line:Nat),.int .i64 (p.col:Nat),.int .i64 p.op] 33)).alloc (.cells #[.int .i64 0,.int .i64 0,.int .i64 0,.int .i64 0,.int .i64 0] 33)=w1 at HNB ⊢
 obtain ⟨p0,p1,p2,p3,p4⟩:=pl5 HNB.out.pl
 have hpl:=HNB.out.pl.lt
 go_wp2_with fail
 clear p0 p1 p2 p3 p4 hpl
 refine (HC.out _ HNB.out.below).mono ?_
 rintro e w2 ⟨v2,rfl,hn2,k1⟩
 have HU2:=Lib.hid (HNB.out.step k1)
 have hn2:NsAt 0 w2 v2 so:=hn2
 clear k1 HNB HC
 obtain ⟨va2,vc2,rfl⟩:=hn2.slice
 rw [← HN1.out] at hn2
 rw [← HN1.out]
 have HN2:=Lib.hid hn2
 clear hn2
 unfold nodR plV
 obtain ⟨p0,p1,p2,p3,p4⟩:=pl5 HU2.out.pl
 obtain ⟨f0,f1,f2,f3,f4⟩:=pl5f HU2.out.pl
 have hpl:=HU2.out.pl.lt
 go_upto_region 3 with fail
 clear p0 p1 p2 p3 p4 f0 f1 f2 f3 f4 hpl
 have hu3:=HU2.out.set s
 have hn3:=p5_ns (a:=.int .i64 (s.a:Nat)) (c:=.int .i64 (s.er:Nat)) (d:=.int .i64 (s.line:Nat)) (e:=.int .i64 (s.col:Nat)) (f:=.int .i64 s.op) HN2.out HU2.out.pl.cblk
 generalize (((((w2.setCell ⟨w.heap.size,0,none⟩ (.int .i64 (s.a:Nat))).setCell ⟨w.heap.size,1,none⟩ (.int .i64 (s.er:Nat))).setCell ⟨w.heap.size,2,none⟩ (.int .i64 (s.line:Nat))).setCell ⟨w.heap.size,3,none⟩ (.int .i64 (s.col:Nat))).setCell ⟨w.heap.size,4,none⟩ (.int .i64 s.op))=w3 at hu3 hn3 ⊢
 have HU3:=Lib.hid hu3
 have HN3:=Lib.hid hn3
 clear hu3 hn3 HU2 HN2
 obtain ⟨p0,p1,p2,p3,p4⟩:=pl5 HU3.out.pl
 have hpl:=HU3.out.pl.lt
 go_wp2_with fail
 clear p0 p1 p2 p3 p4 hpl
 refine (HSG.out _ _ _ (two_new HU3.out.below) (sg_cmp _)).mono ?_
 rintro e w4 ⟨rfl,k1⟩
 have k2:=(two_new (Below.refl w3.heap.size w3)).trans (k1.mono (two_new (Below.refl w3.heap.size w3)).size)
 have HU4:=Lib.hid (HU3.out.step k2)
 have HN4:=Lib.hid (HN3.out.below k2)
 clear k1 k2 HU3 HN3 HSG
 obtain ⟨p0,p1,p2,p3,p4⟩:=pl5 HU4.out.pl
 have hpl:=HU4.out.pl.lt
 go_wp2_with fail
 clear p0 p1 p2 p3 p4 hpl
 refine (HSK.out _).mono ?_
 rintro e w5 ⟨rfl,k1⟩
 have HU5:=Lib.hid (HU4.out.step k1)
 have HN5:=Lib.hid (HN4.out.below k1)
 clear k1 HU4 HN4 HSK
 go_wp2_with fail
 refine (HUC.out _ _ HU5.out.below HN5.out).mono ?_
 rintro e w6 ⟨v6,rfl,hn6,k1⟩
 have HU6:=Lib.hid (HU5.out.step k1)
 have hn6:NsAt 0 w6 v6 uo:=hn6
 obtain ⟨va6,vc6,rfl⟩:=hn6.slice
 rw [← HN2'.out] at hn6
 have HN6:=Lib.hid hn6
 rw [← HN2'.out]
 clear k1 hn6 HU5 HN5 HUC
 unfold nodR plV
 go_upto_region 8 with fail
 have h7:=HU6.out.put d
 generalize (w6.alloc (.cells #[.int .i64 (d.a:Nat),.int .i64 (d.er:Nat),.int .i64 (d.line:Nat),.int .i64 (d.col:Nat),.int .i64 d.op] 33))=w7 at h7 ⊢
 obtain ⟨hu7,hd7,hn7⟩:=h7
 have HU7:=Lib.hid hu7
 have HD7:=Lib.hid hd7
 have HN7:=Lib.hid (hn7 _ _ HN6.out)
 have hql:=hd7.lt
 clear hu7 hd7 hn7 HU6 HN6
 obtain ⟨x0,x1,x2,x3,x4⟩:=pl5 HD7.out
 obtain ⟨p0,p1,p2,p3,p4⟩:=pl5 HU7.out.pl
 have hpl:=HU7.out.pl.lt
 go_wp2_with fail
 clear p0 p1 p2 p3 p4 hpl x0 x1 x2 x3 x4
 refine (HNC.out _ _ HU7.out.below HN7.out).mono ?_
 rintro e w9 ⟨v9,rfl,hn9,k1⟩
 have HU9:=Lib.hid (HU7.out.step k1)
 have HN9:Hid (NsAt 0 w9 v9 R.1):=Lib.hid hn9
 clear k1 hn9 HU7 HN7 HNC
 obtain ⟨r0,q⟩:=R
 unfold nodR plV
 obtain ⟨q0,q1,q2,q3,q4⟩:=pl5 HU9.out.re
 obtain ⟨f0,f1,f2,f3,f4⟩:=pl5f HU9.out.re
 have hre:=HU9.out.re.lt
 go_wp2_with fail
 refine bodyPost_ret (v:=nodR v9 q) ?_ rfl (nd_fin (r:=(r0,q)) HU9.out.re HU9.out.below HN9.out)
 refine cs_result2 rfl _ _ _ (a:=⟨w.heap.size + 1,0,none⟩) (by rfl) (by rfl) ?_
 unfold plV
 go_simp
set_option maxHeartbeats 16000000 in
set_option maxRecDepth 100000 in
theorem refCmpD (ta:Option Addr) (tc k:Nat) (M:List Tk) (w0:World) (h:TkIn w0 37 ta M.length M) (hM:MOk M) (hM6:M.length ≤ 65536)
  (HS:RefC 65 6 k ta tc M w0) (p:Pl) (o:List Ex) (v:Value) (w:World) (hb0:Below w0.heap.size w0 w) (hk:Rk M (k + 1) 5 p o) (hv:NsAt 0 w v o)
  (hcase:firstOp M (canP M 6 p o).2 cmpS ≠ 0 ∧ (canP M 6 (skipP (canP M 6 p o).2) (canP M 6 p o).1).2.er=0 ∧ 100 < firstOp M (canP M 6 p o).2 cmpS) :
  Calls Tryz.prog 49 #[.slice ta M.length tc,plV p,v] w (NdPost (exprP M (k + 1) 5 p o) w):=by
 obtain ⟨ml,hml⟩:∃ ml,ml=M.length:=⟨_,rfl⟩
 have HTK:=Lib.hid (fun w1 (hb:Below w.heap.size w w1)=>(h.below hb0).below hb)
 have HNB:=Lib.hid (UB.new w p)
 have HO:=Lib.hid (fun w1 (hb:Below w.heap.size w w1)=>hv.below hb)
 have HB0:=Lib.hid (fun w1 (hb:Below w.heap.size w w1)=>hb0.trans (hb.mono hb0.size))
 have hkd:Rk M k 6 p o:=hk.down (by decide)
 have hns:¬ joinL 6:=by unfold joinL; omega
 have HSUB:Hid (∀ (q:Pl) (u:List Ex) (x:Value) (w1:World),Below w.heap.size w w1 → Rk M k 6 q u → NsAt 0 w1 x u → Calls Tryz.prog 65 #[.slice ta ml tc,plV q,x] w1 (NdPost (canP M 6 q u) w1)):=Lib.hid (fun q u x w1 hb h1 h2=>by
  have:=HS q u x w1 (HB0.out w1 hb) h1 h2
  rw [can_eq h1.fu,← hml] at this
  exact this)
 have HLK:Lk M k (canP M 6 p o).2 (canP M 6 p o).1:=Lk.first hkd hns
 have HOK:(canP M 6 p o).2.er=0 → Okx o p (canP M 6 p o):=fun e=>by
  rw [← can_eq hkd.fu] at e ⊢
  exact (expr_ok M k 6 p o hkd.fu e).2 hns
 have HER:(canP M 6 p o).2.er=0 → p.er=0:=fun e=>by
  rw [← can_eq hkd.fu] at e
  exact (ge_expr M k 6 p o).2 e
 have HC:Hid (∀ w1,Below w.heap.size w w1 → Calls Tryz.prog 65 #[.slice ta ml tc,plV p,v] w1 (NdPost (canP M 6 p o) w1)):=Lib.hid (fun w1 hb=>HSUB.out p o v w1 hb hkd (HO.out w1 hb))
 have hvx:exprP M (k + 1) 5 p o=(if firstOp M (canP M 6 p o).2 cmpS=0 then canP M 6 p o else cmpP M (canP M 6 p o).2 o.length (canP M 6 p o).1.length (firstOp M (canP M 6 p o).2 cmpS) (exprP M k 6 (skipP (canP M 6 p o).2) (canP M 6 p o).1)):=by rw [exprP_5,can_eq hkd.fu]
 obtain ⟨op,hop⟩:∃ op,op=firstOp M (canP M 6 p o).2 cmpS:=⟨_,rfl⟩
 rw [← hop] at hvx hcase
 have hpo:o.length ≤ 800000:=by have:=hk.len; omega
 have HSG:Hid (∀ (gs gi:Nat) (w1:World),Below w.heap.size w w1 → SgAt w1 gs gi cmpS → Calls Tryz.prog 66 #[.slice ta ml tc,plV (canP M 6 p o).2,.slice (some ⟨gs,0,none⟩) 6 6,.slice (some ⟨gi,0,none⟩) 6 6] w1 fun e w'=>e=.returned (.int .i64 (op:Nat)) ∧ Below w1.heap.size w1 w'):=Lib.hid (fun gs gi w1 hb h2=>by
  have:=refSign_calls ta tc gs gi 6 M (canP M 6 p o).2 cmpS w1 (HTK.out w1 hb) (by omega) HLK.at' h2 rfl (by omega)
  rw [← hml,← hop] at this
  exact this)
 have hs:=firstOp_some (M:=M) (p:=(canP M 6 p o).2) cmpS (by rw [← hop]; exact hcase.1)
 obtain ⟨sg,hs⟩:=hs
 have hkk:Rk M k 6 (skipP (canP M 6 p o).2) (canP M 6 p o).1:=HLK.skip hs
 rw [if_neg hcase.1,can_eq hkk.fu] at hvx
 have hse:(canP M 6 p o).2.er=0:=(isP_some hs).1
 have hlt:(canP M 6 p o).2.a < M.length:=isP_lt hs
 have hok1:=HOK hse
 have hpc:=hk.cl (HER hse)
 have hsl0:=HLK.len
 obtain ⟨T,hT⟩:∃ T,T=canP M 6 (skipP (canP M 6 p o).2) (canP M 6 p o).1:=⟨_,rfl⟩
 have hok2:T.2.er=0 → Okx (canP M 6 p o).1 (skipP (canP M 6 p o).2) T:=fun e=>by
  rw [hT,← can_eq hkk.fu] at e ⊢
  exact (expr_ok M k 6 _ _ hkk.fu e).2 hns
 have hres:=hkk.res hns
 rw [can_eq hkk.fu,← hT] at hres
 have HUC0:∀ x w1,Below w.heap.size w w1 → NsAt 0 w1 x (canP M 6 p o).1 → Calls Tryz.prog 65 #[.slice ta ml tc,plV (skipP (canP M 6 p o).2),x] w1 (NdPost T w1):=fun x w1 hb hn=>by
  rw [hT]
  exact HSUB.out _ _ _ w1 hb hkk hn
 rw [← hT] at hvx hcase
 obtain ⟨r1,r2,r3,r4,r5,r6,r7,r8⟩:=hres
 have t0:((op:Int) == 0)=false:=by rw [beq_eq_false_iff_ne]; omega
 obtain ⟨va,vc,rfl⟩:=hv.slice
 obtain ⟨n0,hn0⟩:∃ n0,n0=o.length:=⟨_,rfl⟩
 have hopb:(6 ≤ op ∧ op ≤ 16) ∨ (106 ≤ op ∧ op ≤ 116):=by
  have:=cmp_op (M:=M) (p:=(canP M 6 p o).2) (by rw [← hop]; exact hcase.1)
  rw [← hop] at this
  exact this
 have HSK:=Lib.hid (fun w1=>refSkip_calls (canP M 6 p o).2 w1 (by omega))
 have HND:Hid (∀ (q:Pl) (u:List Ex) (y:Ex) (x:Value) (w1:World),Below w.heap.size w w1 → y.n=⟨#[]⟩ → NsAt 0 w1 x u → u.length ≤ 900000 → (q.er=0 → Cl 0 (u ++ [⟨y.op,y.a,y.b,y.n,y.v,(tkAt M (canP M 6 p o).2.a).line,(tkAt M (canP M 6 p o).2.a).col⟩])) → Calls Tryz.prog 18 #[.slice ta ml tc,plV q,.int .i64 ((canP M 6 p o).2.a:Nat),x,exV y] w1 (NdPost (nodeP M q (canP M 6 p o).2.a u y.op y.a y.b [] y.v) w1)):=Lib.hid (fun q u y x w1 hb h2 h3 h4 h5=>by
  have:=refNode_calls ta tc (canP M 6 p o).2.a M q u y [] x w1 (HTK.out w1 hb) (by omega) (fun _=>hlt) h2 h3 h4 h5
  rw [← hml] at this
  exact this)
 rw [← hml]
 generalize canP M 6 p o=S at HC HSG hop HLK HOK HER hvx hs hkk hse hlt hok1 hsl0 hT hok2 r7 r8 HUC0 HSK HND
 obtain ⟨so,s⟩:=S
 obtain ⟨uo,d⟩:=T
 have hvx:exprP M (k + 1) 5 p o=cmpP M s o.length so.length op (uo,d):=hvx
 have HUC0:∀ x w1,Below w.heap.size w w1 → NsAt 0 w1 x so → Calls Tryz.prog 65 #[.slice ta ml tc,plV (skipP s),x] w1 (NdPost (uo,d) w1):=HUC0
 have HUC:=Lib.hid HUC0
 have hlt:s.a < M.length:=hlt
 have r2:uo.length + (M.length - d.a) ≤ 800000:=r2
 have hsl0:so.length + (M.length - s.a) ≤ 800000:=hsl0
 have hsl:so.length ≤ 800000:=by omega
 have hul:uo.length ≤ 800000:=by omega
 obtain ⟨n1,hn1⟩:∃ n1,n1=so.length:=⟨_,rfl⟩
 obtain ⟨n2,hn2⟩:∃ n2,n2=uo.length:=⟨_,rfl⟩
 have HN1:=Lib.hid hn1
 have HN2':=Lib.hid hn2
 have hb0':n0 ≤ 800000:=by omega
 have hb1:n1 ≤ 800000:=by omega
 have hb2:n2 ≤ 800000:=by omega
 have HSG:Hid (∀ (gs gi:Nat) (w1:World),Below w.heap.size w w1 → SgAt w1 gs gi cmpS → Calls Tryz.prog 66 #[.slice ta ml tc,plV s,.slice (some ⟨gs,0,none⟩) 6 6,.slice (some ⟨gi,0,none⟩) 6 6] w1 fun e w'=>e=.returned (.int .i64 (op:Nat)) ∧ Below w1.heap.size w1 w'):=HSG
 have HSK:Hid (∀ w1,Calls Tryz.prog 17 #[plV s] w1 fun e w'=>e=.returned (plV (skipP s)) ∧ Below w1.heap.size w1 w'):=HSK
 have HND:Hid (∀ (q:Pl) (u:List Ex) (y:Ex) (x:Value) (w1:World),Below w.heap.size w w1 → y.n=⟨#[]⟩ → NsAt 0 w1 x u → u.length ≤ 900000 → (q.er=0 → Cl 0 (u ++ [⟨y.op,y.a,y.b,y.n,y.v,(tkAt M s.a).line,(tkAt M s.a).col⟩])) → Calls Tryz.prog 18 #[.slice ta ml tc,plV q,.int .i64 (s.a:Nat),x,exV y] w1 (NdPost (nodeP M q s.a u y.op y.a y.b [] y.v) w1)):=HND
 have hde:d.er=0:=hcase.2.1
 obtain ⟨c1,c2,c3,c4,c5⟩:=cmp_pre hpc hok1 (hok2 hde)
 have c4:o.length < so.length:=c4
 have c5:so.length < uo.length:=c5
 have t1:((d.er:Int) != 0)=false:=by rw [hde]; rfl
 have hwr2:IntKind.i64.wrap ((n2:Int) - 1)=(n2:Int) - 1:=by rw [IntKind.wrap_i64]; omega
 obtain ⟨tu,hto⟩:∃ tu,tu=turnedE uo n0 n1:=⟨_,rfl⟩
 have htl:n2=tu.length:=by rw [hto,hn0,hn1,hn2]; exact c3.symm
 have HTL:=Lib.hid htl
 have c2:Cl 0 tu:=by rw [hto,hn0,hn1]; exact c2
 have hg:100 < op:=hcase.2.2
 have HV:Hid (exprP M (k + 1) 5 p o=nodeP M d s.a tu ((op:Int) - 100) ((n0:Int) + (n2:Int) - (n1:Int) - 1) ((n2:Int) - 1) [] v0):=Lib.hid (by rw [hvx]; unfold cmpP; rw [if_pos hde,if_pos hg,← hn1,← hn0]; show nodeP M d s.a (turnedE uo n0 n1) ((op:Int) - 100) ((n0:Int) + (uo.length:Int) - (n1:Int) - 1) ((uo.length:Int) - 1) [] v0=_; rw [← hn2,← hto])
 have hwr1:IntKind.i64.wrap ((n1:Int) - 1)=(n1:Int) - 1:=by rw [IntKind.wrap_i64]; omega
 have hwr3:IntKind.i64.wrap ((n0:Int) + (n2:Int))=(n0:Int) + (n2:Int):=by rw [IntKind.wrap_i64]; omega
 have hwr4:IntKind.i64.wrap ((n0:Int) + (n2:Int) - (n1:Int))=(n0:Int) + (n2:Int) - (n1:Int):=by rw [IntKind.wrap_i64]; omega
 have hwr5:IntKind.i64.wrap ((n0:Int) + (n2:Int) - (n1:Int) - 1)=(n0:Int) + (n2:Int) - (n1:Int) - 1:=by rw [IntKind.wrap_i64]; omega
 have hwr6:IntKind.i64.wrap ((op:Int) - 100)=(op:Int) - 100:=by rw [IntKind.wrap_i64]; omega
 have u1:decide ((100:Int) < (op:Int))=true:=decide_eq_true (by omega)
 have u2:decide (100 < op)=true:=decide_eq_true hg
 have HTC:Hid (∀ x w1,NsAt 0 w1 x uo → Calls Tryz.prog 67 #[x,.int .i64 (n0:Nat),.int .i64 (n1:Nat)] w1 fun e w'=>∃ v',e=.returned v' ∧ NsAt 0 w' v' tu ∧ Below w1.heap.size w1 w'):=Lib.hid (fun x w1 hn=>by rw [hto]; exact refTurned_calls x uo n0 n1 w1 hn (by omega) (by omega) hul (cl_bounds c1 hul))
 have HNC:Hid (∀ x w1,Below w.heap.size w w1 → NsAt 0 w1 x tu → Calls Tryz.prog 18 #[.slice ta ml tc,plV d,.int .i64 (s.a:Nat),x,exV ⟨(op:Int) - 100,(n0:Int) + (n2:Int) - (n1:Int) - 1,(n2:Int) - 1,⟨#[]⟩,v0,0,0⟩] w1 (NdPost (nodeP M d s.a tu ((op:Int) - 100) ((n0:Int) + (n2:Int) - (n1:Int) - 1) ((n2:Int) - 1) [] v0) w1)):=Lib.hid (fun x w1 hb hn=>HND.out d tu ⟨(op:Int) - 100,(n0:Int) + (n2:Int) - (n1:Int) - 1,(n2:Int) - 1,⟨#[]⟩,v0,0,0⟩ x w1 hb rfl hn (by omega) (fun _=>c2.snoc (.inr ⟨by show (4:Int) ≤ (op:Int) - 100; omega,by show (op:Int) - 100 ≤ 16; omega,by show (0:Int) ≤ (n0:Int) + (n2:Int) - (n1:Int) - 1; omega,by show (n0:Int) + (n2:Int) - (n1:Int) - 1 < (tu.length:Int); omega,fun _=>⟨by show (0:Int) ≤ (n2:Int) - 1; omega,by show (n2:Int) - 1 < (tu.length:Int); omega⟩⟩)))
 rw [HV.out]
 generalize nodeP M d s.a tu ((op:Int) - 100) ((n0:Int) + (n2:Int) - (n1:Int) - 1) ((n2:Int) - 1) [] v0=R at HNC HV ⊢
 rw [← hn0] at HC ⊢
 clear hk hkd hv h hb0 HS hM hM6 HTK HO HB0 hml hns HSUB HLK HOK HER hvx hpo r1 r2 r3 r4 r5 r6 r7 r8 hs hkk hse hlt hok1 hok2 hsl0 hsl hul hT HUC0 hop hcase hpc HV hn0 hn1 hn2 HND hde c1 c2 c3 c4 c5 hopb hto htl hg
 unfold plV at HSK HUC HNC
 unfold exV at HNC
 unfold plV at HC HSG
 unfold plV
 go_enter Tryz.func49,Tryz.ntmps49
 go_wp2_with fail
 generalize (w.alloc (.cells #[.int .i64 (p.a:Nat),.int .i64 (p.er:Nat),.int .i64 (p.line:Nat),.int .i64 (p.col:Nat),.int .i64 p.op] 33)).alloc (.cells #[.int .i64 0,.int .i64 0,.int .i64 0,.int .i64 0,.int .i64 0] 33)=w1 at HNB ⊢
 obtain ⟨p0,p1,p2,p3,p4⟩:=pl5 HNB.out.pl
 have hpl:=HNB.out.pl.lt
 go_wp2_with fail
 clear p0 p1 p2 p3 p4 hpl
 refine (HC.out _ HNB.out.below).mono ?_
 rintro e w2 ⟨v2,rfl,hn2,k1⟩
 have HU2:=Lib.hid (HNB.out.step k1)
 have hn2:NsAt 0 w2 v2 so:=hn2
 clear k1 HNB HC
 obtain ⟨va2,vc2,rfl⟩:=hn2.slice
 rw [← HN1.out] at hn2
 rw [← HN1.out]
 have HN2:=Lib.hid hn2
 clear hn2
 unfold nodR plV
 obtain ⟨p0,p1,p2,p3,p4⟩:=pl5 HU2.out.pl
 obtain ⟨f0,f1,f2,f3,f4⟩:=pl5f HU2.out.pl
 have hpl:=HU2.out.pl.lt
 go_upto_region 3 with fail
 clear p0 p1 p2 p3 p4 f0 f1 f2 f3 f4 hpl
 have hu3:=HU2.out.set s
 have hn3:=p5_ns (a:=.int .i64 (s.a:Nat)) (c:=.int .i64 (s.er:Nat)) (d:=.int .i64 (s.line:Nat)) (e:=.int .i64 (s.col:Nat)) (f:=.int .i64 s.op) HN2.out HU2.out.pl.cblk
 generalize (((((w2.setCell ⟨w.heap.size,0,none⟩ (.int .i64 (s.a:Nat))).setCell ⟨w.heap.size,1,none⟩ (.int .i64 (s.er:Nat))).setCell ⟨w.heap.size,2,none⟩ (.int .i64 (s.line:Nat))).setCell ⟨w.heap.size,3,none⟩ (.int .i64 (s.col:Nat))).setCell ⟨w.heap.size,4,none⟩ (.int .i64 s.op))=w3 at hu3 hn3 ⊢
 have HU3:=Lib.hid hu3
 have HN3:=Lib.hid hn3
 clear hu3 hn3 HU2 HN2
 obtain ⟨p0,p1,p2,p3,p4⟩:=pl5 HU3.out.pl
 have hpl:=HU3.out.pl.lt
 go_wp2_with fail
 clear p0 p1 p2 p3 p4 hpl
 refine (HSG.out _ _ _ (two_new HU3.out.below) (sg_cmp _)).mono ?_
 rintro e w4 ⟨rfl,k1⟩
 have k2:=(two_new (Below.refl w3.heap.size w3)).trans (k1.mono (two_new (Below.refl w3.heap.size w3)).size)
 have HU4:=Lib.hid (HU3.out.step k2)
 have HN4:=Lib.hid (HN3.out.below k2)
 clear k1 k2 HU3 HN3 HSG
 obtain ⟨p0,p1,p2,p3,p4⟩:=pl5 HU4.out.pl
 have hpl:=HU4.out.pl.lt
 go_wp2_with fail
 clear p0 p1 p2 p3 p4 hpl
 refine (HSK.out _).mono ?_
 rintro e w5 ⟨rfl,k1⟩
 have HU5:=Lib.hid (HU4.out.step k1)
 have HN5:=Lib.hid (HN4.out.below k1)
 clear k1 HU4 HN4 HSK
 go_wp2_with fail
 refine (HUC.out _ _ HU5.out.below HN5.out).mono ?_
 rintro e w6 ⟨v6,rfl,hn6,k1⟩
 have HU6:=Lib.hid (HU5.out.step k1)
 have hn6:NsAt 0 w6 v6 uo:=hn6
 obtain ⟨va6,vc6,rfl⟩:=hn6.slice
 rw [← HN2'.out] at hn6
 have HN6:=Lib.hid hn6
 rw [← HN2'.out]
 clear k1 hn6 HU5 HN5 HUC
 unfold nodR plV
 go_upto_region 8 with fail
 have h7:=HU6.out.put d
 generalize (w6.alloc (.cells #[.int .i64 (d.a:Nat),.int .i64 (d.er:Nat),.int .i64 (d.line:Nat),.int .i64 (d.col:Nat),.int .i64 d.op] 33))=w7 at h7 ⊢
 obtain ⟨hu7,hd7,hn7⟩:=h7
 have HU7:=Lib.hid hu7
 have HD7:=Lib.hid hd7
 have HN7:=Lib.hid (hn7 _ _ HN6.out)
 have hql:=hd7.lt
 clear hu7 hd7 hn7 HU6 HN6
 obtain ⟨x0,x1,x2,x3,x4⟩:=pl5 HD7.out
 have hpl7:=HU7.out.pl.lt
 go_wp2_with fail
 clear x0 x1 x2 x3 x4
 refine (HTC.out _ _ HN7.out).mono ?_
 rintro e w8 ⟨v8,rfl,hn8,k1⟩
 have HU8:=Lib.hid (HU7.out.step k1)
 have HD8:=Lib.hid (HD7.out.below k1)
 obtain ⟨va8,vc8,rfl⟩:=hn8.slice
 rw [← HTL.out] at hn8
 rw [← HTL.out]
 have HN8:=Lib.hid hn8
 clear k1 hn8 HU7 HD7 HN7 HTC
 obtain ⟨x0,x1,x2,x3,x4⟩:=pl5 HD8.out
 have hql8:=HD8.out.lt
 obtain ⟨p0,p1,p2,p3,p4⟩:=pl5 HU8.out.pl
 have hpl:=HU8.out.pl.lt
 go_wp2_with fail
 clear p0 p1 p2 p3 p4 hpl x0 x1 x2 x3 x4
 refine (HNC.out _ _ HU8.out.below HN8.out).mono ?_
 rintro e w9 ⟨v9,rfl,hn9,k1⟩
 have HU9:=Lib.hid (HU8.out.step k1)
 have HN9:Hid (NsAt 0 w9 v9 R.1):=Lib.hid hn9
 clear k1 hn9 HU8 HN8 HNC
 obtain ⟨r0,q⟩:=R
 unfold nodR plV
 obtain ⟨q0,q1,q2,q3,q4⟩:=pl5 HU9.out.re
 obtain ⟨f0,f1,f2,f3,f4⟩:=pl5f HU9.out.re
 have hre:=HU9.out.re.lt
 go_wp2_with fail
 refine bodyPost_ret (v:=nodR v9 q) ?_ rfl (nd_fin (r:=(r0,q)) HU9.out.re HU9.out.below HN9.out)
 refine cs_result2 rfl _ _ _ (a:=⟨w.heap.size + 1,0,none⟩) (by rfl) (by rfl) ?_
 unfold plV
 go_simp
theorem refCompare_calls (ta:Option Addr) (tc k:Nat) (M:List Tk) (w0:World) (h:TkIn w0 37 ta M.length M) (hM:MOk M) (hM6:M.length ≤ 65536)
  (HS:RefC 65 6 k ta tc M w0):RefC 49 5 (k + 1) ta tc M w0:=by
 intro p o v w hb0 hk hv
 by_cases h0:firstOp M (canP M 6 p o).2 cmpS=0
 ·exact refCmpA ta tc k M w0 h hM hM6 HS p o v w hb0 hk hv h0
 ·by_cases h1:(canP M 6 (skipP (canP M 6 p o).2) (canP M 6 p o).1).2.er=0
  ·by_cases h2:100 < firstOp M (canP M 6 p o).2 cmpS
   ·exact refCmpD ta tc k M w0 h hM hM6 HS p o v w hb0 hk hv ⟨h0,h1,h2⟩
   ·exact refCmpC ta tc k M w0 h hM hM6 HS p o v w hb0 hk hv ⟨h0,h1,h2⟩
  ·exact refCmpB ta tc k M w0 h hM hM6 HS p o v w hb0 hk hv ⟨h0,h1⟩
end Go.Proofs.YtmknmmbfaljkbaaGreatDoor
