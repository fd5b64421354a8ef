/- paclaim: ParNot ParCmp ParUnary ParExprF -/
import Derived.Test.YtiafhfchjhffhaaGreatDoorLowPa6
namespace Go.Proofs.YtiafhfchjhffhaaGreatDoor
open Go.RowKit
set_option linter.unusedVariables false
set_option maxHeartbeats 8000000 in
theorem not_calls (g tl tc k:Nat) (ta:Option Addr) (M:List Tk) (p:Pl) (a:Addr) (w:World) (h:PlAt w g ta tl tc M p) (hM:MOk M) (hv:ErrR w a) (hgl:7 < g) (hop:OpOk p)
  (hnot:∀ n,n ≤ k → ∀ q w1,PlAt w1 g ta tl tc M q → ErrR w1 a → OpOk q → needP M 4 q ≤ n → Calls Tryz.prog 200 #[.pointer (some ⟨g,0,none⟩)] w1 (XPost g ta tl tc M (exprC M n 4 q z0) w1))
  (hcmp:∀ n,n ≤ k → ∀ q w1,PlAt w1 g ta tl tc M q → ErrR w1 a → OpOk q → needP M 5 q ≤ n → Calls Tryz.prog 235 #[.pointer (some ⟨g,0,none⟩)] w1 (XPost g ta tl tc M (exprC M n 5 q z0) w1))
  (hn:needP M 4 p ≤ k + 1) :
  Calls Tryz.prog 200 #[.pointer (some ⟨g,0,none⟩)] w (XPost g ta tl tc M (exprC M (k + 1) 4 p z0) w):=by
 have HB0:Hid (Below w.heap.size w (w.alloc (.cells #[.slice none 0 0,.int .i64 0] 136))):=Lib.hid ((Below.refl _ _).alloc (Nat.le_refl _) _)
 have HR0:Hid (Ho (w.alloc (.cells #[.slice none 0 0,.int .i64 0] 136)) w.heap.size #[.slice none 0 0,.int .i64 0] 136):=Lib.hid (Ho.new _ _ _ rfl)
 have HC:=Lib.hid (comes_calls g tl tc ta M p ⟨#[110,111,116]⟩ _ (h.below HB0.out) hM.len)
 have HP0:=Lib.hid (h.below HB0.out)
 have HV:=Lib.hid hv
 have hg:=h.lt
 have hpa:=h.at'
 have hne0:¬ w.heap.size=g:=by omega
 rw [show (⟨#[110,111,116]⟩:ByteArray).data.toList=kwNot from rfl] at HC
 have e4:rankP 4=8:=rfl
 have e5:rankP 5=7:=rfl
 cases hs:isP M p kwNot
 case false =>
  have hE:exprC M (k + 1) 4 p z0=exprC M k 5 p z0:=by rw [exprC_4]; unfold notC; rw [if_neg (by rw [hs]; decide)]
  have HCM:=Lib.hid (fun w1 h1 h2=>hcmp k (Nat.le_refl _) p w1 h1 h2 hop (by unfold needP at hn ⊢; omega))
  rw [hE]
  rw [hs] at HC
  generalize exprC M k 5 p z0=E at HCM ⊢
  clear h hnot hcmp hn hv hs hE hop
  go_enter Tryz.func200,Tryz.ntmps200
  go_wp2_with fail
  refine HC.out.mono ?_
  rintro e w1 ⟨rfl,k1⟩
  have HR1:=Lib.hid (HR0.out.below k1)
  have HP1:=Lib.hid (HP0.out.below k1)
  have HB1:=Lib.hid (HB0.out.trans (k1.mono HB0.out.size))
  have HV1:=Lib.hid (errR_below HV.out HB1.out)
  clear k1
  go_wp2_with fail
  refine (HCM.out _ HP1.out HV1.out).mono ?_
  rintro e w2 ⟨⟨v,rfl,nv,rfl,hn⟩,k1,k2⟩
  obtain ⟨va2,vc2,hnv⟩:=hn.slice
  obtain ⟨kl2,hkl⟩:∃ kl2,kl2=E.1.ns.length:=⟨_,rfl⟩
  rw [← hkl] at hnv
  subst hnv
  obtain ⟨d2,hd⟩:∃ d2,d2=E.1.d:=⟨_,rfl⟩
  rw [← hd]
  have HD2:=Lib.hid hd
  have HR2:=Lib.hid (HR1.out.kp k2 hne0)
  have HP2:=Lib.hid k1
  have HK2:=Lib.hid ((Kp.of_below HB1.out).trans k2)
  have HN2:Hid (NsAt w.heap.size w2 (.slice va2 kl2 vc2) E.1.ns):=Lib.hid (hn.base HB1.out.size)
  clear k1 k2 hn hkl hd
  obtain ⟨y0,y1,yf0,yf1⟩:=cx_cells HR2.out
  have hyl:=HR2.out.lt
  go_wp2_with fail
  refine bodyPost_ret (v:=.agg #[.slice va2 kl2 vc2,.int .i64 (d2:Nat)]) ?_ rfl ?_
  ·refine cs_result1 rfl _ _ _ (a:=⟨w.heap.size,0,none⟩) (by rfl) ?_
   go_simp
  skip
  refine ⟨⟨_,rfl,.slice va2 kl2 vc2,by rw [HD2.out],?_⟩,?_,?_⟩
  ·exact ns_set (ns_set HN2.out HR2.out.cblk (by decide)) (Ho.set (o:=0) (v:=.slice va2 kl2 vc2) HR2.out rfl).cblk (by decide)
  ·exact (HP2.out.setT HR2.out.cblk (by decide) (by decide) (by decide)).setT (Ho.set (o:=0) (v:=.slice va2 kl2 vc2) HR2.out rfl).cblk (by decide) (by decide) (by decide)
  ·exact par_setNew (par_setNew HK2.out (Nat.le_refl _) _) (Nat.le_refl _) _
 case true =>
  obtain ⟨her,hqm⟩:=isP_some hs
  have hopw:OpOk (withinC (skipP p) (tkAt M p.a)):=(hop.skip).within her
  obtain ⟨wa,wo,_,_⟩:=within_at (skipP p) (tkAt M p.a)
  have esk:(skipP p).a=p.a + 1:=rfl
  have hmw:=mu_within (t:=tkAt M p.a) hs
  have hnw:needP M 4 (withinC (skipP p) (tkAt M p.a)) ≤ k:=by have:=rank_le 4; have e1:1 ≤ rankP 4:=rank_pos _; unfold needP at hn ⊢; omega
  have c:=(expr_cok M k 4 (withinC (skipP p) (tkAt M p.a)) hnw (by omega) (by omega)).1 (by unfold joinL; omega)
  have HINN:=Lib.hid (fun w1 h1 h2=>hnot k (Nat.le_refl _) (withinC (skipP p) (tkAt M p.a)) w1 h1 h2 hopw hnw)
  have htk:takeC M p=skipP p:=by
   unfold takeC peekC
   rw [if_pos her,if_neg (by have:=hM.kinds _ (List.mem_of_getElem? (tk_at hqm)); omega)]
  have hpk:peekC M p=tkAt M p.a:=by unfold peekC; rw [if_pos her]
  obtain ⟨x,hx⟩:∃ x,x=tkAt M p.a:=⟨_,rfl⟩
  have hE:exprC M (k + 1) 4 p z0=overL (shutP (exprC M k 4 (withinC (skipP p) x) z0).2) x 4 [(exprC M k 4 (withinC (skipP p) x) z0).1]:=by rw [exprC_4]; unfold notC; rw [if_pos hs,hx]
  rw [← hx] at HINN c hpk wo wa
  have hwop:(withinC (skipP p) x).op=p.op + 1:=wo
  obtain ⟨E,hEE⟩:∃ E,E=exprC M k 4 (withinC (skipP p) x) z0:=⟨_,rfl⟩
  rw [← hEE] at HINN c hE
  have hEop:E.2.op=p.op + 1:=c.op.trans hwop
  have b1:=hop.1
  have b2:=hop.2.1
  have cl:=c.len
  have ca:=c.a2
  have cd:=c.dep
  have hml:=hM.len
  have HNT:=Lib.hid c.net
  have HWI:=Lib.hid (fun w1 h1 h2=>within_calls g tl tc 200 ta M (skipP p) x a E w1 h1 h2 hgl ⟨by show 0 ≤ p.op; omega,by show p.op ≤ 1000; omega⟩ ⟨by omega,by omega⟩ (enters_of Tryz.func200 (by kernel_rfl) rfl) HINN.out)
  obtain ⟨V,hV⟩:∃ V,V=overL (shutP E.2) x 4 [E.1]:=⟨_,rfl⟩
  rw [hE,← hV]
  have HOVR:Hid (∀ b pc w1,PlAt w1 g ta tl tc M (shutP E.2) → PsAt w.heap.size w1 b [E.1] → Calls Tryz.prog 199 #[.pointer (some ⟨g,0,none⟩),tkV x,.int .i64 4,.slice (some ⟨b,0,none⟩) 1 pc] w1 fun e w'=>(∃ v,e=.returned v ∧ CxAt w1.heap.size w' v V.1) ∧ PlAt w' g ta tl tc M V.2 ∧ Kp (K1 g) w1 w'):=Lib.hid (fun b pc w1 h1 h2=>by
   have hcat:(catN [E.1]).length=E.1.ns.length:=by unfold catN; simp
   rw [hV]
   exact over_calls g tl tc b pc ta M (shutP E.2) x 4 [E.1] w.heap.size w1 h1 h2 (fun c hc=>by rw [List.mem_singleton] at hc; subst hc; exact net_ne HNT.out) (fun c hc=>by rw [List.mem_singleton] at hc; subst hc; omega) (by rw [hcat]; omega) (by show 1 ≤ 2; omega))
  have HTK:=Lib.hid (fun w1 h1=>take_calls g tl tc ta M p w1 h1 hM.len)
  rw [htk,hpk] at HTK
  rw [hs] at HC
  unfold tkV at HWI HOVR HTK
  clear h hnot hcmp hn hv hs hE hop her hqm hopw wa wo hmw hnw c HINN htk hpk hx hwop hEE hEop cl ca cd hV esk
  go_enter Tryz.func200,Tryz.ntmps200
  go_wp2_with fail
  refine HC.out.mono ?_
  rintro e w1 ⟨rfl,k1⟩
  have HR1:=Lib.hid (HR0.out.below k1)
  have HP1:=Lib.hid (HP0.out.below k1)
  have HB1:=Lib.hid (HB0.out.trans (k1.mono HB0.out.size))
  clear k1
  go_wp2_with fail
  refine (HTK.out _ HP1.out).mono ?_
  rintro e w3 ⟨rfl,k1,k2⟩
  have HR3:=Lib.hid (HR1.out.kp k2 hne0)
  have HP3:=Lib.hid k1
  have HK3:=Lib.hid ((Kp.of_below HB1.out).trans k2)
  clear k1 k2
  go_wp2_with fail
  have hA:Below w3.heap.size w3 (w3.alloc (.cells #[.int .i64 (x.k:Nat),.string ⟨x.t.toArray⟩,.int .i64 (x.line:Nat),.int .i64 (x.col:Nat)] 183)):=(Below.refl _ _).alloc (Nat.le_refl _) _
  have hX4:=Ho.new w3 #[.int .i64 (x.k:Nat),.string ⟨x.t.toArray⟩,.int .i64 (x.line:Nat),.int .i64 (x.col:Nat)] 183 rfl
  have hw43:w3.heap.size < (w3.alloc (.cells #[.int .i64 (x.k:Nat),.string ⟨x.t.toArray⟩,.int .i64 (x.line:Nat),.int .i64 (x.col:Nat)] 183)).heap.size:=by simp
  have hR4:=HR3.out.below hA
  have hP4:=HP3.out.below hA
  have hK4:=HK3.out.below hA
  have hgw3:=HP3.out.lt
  generalize w3.alloc (.cells #[.int .i64 (x.k:Nat),.string ⟨x.t.toArray⟩,.int .i64 (x.line:Nat),.int .i64 (x.col:Nat)] 183)=w4 at hA hX4 hR4 hP4 hK4 hw43 ⊢
  have HX4:=Lib.hid hX4
  have HR4:=Lib.hid hR4
  have HP4:=Lib.hid hP4
  have HK4:=Lib.hid hK4
  have HV5:=Lib.hid (errR_kp HV.out hgl hg hK4)
  have hne3:¬ w3.heap.size=g:=by omega
  clear hA hX4 hR4 hP4 hK4
  have HS:Hid (∀ W,Ho W w3.heap.size #[.int .i64 (x.k:Nat),.string ⟨x.t.toArray⟩,.int .i64 (x.line:Nat),.int .i64 (x.col:Nat)] 183 → (W.cell? ⟨w3.heap.size,0,none⟩=some (.int .i64 (x.k:Nat)) ∧ W.cell? ⟨w3.heap.size,1,none⟩=some (.string ⟨x.t.toArray⟩) ∧ W.cell? ⟨w3.heap.size,2,none⟩=some (.int .i64 (x.line:Nat)) ∧ W.cell? ⟨w3.heap.size,3,none⟩=some (.int .i64 (x.col:Nat)))):=Lib.hid (fun W h1=>tk_box h1)
  refine wp_region_B (S:=(fun W=>W.cell? ⟨w3.heap.size,0,none⟩=some (.int .i64 (x.k:Nat)) ∧ W.cell? ⟨w3.heap.size,1,none⟩=some (.string ⟨x.t.toArray⟩) ∧ W.cell? ⟨w3.heap.size,2,none⟩=some (.int .i64 (x.line:Nat)) ∧ W.cell? ⟨w3.heap.size,3,none⟩=some (.int .i64 (x.col:Nat)))) [9] (by kernel_rfl) (HS.out w4.drew HX4.out) (fun hH0=>?_)
  refine wpB_take (i:=0) (v:=.pointer (some ⟨g,0,none⟩)) [9] rfl (by kernel_rfl) (by kernel_rfl) (by kernel_rfl) (by kernel_rfl) (fun _ _ _ h=>h) (Or.inl ⟨by kernel_rfl,fun wS hSw=>by (try dsimp only at hSw); go_simp⟩) hH0 ?_
  refine wpB_take (i:=1) (v:=.agg #[.int .i64 (x.k:Nat),.string ⟨x.t.toArray⟩,.int .i64 (x.line:Nat),.int .i64 (x.col:Nat)]) [9] rfl (by kernel_rfl) (by kernel_rfl) (by kernel_rfl) (by kernel_rfl) (fun _ _ _ h=>h) (Or.inl ⟨by kernel_rfl,fun wS hSw=>by (try dsimp only at hSw); go_simp⟩) hH0 ?_
  refine wpB_take (i:=2) (v:=.pointer (some ⟨g,0,none⟩)) [9] rfl (by kernel_rfl) (by kernel_rfl) (by kernel_rfl) (by kernel_rfl) (fun _ _ _ h=>h) (Or.inl ⟨by kernel_rfl,fun wS hSw=>by (try dsimp only at hSw); go_simp⟩) hH0 ?_
  refine wpB_take (i:=3) (v:=.agg #[.int .i64 (x.k:Nat),.string ⟨x.t.toArray⟩,.int .i64 (x.line:Nat),.int .i64 (x.col:Nat)]) [9] rfl (by kernel_rfl) (by kernel_rfl) (by kernel_rfl) (by kernel_rfl) (fun _ _ _ h=>h) (Or.inl ⟨by kernel_rfl,fun wS hSw=>by (try dsimp only at hSw); go_simp⟩) hH0 ?_
  refine wpB_take (i:=4) (v:=.pointer (some ⟨g,0,none⟩)) [9] rfl (by kernel_rfl) (by kernel_rfl) (by kernel_rfl) (by kernel_rfl) (fun _ _ _ h=>h) (Or.inl ⟨by kernel_rfl,fun wS hSw=>by (try dsimp only at hSw); go_simp⟩) hH0 ?_
  refine wpB_take (i:=5) (v:=.func (.func 200) #[.pointer (some ⟨g,0,none⟩)] #[]) [9] rfl (by kernel_rfl) (by kernel_rfl) (by kernel_rfl) (by kernel_rfl) (fun _ _ _ h=>h) (Or.inl ⟨by kernel_rfl,fun wS hSw=>by (try dsimp only at hSw); go_simp⟩) hH0 ?_
  refine wpB_step (i:=6) rfl (by kernel_rfl) (fun K hK=>?_)
  rw [if_pos (by kernel_rfl)]
  go_simp
  refine (HWI.out _ (HP4.out.below ((Below.refl _ _).drew)) (errR_below HV5.out ((Below.refl _ _).drew))).mono ?_
  rintro e w5 ⟨⟨v,rfl,nv,rfl,hn⟩,k1,k2⟩
  obtain ⟨va5,vc5,hnv⟩:=hn.slice
  obtain ⟨kl5,hkl⟩:∃ kl5,kl5=E.1.ns.length:=⟨_,rfl⟩
  rw [← hkl] at hnv
  subst hnv
  obtain ⟨d5,hd⟩:∃ d5,d5=E.1.d:=⟨_,rfl⟩
  rw [← hd]
  have HD5:=Lib.hid hd
  have k3:Kp (K1 g) w4 w5:=(Kp.of_below ((Below.refl _ _).drew)).trans k2
  have HX5:=Lib.hid (HX4.out.kp k3 hne3)
  have HR5:=Lib.hid (HR4.out.kp k3 hne0)
  have HP5:=Lib.hid k1
  have HK5:=Lib.hid (HK4.out.trans k3)
  have HN5:Hid (NsAt w.heap.size w5 (.slice va5 kl5 vc5) E.1.ns):=Lib.hid (hn.base (by have:=HR4.out.lt; show w.heap.size ≤ w4.drew.heap.size; rw [show w4.drew.heap.size=w4.heap.size from rfl]; omega))
  have hgw5:=HP5.out.lt
  clear k1 k2 k3 hn hkl hd
  refine hK.out _ _ (HS.out w5 HX5.out) (fun hH1=>?_)
  clear hK K
  refine wpB_step (i:=7) rfl (by kernel_rfl) (fun K hK=>?_)
  rw [if_pos (by kernel_rfl)]
  go_simp
  have hA6:Below w5.heap.size w5 (w5.alloc (.cells #[.slice va5 kl5 vc5,.int .i64 (d5:Nat)] 136)):=(Below.refl _ _).alloc (Nat.le_refl _) _
  have hps:=ps_one (c:=E.1) HN5.out rfl
  rw [← HD5.out] at hps
  have HPS:=Lib.hid hps
  have HX6:=Lib.hid (HX5.out.below hA6)
  have HR6:=Lib.hid (HR5.out.below hA6)
  have HP6:=Lib.hid (HP5.out.below hA6)
  have HK6:=Lib.hid (HK5.out.below hA6)
  clear hA6 hps
  refine hK.out _ _ (HS.out _ HX6.out) (fun hH2=>?_)
  clear hK K
  refine wpB_step (i:=8) rfl (by kernel_rfl) (fun K hK=>?_)
  rw [if_pos (by kernel_rfl)]
  go_simp
  refine (HOVR.out _ 1 _ HP6.out HPS.out).mono ?_
  rintro e w7 ⟨⟨v,rfl,nv,rfl,hn⟩,k1,k2⟩
  obtain ⟨va7,vc7,hnv⟩:=hn.slice
  obtain ⟨kl7,hkl⟩:∃ kl7,kl7=V.1.ns.length:=⟨_,rfl⟩
  rw [← hkl] at hnv
  subst hnv
  obtain ⟨d7,hd⟩:∃ d7,d7=V.1.d:=⟨_,rfl⟩
  rw [← hd]
  have HD7:=Lib.hid hd
  have HX7:=Lib.hid (HX6.out.kp k2 hne3)
  have HR7:=Lib.hid (HR6.out.kp k2 hne0)
  have HP7:=Lib.hid k1
  have HK7:=Lib.hid (HK6.out.trans k2)
  have HN7:Hid (NsAt w.heap.size w7 (.slice va7 kl7 vc7) V.1.ns):=Lib.hid (hn.base (by simp; have:=HR5.out.lt; omega))
  clear k1 k2 hn hkl hd
  refine hK.out _ _ (HS.out w7 HX7.out) (fun hH3=>?_)
  clear hK K
  obtain ⟨y0,y1,yf0,yf1⟩:=cx_cells HR7.out
  have hyl:=HR7.out.lt
  clear hH0 hH1 hH2 hH3
  refine wpB_past (i:=9) rfl (by kernel_rfl) (by kernel_rfl) (fun K hK=>?_)
  rw [if_pos (by kernel_rfl)]
  go_simp
  refine hK.out _ _ ?_
  clear hK K
  refine wpB_done (by kernel_rfl) ?_ _
  go_simp
  go_wp2_with fail
  refine bodyPost_ret (v:=.agg #[.slice va7 kl7 vc7,.int .i64 (d7:Nat)]) ?_ rfl ?_
  ·refine cs_result1 rfl _ _ _ (a:=⟨w.heap.size,0,none⟩) (by rfl) ?_
   go_simp
  skip
  refine ⟨⟨_,rfl,.slice va7 kl7 vc7,by rw [HD7.out],?_⟩,?_,?_⟩
  ·exact ns_set (ns_set HN7.out HR7.out.cblk (by decide)) (Ho.set (o:=0) (v:=.slice va7 kl7 vc7) HR7.out rfl).cblk (by decide)
  ·exact (HP7.out.setT HR7.out.cblk (by decide) (by decide) (by decide)).setT (Ho.set (o:=0) (v:=.slice va7 kl7 vc7) HR7.out rfl).cblk (by decide) (by decide) (by decide)
  ·exact par_setNew (par_setNew HK7.out (Nat.le_refl _) _) (Nat.le_refl _) _
set_option maxHeartbeats 8000000 in
theorem comparison_calls (g tl tc k:Nat) (ta:Option Addr) (M:List Tk) (p:Pl) (a:Addr) (w:World) (h:PlAt w g ta tl tc M p) (hM:MOk M) (hv:ErrR w a) (hgl:7 < g) (hop:OpOk p)
  (hsum:∀ n,n ≤ k → ∀ q w1,PlAt w1 g ta tl tc M q → ErrR w1 a → OpOk q → needP M 6 q ≤ n → Calls Tryz.prog 254 #[.pointer (some ⟨g,0,none⟩)] w1 (XPost g ta tl tc M (exprC M n 6 q z0) w1))
  (hn:needP M 5 p ≤ k + 1) :
  Calls Tryz.prog 235 #[.pointer (some ⟨g,0,none⟩)] w (XPost g ta tl tc M (exprC M (k + 1) 5 p z0) w):=by
 have HB0:Hid (Below w.heap.size w (w.alloc (.cells #[.slice none 0 0,.int .i64 0] 136))):=Lib.hid ((Below.refl _ _).alloc (Nat.le_refl _) _)
 have HR0:Hid (Ho (w.alloc (.cells #[.slice none 0 0,.int .i64 0] 136)) w.heap.size #[.slice none 0 0,.int .i64 0] 136):=Lib.hid (Ho.new _ _ _ rfl)
 have HP0:=Lib.hid (h.below HB0.out)
 have HV:=Lib.hid hv
 have hg:=h.lt
 have hpa:=h.at'
 have hne0:¬ w.heap.size=g:=by omega
 have e5:rankP 5=7:=rfl
 have e6:rankP 6=6:=rfl
 have hn6:needP M 6 p ≤ k:=by unfold needP at hn ⊢; omega
 have HS1:=Lib.hid (hsum k (Nat.le_refl _) p _ HP0.out (errR_below hv HB0.out) hop hn6)
 have c1:=(expr_cok M k 6 p hn6 (by omega) hpa).1 (by unfold joinL; omega)
 have hE:exprC M (k + 1) 5 p z0=cmpC M (exprC M k 6 p z0) (exprC M k 6 (skipP (exprC M k 6 p z0).2) z0):=exprC_5 M k p z0
 rw [hE]
 have hop1:=hop.of c1
 have hm1:=c1.mu
 generalize exprC M k 6 p z0=E1 at HS1 c1 hop1 hm1 ⊢
 have HNX:=Lib.hid (fun w1 h1=>nextCmp_calls g tl tc ta M E1.2 w1 h1 hM.len)
 obtain ⟨o,ho⟩:∃ o,o=firstOp M E1.2 cmpS:=⟨_,rfl⟩
 rw [← ho] at HNX
 by_cases h0:o=0
 case pos =>
  have hC:cmpC M E1 (exprC M k 6 (skipP E1.2) z0)=E1:=by unfold cmpC; rw [← ho,if_pos h0]
  rw [hC]
  subst h0
  have HNX:Hid (∀ w1,PlAt w1 g ta tl tc M E1.2 → Calls Tryz.prog 255 #[.pointer (some ⟨g,0,none⟩)] w1 fun e w'=>e=.returned (.tuple #[.int .i64 0,.bool false]) ∧ Below w1.heap.size w1 w'):=HNX
  clear h hsum hn hv hE hop hop1 hm1 c1 ho hC hn6
  go_enter Tryz.func235,Tryz.ntmps235
  go_wp2_with fail
  refine HS1.out.mono ?_
  rintro e w1 ⟨⟨v,rfl,nv,rfl,hn⟩,k1,k2⟩
  obtain ⟨va1,vc1,hnv⟩:=hn.slice
  obtain ⟨kl1,hkl⟩:∃ kl1,kl1=E1.1.ns.length:=⟨_,rfl⟩
  rw [← hkl] at hnv
  subst hnv
  obtain ⟨d1,hd⟩:∃ d1,d1=E1.1.d:=⟨_,rfl⟩
  rw [← hd]
  have HD1:=Lib.hid hd
  have HR1:=Lib.hid (HR0.out.kp k2 hne0)
  have HP1:=Lib.hid k1
  have HK1:=Lib.hid ((Kp.of_below HB0.out).trans k2)
  have HN1:Hid (NsAt w.heap.size w1 (.slice va1 kl1 vc1) E1.1.ns):=Lib.hid (hn.base HB0.out.size)
  clear k1 k2 hn hkl hd
  go_wp2_with fail
  have hA:Below w1.heap.size w1 (w1.alloc (.cells #[.slice va1 kl1 vc1,.int .i64 (d1:Nat)] 136)):=(Below.refl _ _).alloc (Nat.le_refl _) _
  have hAA:=Ho.new w1 #[.slice va1 kl1 vc1,.int .i64 (d1:Nat)] 136 rfl
  refine (HNX.out _ (HP1.out.below hA)).mono ?_
  rintro e w2 ⟨rfl,k1⟩
  have hB2:=hA.trans (k1.mono hA.size)
  have HR2:=Lib.hid (HR1.out.below hB2)
  have HP2:=Lib.hid (HP1.out.below hB2)
  have HK2:=Lib.hid (HK1.out.below hB2)
  have HN2:=Lib.hid (HN1.out.below hB2)
  have HA2:=Lib.hid (hAA.below k1)
  have hw1:=HR1.out.lt
  have hal:=HA2.out.lt
  clear k1 hB2 hA hAA
  obtain ⟨c0,c1,cf0,cf1⟩:=cx_cells HA2.out
  obtain ⟨y0,y1,yf0,yf1⟩:=cx_cells HR2.out
  have hyl:=HR2.out.lt
  go_wp2_with fail
  refine bodyPost_ret (v:=.agg #[.slice va1 kl1 vc1,.int .i64 (d1:Nat)]) ?_ rfl ?_
  ·refine cs_result1 rfl _ _ _ (a:=⟨w.heap.size,0,none⟩) (by rfl) ?_
   go_simp
  skip
  refine ⟨⟨_,rfl,.slice va1 kl1 vc1,by rw [HD1.out],?_⟩,?_,?_⟩
  ·exact ns_set (ns_set HN2.out HR2.out.cblk (by decide)) (Ho.set (o:=0) (v:=.slice va1 kl1 vc1) HR2.out rfl).cblk (by decide)
  ·exact (HP2.out.setT HR2.out.cblk (by decide) (by decide) (by decide)).setT (Ho.set (o:=0) (v:=.slice va1 kl1 vc1) HR2.out rfl).cblk (by decide) (by decide) (by decide)
  ·exact par_setNew (par_setNew HK2.out (Nat.le_refl _) _) (Nat.le_refl _) _
 case neg =>
  obtain ⟨ss,hs⟩:=firstOp_some (M:=M) (p:=E1.2) cmpS (by rw [← ho]; exact h0)
  obtain ⟨her,hqm⟩:=isP_some hs
  have hms:=mu_skip hs
  have hn2:needP M 6 (skipP E1.2) ≤ k:=by unfold needP at hn ⊢; omega
  have esk:(skipP E1.2).a=E1.2.a + 1:=rfl
  have c2:=(expr_cok M k 6 (skipP E1.2) hn2 (by omega) (by omega)).1 (by unfold joinL; omega)
  have HS2:=Lib.hid (fun w1 h1 h2=>hsum k (Nat.le_refl _) (skipP E1.2) w1 h1 h2 hop1.skip hn2)
  have hCM:cmpC M E1 (exprC M k 6 (skipP E1.2) z0)=if 100 < o then overL (exprC M k 6 (skipP E1.2) z0).2 (tkAt M E1.2.a) ((o:Int) - 100) [(exprC M k 6 (skipP E1.2) z0).1,E1.1] else overL (exprC M k 6 (skipP E1.2) z0).2 (tkAt M E1.2.a) o [E1.1,(exprC M k 6 (skipP E1.2) z0).1]:=by unfold cmpC; rw [← ho,if_neg h0]
  generalize exprC M k 6 (skipP E1.2) z0=E2 at HS2 c2 hCM ⊢
  have htk:takeC M E1.2=skipP E1.2:=by
   unfold takeC peekC
   rw [if_pos her,if_neg (by have:=hM.kinds _ (List.mem_of_getElem? (tk_at hqm)); omega)]
  have hpk:peekC M E1.2=tkAt M E1.2.a:=by unfold peekC; rw [if_pos her]
  obtain ⟨x,hx⟩:∃ x,x=tkAt M E1.2.a:=⟨_,rfl⟩
  have HTK:=Lib.hid (fun w1 h1=>take_calls g tl tc ta M E1.2 w1 h1 hM.len)
  rw [htk,hpk,← hx] at HTK
  rw [← hx] at hCM
  have l1:=c1.len0 her
  have l2:=c2.len
  have l3:=c2.a2
  have l4:=c1.dep
  have l5:=c2.dep
  have hml:=hM.len
  have HN1:=Lib.hid c1.net
  have HN2:=Lib.hid c2.net
  have t0:((o:Int) == 0)=false:=by rw [beq_eq_false_iff_ne]; omega
  have hcat1:(catN [E1.1,E2.1]).length=E1.1.ns.length + E2.1.ns.length:=by unfold catN; simp
  have hcat2:(catN [E2.1,E1.1]).length=E2.1.ns.length + E1.1.ns.length:=by unfold catN; simp
  have HLE:Hid (E1.1.ns.length + E2.1.ns.length ≤ 2000000 ∧ E1.1.d ≤ 1000000 ∧ E2.1.d ≤ 1000000):=Lib.hid ⟨by omega,by omega,by omega⟩
  unfold tkV at HTK
  rw [hCM]
  by_cases hg1:100 < o
  case pos =>
   rw [if_pos hg1]
   have HNX:Hid (∀ w1,PlAt w1 g ta tl tc M E1.2 → Calls Tryz.prog 255 #[.pointer (some ⟨g,0,none⟩)] w1 fun e w'=>e=.returned (.tuple #[.int .i64 ((o - 100:Nat):Int),.bool true]) ∧ Below w1.heap.size w1 w'):=Lib.hid (fun w1 h1=>by have:=HNX.out w1 h1; unfold cmpV at this; rw [if_pos hg1] at this; exact this)
   obtain ⟨op,hopv⟩:∃ op,op=o - 100:=⟨_,rfl⟩
   have t0:((op:Int) == 0)=false:=by
    rw [beq_eq_false_iff_ne]
    have hmem:=cmp_op (M:=M) (p:=E1.2) (by rw [← ho]; exact h0)
    rw [← ho] at hmem
    omega
   rw [show (o:Int) - 100=(op:Int) by omega]
   rw [← hopv] at HNX
   obtain ⟨V,hV⟩:∃ V,V=overL E2.2 x (op:Int) [E2.1,E1.1]:=⟨_,rfl⟩
   rw [← hV]
   have HOVR:Hid (∀ b pc w1,PlAt w1 g ta tl tc M E2.2 → PsAt w.heap.size w1 b [E2.1,E1.1] → Calls Tryz.prog 199 #[.pointer (some ⟨g,0,none⟩),tkV x,.int .i64 (op:Int),.slice (some ⟨b,0,none⟩) 2 pc] w1 fun e w'=>(∃ v,e=.returned v ∧ CxAt w1.heap.size w' v V.1) ∧ PlAt w' g ta tl tc M V.2 ∧ Kp (K1 g) w1 w'):=Lib.hid (fun b pc w1 h1 h2=>by
    rw [hV]
    obtain ⟨z1,z2,z3⟩:=HLE.out
    refine over_calls g tl tc b pc ta M E2.2 x (op:Int) [E2.1,E1.1] w.heap.size w1 h1 h2 (fun c hc=>?_) (fun c hc=>?_) (by rw [hcat2]; omega) (Nat.le_refl 2)
    ·simp only [List.mem_cons,List.not_mem_nil,or_false] at hc
     rcases hc with rfl | rfl
     ·exact net_ne HN2.out
     ·exact net_ne HN1.out
    ·simp only [List.mem_cons,List.not_mem_nil,or_false] at hc
     rcases hc with rfl | rfl
     ·exact z3
     ·exact z2)
   unfold tkV at HOVR
   clear h hsum hn hv hE hop hop1 hm1 c1 ho hn6 h0 hs her hqm hms hn2 esk c2 hCM htk hpk hx l1 l2 l3 l4 l5 hcat1 hcat2 HLE HN1 HN2 hg1 hopv hV
   go_enter Tryz.func235,Tryz.ntmps235
   go_wp2_with fail
   refine HS1.out.mono ?_
   rintro e w1 ⟨⟨v,rfl,nv,rfl,hn⟩,k1,k2⟩
   obtain ⟨va1,vc1,hnv⟩:=hn.slice
   obtain ⟨kl1,hkl⟩:∃ kl1,kl1=E1.1.ns.length:=⟨_,rfl⟩
   rw [← hkl] at hnv
   subst hnv
   obtain ⟨d1,hd⟩:∃ d1,d1=E1.1.d:=⟨_,rfl⟩
   rw [← hd]
   have HD1:=Lib.hid hd
   have HR1:=Lib.hid (HR0.out.kp k2 hne0)
   have HP1:=Lib.hid k1
   have HK1:=Lib.hid ((Kp.of_below HB0.out).trans k2)
   have HN1:Hid (NsAt w.heap.size w1 (.slice va1 kl1 vc1) E1.1.ns):=Lib.hid (hn.base HB0.out.size)
   have hw1:=HR1.out.lt
   have hgw1:=HP1.out.lt
   have hne1:¬ w1.heap.size=g:=by omega
   clear k1 k2 hn hkl hd
   go_wp2_with fail
   have hA:Below w1.heap.size w1 (w1.alloc (.cells #[.slice va1 kl1 vc1,.int .i64 (d1:Nat)] 136)):=(Below.refl _ _).alloc (Nat.le_refl _) _
   have hAA:=Ho.new w1 #[.slice va1 kl1 vc1,.int .i64 (d1:Nat)] 136 rfl
   refine (HNX.out _ (HP1.out.below hA)).mono ?_
   rintro e w2 ⟨rfl,k1⟩
   have hB2:=hA.trans (k1.mono hA.size)
   have HR2:=Lib.hid (HR1.out.below hB2)
   have HP2:=Lib.hid (HP1.out.below hB2)
   have HK2:=Lib.hid (HK1.out.below hB2)
   have HN2:=Lib.hid (HN1.out.below hB2)
   have HA2:=Lib.hid (hAA.below k1)
   clear k1 hB2 hA hAA
   go_wp2_with fail
   refine (HTK.out _ HP2.out).mono ?_
   rintro e w3 ⟨rfl,k1,k2⟩
   have HR3:=Lib.hid (HR2.out.kp k2 hne0)
   have HA3:=Lib.hid (HA2.out.kp k2 hne1)
   have HN3:=Lib.hid (HN2.out.kp HP2.out.cblk k2)
   have HP3:=Lib.hid k1
   have HK3:=Lib.hid (HK2.out.trans k2)
   have hgw3:=HP3.out.lt
   have hne3:¬ w3.heap.size=g:=by omega
   clear k1 k2
   go_wp2_with fail
   have hA:Below w3.heap.size w3 (w3.alloc (.cells #[.int .i64 (x.k:Nat),.string ⟨x.t.toArray⟩,.int .i64 (x.line:Nat),.int .i64 (x.col:Nat)] 183)):=(Below.refl _ _).alloc (Nat.le_refl _) _
   have hX4:=Ho.new w3 #[.int .i64 (x.k:Nat),.string ⟨x.t.toArray⟩,.int .i64 (x.line:Nat),.int .i64 (x.col:Nat)] 183 rfl
   have HV4:=Lib.hid (errR_kp HV.out hgl hg (HK3.out.below hA))
   refine (HS2.out _ (HP3.out.below hA) HV4.out).mono ?_
   rintro e w5 ⟨⟨v,rfl,nv,rfl,hn⟩,k1,k2⟩
   obtain ⟨va5,vc5,hnv⟩:=hn.slice
   obtain ⟨kl5,hkl⟩:∃ kl5,kl5=E2.1.ns.length:=⟨_,rfl⟩
   rw [← hkl] at hnv
   subst hnv
   obtain ⟨d5,hd⟩:∃ d5,d5=E2.1.d:=⟨_,rfl⟩
   rw [← hd]
   have HD5:=Lib.hid hd
   have hw13:w1.heap.size < w3.heap.size:=HA3.out.lt
   have HX5:=Lib.hid (hX4.kp k2 hne3)
   have HA5:=Lib.hid ((HA3.out.below hA).kp k2 hne1)
   have HR5:=Lib.hid ((HR3.out.below hA).kp k2 hne0)
   have HN5:=Lib.hid ((HN3.out.below hA).kp (HP3.out.below hA).cblk k2)
   have HP5:=Lib.hid k1
   have HK5:=Lib.hid ((HK3.out.below hA).trans k2)
   have HM5:Hid (NsAt w.heap.size w5 (.slice va5 kl5 vc5) E2.1.ns):=Lib.hid (hn.base (by have:=HR3.out.lt; simp; omega))
   have hgw5:=HP5.out.lt
   have hw35:w3.heap.size < w5.heap.size:=HX5.out.lt
   have hne5:¬ w5.heap.size=g:=by omega
   clear k1 k2 hn hkl hd hA hX4
   obtain ⟨a0,a1,af0,af1⟩:=cx_cells HA5.out
   obtain ⟨x0,x1,x2,x3⟩:=tk_box HX5.out
   have hl1:w1.heap.size < w5.heap.size:=HA5.out.lt
   have hw15:¬ w1.heap.size=w5.heap.size:=by omega
   have hw51:¬ w5.heap.size=w1.heap.size:=by omega
   go_wp2_with fail
   have hK6:Kp (K1 w1.heap.size) w5 ((w5.setCell ⟨w1.heap.size,0,none⟩ (.slice va5 kl5 vc5)).setCell ⟨w1.heap.size,1,none⟩ (.int .i64 (d5:Nat))):=kp_set1 (kp_set1 (Kp.refl _ w5) _ _) _ _
   have hAS:=Ho.set (o:=0) (v:=.slice va5 kl5 vc5) HA5.out rfl
   have hRS:Ho ((w5.setCell ⟨w1.heap.size,0,none⟩ (.slice va5 kl5 vc5)).setCell ⟨w1.heap.size,1,none⟩ (.int .i64 (d5:Nat))) w.heap.size #[.slice none 0 0,.int .i64 0] 136:=(HR5.out.other (by omega)).other (by omega)
   have hPS:PlAt ((w5.setCell ⟨w1.heap.size,0,none⟩ (.slice va5 kl5 vc5)).setCell ⟨w1.heap.size,1,none⟩ (.int .i64 (d5:Nat))) g ta tl tc M E2.2:=(HP5.out.setT HA5.out.cblk (by decide) (by decide) (by decide)).setT hAS.cblk (by decide) (by decide) (by decide)
   have hKS:Kp (K1 g) w ((w5.setCell ⟨w1.heap.size,0,none⟩ (.slice va5 kl5 vc5)).setCell ⟨w1.heap.size,1,none⟩ (.int .i64 (d5:Nat))):=par_setNew (par_setNew HK5.out (by omega) _) (by omega) _
   have hNS:NsAt w.heap.size ((w5.setCell ⟨w1.heap.size,0,none⟩ (.slice va5 kl5 vc5)).setCell ⟨w1.heap.size,1,none⟩ (.int .i64 (d5:Nat))) (.slice va1 kl1 vc1) E1.1.ns:=ns_set (ns_set HN5.out HA5.out.cblk (by decide)) hAS.cblk (by decide)
   have hMS:NsAt w.heap.size ((w5.setCell ⟨w1.heap.size,0,none⟩ (.slice va5 kl5 vc5)).setCell ⟨w1.heap.size,1,none⟩ (.int .i64 (d5:Nat))) (.slice va5 kl5 vc5) E2.1.ns:=ns_set (ns_set HM5.out HA5.out.cblk (by decide)) hAS.cblk (by decide)
   have hszS:((w5.setCell ⟨w1.heap.size,0,none⟩ (.slice va5 kl5 vc5)).setCell ⟨w1.heap.size,1,none⟩ (.int .i64 (d5:Nat))).heap.size=w5.heap.size:=by simp
   generalize (w5.setCell ⟨w1.heap.size,0,none⟩ (.slice va5 kl5 vc5)).setCell ⟨w1.heap.size,1,none⟩ (.int .i64 (d5:Nat))=wS at hRS hPS hKS hNS hMS hszS ⊢
   have hA6:Below wS.heap.size wS (wS.alloc (.cells #[.slice va1 kl1 vc1,.int .i64 (d1:Nat)] 136)):=(Below.refl _ _).alloc (Nat.le_refl _) _
   have hN6:=hNS.below hA6
   have hM6:=hMS.below hA6
   have hps:=ps_two (b:=w5.heap.size + 1) (c:=E2.1) (d:=E1.1) hM6 hN6 (by simp; omega)
   rw [← HD1.out,← HD5.out] at hps
   have hA7:Below wS.heap.size wS ((wS.alloc (.cells #[.slice va1 kl1 vc1,.int .i64 (d1:Nat)] 136)).alloc (.cells #[.slice va5 kl5 vc5,.int .i64 (d5:Nat),.slice va1 kl1 vc1,.int .i64 (d1:Nat)] 136)):=hA6.alloc hA6.size _
   have HR6:=Lib.hid (hRS.below hA7)
   have HP6:=Lib.hid (hPS.below hA7)
   have HK6:=Lib.hid (hKS.below hA7)
   refine (HOVR.out _ 2 _ HP6.out hps).mono ?_
   rintro e w7 ⟨⟨v,rfl,nv,rfl,hn⟩,k1,k2⟩
   obtain ⟨va7,vc7,hnv⟩:=hn.slice
   obtain ⟨kl7,hkl⟩:∃ kl7,kl7=V.1.ns.length:=⟨_,rfl⟩
   rw [← hkl] at hnv
   subst hnv
   obtain ⟨d7,hd⟩:∃ d7,d7=V.1.d:=⟨_,rfl⟩
   rw [← hd]
   have HD7:=Lib.hid hd
   have HR7:=Lib.hid (HR6.out.kp k2 hne0)
   have HP7:=Lib.hid k1
   have HK7:=Lib.hid (HK6.out.trans k2)
   have HN7:Hid (NsAt w.heap.size w7 (.slice va7 kl7 vc7) V.1.ns):=Lib.hid (hn.base (by have:=HR6.out.lt; simp at this ⊢; omega))
   clear k1 k2 hn hkl hd a0 a1 af0 af1 x0 x1 x2 x3
   obtain ⟨y0,y1,yf0,yf1⟩:=cx_cells HR7.out
   have hyl:=HR7.out.lt
   go_wp2_with fail
   refine bodyPost_ret (v:=.agg #[.slice va7 kl7 vc7,.int .i64 (d7:Nat)]) ?_ rfl ?_
   ·refine cs_result1 rfl _ _ _ (a:=⟨w.heap.size,0,none⟩) (by rfl) ?_
    go_simp
   skip
   refine ⟨⟨_,rfl,.slice va7 kl7 vc7,by rw [HD7.out],?_⟩,?_,?_⟩
   ·exact ns_set (ns_set HN7.out HR7.out.cblk (by decide)) (Ho.set (o:=0) (v:=.slice va7 kl7 vc7) HR7.out rfl).cblk (by decide)
   ·exact (HP7.out.setT HR7.out.cblk (by decide) (by decide) (by decide)).setT (Ho.set (o:=0) (v:=.slice va7 kl7 vc7) HR7.out rfl).cblk (by decide) (by decide) (by decide)
   ·exact par_setNew (par_setNew HK7.out (Nat.le_refl _) _) (Nat.le_refl _) _
  case neg =>
   rw [if_neg hg1]
   have HNX:Hid (∀ w1,PlAt w1 g ta tl tc M E1.2 → Calls Tryz.prog 255 #[.pointer (some ⟨g,0,none⟩)] w1 fun e w'=>e=.returned (.tuple #[.int .i64 (o:Nat),.bool false]) ∧ Below w1.heap.size w1 w'):=Lib.hid (fun w1 h1=>by have:=HNX.out w1 h1; unfold cmpV at this; rw [if_neg hg1] at this; exact this)
   obtain ⟨op,hopv⟩:∃ op,op=o:=⟨_,rfl⟩
   rw [← hopv] at HNX t0 ⊢
   obtain ⟨V,hV⟩:∃ V,V=overL E2.2 x (op:Int) [E1.1,E2.1]:=⟨_,rfl⟩
   rw [← hV]
   have HOVR:Hid (∀ b pc w1,PlAt w1 g ta tl tc M E2.2 → PsAt w.heap.size w1 b [E1.1,E2.1] → Calls Tryz.prog 199 #[.pointer (some ⟨g,0,none⟩),tkV x,.int .i64 (op:Int),.slice (some ⟨b,0,none⟩) 2 pc] w1 fun e w'=>(∃ v,e=.returned v ∧ CxAt w1.heap.size w' v V.1) ∧ PlAt w' g ta tl tc M V.2 ∧ Kp (K1 g) w1 w'):=Lib.hid (fun b pc w1 h1 h2=>by
    rw [hV]
    obtain ⟨z1,z2,z3⟩:=HLE.out
    refine over_calls g tl tc b pc ta M E2.2 x (op:Int) [E1.1,E2.1] w.heap.size w1 h1 h2 (fun c hc=>?_) (fun c hc=>?_) (by rw [hcat1]; omega) (Nat.le_refl 2)
    ·simp only [List.mem_cons,List.not_mem_nil,or_false] at hc
     rcases hc with rfl | rfl
     ·exact net_ne HN1.out
     ·exact net_ne HN2.out
    ·simp only [List.mem_cons,List.not_mem_nil,or_false] at hc
     rcases hc with rfl | rfl
     ·exact z2
     ·exact z3)
   unfold tkV at HOVR
   clear h hsum hn hv hE hop hop1 hm1 c1 ho hn6 h0 hs her hqm hms hn2 esk c2 hCM htk hpk hx l1 l2 l3 l4 l5 hcat1 hcat2 HLE HN1 HN2 hg1 hopv hV
   go_enter Tryz.func235,Tryz.ntmps235
   go_wp2_with fail
   refine HS1.out.mono ?_
   rintro e w1 ⟨⟨v,rfl,nv,rfl,hn⟩,k1,k2⟩
   obtain ⟨va1,vc1,hnv⟩:=hn.slice
   obtain ⟨kl1,hkl⟩:∃ kl1,kl1=E1.1.ns.length:=⟨_,rfl⟩
   rw [← hkl] at hnv
   subst hnv
   obtain ⟨d1,hd⟩:∃ d1,d1=E1.1.d:=⟨_,rfl⟩
   rw [← hd]
   have HD1:=Lib.hid hd
   have HR1:=Lib.hid (HR0.out.kp k2 hne0)
   have HP1:=Lib.hid k1
   have HK1:=Lib.hid ((Kp.of_below HB0.out).trans k2)
   have HN1:Hid (NsAt w.heap.size w1 (.slice va1 kl1 vc1) E1.1.ns):=Lib.hid (hn.base HB0.out.size)
   have hw1:=HR1.out.lt
   have hgw1:=HP1.out.lt
   have hne1:¬ w1.heap.size=g:=by omega
   clear k1 k2 hn hkl hd
   go_wp2_with fail
   have hA:Below w1.heap.size w1 (w1.alloc (.cells #[.slice va1 kl1 vc1,.int .i64 (d1:Nat)] 136)):=(Below.refl _ _).alloc (Nat.le_refl _) _
   have hAA:=Ho.new w1 #[.slice va1 kl1 vc1,.int .i64 (d1:Nat)] 136 rfl
   refine (HNX.out _ (HP1.out.below hA)).mono ?_
   rintro e w2 ⟨rfl,k1⟩
   have hB2:=hA.trans (k1.mono hA.size)
   have HR2:=Lib.hid (HR1.out.below hB2)
   have HP2:=Lib.hid (HP1.out.below hB2)
   have HK2:=Lib.hid (HK1.out.below hB2)
   have HN2:=Lib.hid (HN1.out.below hB2)
   have HA2:=Lib.hid (hAA.below k1)
   clear k1 hB2 hA hAA
   go_wp2_with fail
   refine (HTK.out _ HP2.out).mono ?_
   rintro e w3 ⟨rfl,k1,k2⟩
   have HR3:=Lib.hid (HR2.out.kp k2 hne0)
   have HA3:=Lib.hid (HA2.out.kp k2 hne1)
   have HN3:=Lib.hid (HN2.out.kp HP2.out.cblk k2)
   have HP3:=Lib.hid k1
   have HK3:=Lib.hid (HK2.out.trans k2)
   have hgw3:=HP3.out.lt
   have hne3:¬ w3.heap.size=g:=by omega
   clear k1 k2
   go_wp2_with fail
   have hA:Below w3.heap.size w3 (w3.alloc (.cells #[.int .i64 (x.k:Nat),.string ⟨x.t.toArray⟩,.int .i64 (x.line:Nat),.int .i64 (x.col:Nat)] 183)):=(Below.refl _ _).alloc (Nat.le_refl _) _
   have hX4:=Ho.new w3 #[.int .i64 (x.k:Nat),.string ⟨x.t.toArray⟩,.int .i64 (x.line:Nat),.int .i64 (x.col:Nat)] 183 rfl
   have HV4:=Lib.hid (errR_kp HV.out hgl hg (HK3.out.below hA))
   refine (HS2.out _ (HP3.out.below hA) HV4.out).mono ?_
   rintro e w5 ⟨⟨v,rfl,nv,rfl,hn⟩,k1,k2⟩
   obtain ⟨va5,vc5,hnv⟩:=hn.slice
   obtain ⟨kl5,hkl⟩:∃ kl5,kl5=E2.1.ns.length:=⟨_,rfl⟩
   rw [← hkl] at hnv
   subst hnv
   obtain ⟨d5,hd⟩:∃ d5,d5=E2.1.d:=⟨_,rfl⟩
   rw [← hd]
   have HD5:=Lib.hid hd
   have hw13:w1.heap.size < w3.heap.size:=HA3.out.lt
   have HX5:=Lib.hid (hX4.kp k2 hne3)
   have HA5:=Lib.hid ((HA3.out.below hA).kp k2 hne1)
   have HR5:=Lib.hid ((HR3.out.below hA).kp k2 hne0)
   have HN5:=Lib.hid ((HN3.out.below hA).kp (HP3.out.below hA).cblk k2)
   have HP5:=Lib.hid k1
   have HK5:=Lib.hid ((HK3.out.below hA).trans k2)
   have HM5:Hid (NsAt w.heap.size w5 (.slice va5 kl5 vc5) E2.1.ns):=Lib.hid (hn.base (by have:=HR3.out.lt; simp; omega))
   have hgw5:=HP5.out.lt
   have hw35:w3.heap.size < w5.heap.size:=HX5.out.lt
   have hne5:¬ w5.heap.size=g:=by omega
   clear k1 k2 hn hkl hd hA hX4
   obtain ⟨a0,a1,af0,af1⟩:=cx_cells HA5.out
   obtain ⟨x0,x1,x2,x3⟩:=tk_box HX5.out
   have hl1:w1.heap.size < w5.heap.size:=HA5.out.lt
   have hw15:¬ w1.heap.size=w5.heap.size:=by omega
   go_wp2_with fail
   have hA6:Below w5.heap.size w5 (w5.alloc (.cells #[.slice va5 kl5 vc5,.int .i64 (d5:Nat)] 136)):=(Below.refl _ _).alloc (Nat.le_refl _) _
   have hN6:=HN5.out.below hA6
   have hM6:=HM5.out.below hA6
   have hps:=ps_two (b:=w5.heap.size + 1) (c:=E1.1) (d:=E2.1) hN6 hM6 (by simp)
   rw [← HD1.out,← HD5.out] at hps
   have hA7:Below w5.heap.size w5 ((w5.alloc (.cells #[.slice va5 kl5 vc5,.int .i64 (d5:Nat)] 136)).alloc (.cells #[.slice va1 kl1 vc1,.int .i64 (d1:Nat),.slice va5 kl5 vc5,.int .i64 (d5:Nat)] 136)):=hA6.alloc hA6.size _
   have HR6:=Lib.hid (HR5.out.below hA7)
   have HP6:=Lib.hid (HP5.out.below hA7)
   have HK6:=Lib.hid (HK5.out.below hA7)
   refine (HOVR.out _ 2 _ HP6.out hps).mono ?_
   rintro e w7 ⟨⟨v,rfl,nv,rfl,hn⟩,k1,k2⟩
   obtain ⟨va7,vc7,hnv⟩:=hn.slice
   obtain ⟨kl7,hkl⟩:∃ kl7,kl7=V.1.ns.length:=⟨_,rfl⟩
   rw [← hkl] at hnv
   subst hnv
   obtain ⟨d7,hd⟩:∃ d7,d7=V.1.d:=⟨_,rfl⟩
   rw [← hd]
   have HD7:=Lib.hid hd
   have HR7:=Lib.hid (HR6.out.kp k2 hne0)
   have HP7:=Lib.hid k1
   have HK7:=Lib.hid (HK6.out.trans k2)
   have HN7:Hid (NsAt w.heap.size w7 (.slice va7 kl7 vc7) V.1.ns):=Lib.hid (hn.base (by have:=HR6.out.lt; simp at this ⊢; omega))
   clear k1 k2 hn hkl hd a0 a1 af0 af1 x0 x1 x2 x3
   obtain ⟨y0,y1,yf0,yf1⟩:=cx_cells HR7.out
   have hyl:=HR7.out.lt
   go_wp2_with fail
   refine bodyPost_ret (v:=.agg #[.slice va7 kl7 vc7,.int .i64 (d7:Nat)]) ?_ rfl ?_
   ·refine cs_result1 rfl _ _ _ (a:=⟨w.heap.size,0,none⟩) (by rfl) ?_
    go_simp
   skip
   refine ⟨⟨_,rfl,.slice va7 kl7 vc7,by rw [HD7.out],?_⟩,?_,?_⟩
   ·exact ns_set (ns_set HN7.out HR7.out.cblk (by decide)) (Ho.set (o:=0) (v:=.slice va7 kl7 vc7) HR7.out rfl).cblk (by decide)
   ·exact (HP7.out.setT HR7.out.cblk (by decide) (by decide) (by decide)).setT (Ho.set (o:=0) (v:=.slice va7 kl7 vc7) HR7.out rfl).cblk (by decide) (by decide) (by decide)
   ·exact par_setNew (par_setNew HK7.out (Nat.le_refl _) _) (Nat.le_refl _) _
set_option maxHeartbeats 8000000 in
theorem unaryA (g tl tc k:Nat) (ta:Option Addr) (M:List Tk) (p:Pl) (a:Addr) (w:World) (h:PlAt w g ta tl tc M p) (hM:MOk M) (hv:ErrR w a) (hgl:7 < g) (hop:OpOk p)
  (hun:∀ n,n ≤ k → ∀ q w1,PlAt w1 g ta tl tc M q → ErrR w1 a → OpOk q → needP M 10 q ≤ n → Calls Tryz.prog 285 #[.pointer (some ⟨g,0,none⟩)] w1 (XPost g ta tl tc M (exprC M n 10 q z0) w1))
  (hn:needP M 10 p ≤ k + 1) (hs:isP M p [45]=true) (h3:(tkAt M (p.a + 1)).k ≠ 3) :
  Calls Tryz.prog 285 #[.pointer (some ⟨g,0,none⟩)] w (XPost g ta tl tc M (overL (shutP (exprC M k 10 (withinC (skipP p) (tkAt M p.a)) z0).2) (tkAt M p.a) 5 [(exprC M k 10 (withinC (skipP p) (tkAt M p.a)) z0).1]) w):=by
 have HB0:Hid (Below w.heap.size w (w.alloc (.cells #[.slice none 0 0,.int .i64 0] 136))):=Lib.hid ((Below.refl _ _).alloc (Nat.le_refl _) _)
 have HR0:Hid (Ho (w.alloc (.cells #[.slice none 0 0,.int .i64 0] 136)) w.heap.size #[.slice none 0 0,.int .i64 0] 136):=Lib.hid (Ho.new _ _ _ rfl)
 have HP0:=Lib.hid (h.below HB0.out)
 have HV:=Lib.hid hv
 have hg:=h.lt
 have hpa:=h.at'
 have hne0:¬ w.heap.size=g:=by omega
 have HPK:=Lib.hid (peek_calls g tl tc ta M p _ HP0.out hM.len)
 have HCM:=Lib.hid (fun s w1 h1=>comes_calls g tl tc ta M p s w1 h1 hM.len)
 have HTS:=Lib.hid (fun s w1 h1=>takes_calls g tl tc ta M p s w1 h1 hM.len hM.kinds)
 have HTK:=Lib.hid (fun w1 h1=>take_calls g tl tc ta M p w1 h1 hM.len)
 have HP:=Lib.hid h
 have e10:rankP 10=2:=rfl
 obtain ⟨her,hqm⟩:=isP_some hs
 have hopw:OpOk (withinC (skipP p) (tkAt M p.a)):=(hop.skip).within her
 obtain ⟨wa,wo,_,_⟩:=within_at (skipP p) (tkAt M p.a)
 have esk:(skipP p).a=p.a + 1:=rfl
 have hmw:=mu_within (t:=tkAt M p.a) hs
 have hnw:needP M 10 (withinC (skipP p) (tkAt M p.a)) ≤ k:=by have:=rank_le 10; have e1:1 ≤ rankP 10:=rank_pos _; unfold needP at hn ⊢; omega
 have c:=(expr_cok M k 10 (withinC (skipP p) (tkAt M p.a)) hnw (by omega) (by omega)).1 (by unfold joinL; omega)
 have HINN:=Lib.hid (fun w1 h1 h2=>hun k (Nat.le_refl _) (withinC (skipP p) (tkAt M p.a)) w1 h1 h2 hopw hnw)
 have htk:takeC M p=skipP p:=by
  unfold takeC peekC
  rw [if_pos her,if_neg (by have:=hM.kinds _ (List.mem_of_getElem? (tk_at hqm)); omega)]
 have hpk:peekC M p=tkAt M p.a:=by unfold peekC; rw [if_pos her]
 obtain ⟨x,hx⟩:∃ x,x=tkAt M p.a:=⟨_,rfl⟩
 have HAH:=Lib.hid (fun w1 h1=>ahead_calls g tl tc 1 ta M p w1 h1 hM.len (Nat.le_refl 1))
 have hah:aheadC M p 1=tkAt M (p.a + 1):=by unfold aheadC; rw [if_pos her]
 rw [hah] at HAH
 obtain ⟨y,hy⟩:∃ y,y=tkAt M (p.a + 1):=⟨_,rfl⟩
 rw [← hy] at HAH h3
 have t3:((y.k:Int) != 3)=true:=by rw [bne_iff_ne]; omega
 rw [← hx] at HINN c hpk wo wa ⊢
 have hwop:(withinC (skipP p) x).op=p.op + 1:=wo
 obtain ⟨E,hEE⟩:∃ E,E=exprC M k 10 (withinC (skipP p) x) z0:=⟨_,rfl⟩
 rw [← hEE] at HINN c ⊢
 have hEop:E.2.op=p.op + 1:=c.op.trans hwop
 have b1:=hop.1
 have b2:=hop.2.1
 have cl:=c.len
 have ca:=c.a2
 have cd:=c.dep
 have hml:=hM.len
 have HNT:=Lib.hid c.net
 have HWI:=Lib.hid (fun w1 h1 h2=>within_calls g tl tc 285 ta M (skipP p) x a E w1 h1 h2 hgl ⟨by show 0 ≤ p.op; omega,by show p.op ≤ 1000; omega⟩ ⟨by omega,by omega⟩ (enters_of Tryz.func285 (by kernel_rfl) rfl) HINN.out)
 obtain ⟨V,hV⟩:∃ V,V=overL (shutP E.2) x 5 [E.1]:=⟨_,rfl⟩
 rw [← hV]
 have HOVR:Hid (∀ b pc w1,PlAt w1 g ta tl tc M (shutP E.2) → PsAt w.heap.size w1 b [E.1] → Calls Tryz.prog 199 #[.pointer (some ⟨g,0,none⟩),tkV x,.int .i64 5,.slice (some ⟨b,0,none⟩) 1 pc] w1 fun e w'=>(∃ v,e=.returned v ∧ CxAt w1.heap.size w' v V.1) ∧ PlAt w' g ta tl tc M V.2 ∧ Kp (K1 g) w1 w'):=Lib.hid (fun b pc w1 h1 h2=>by
  have hcat:(catN [E.1]).length=E.1.ns.length:=by unfold catN; simp
  rw [hV]
  exact over_calls g tl tc b pc ta M (shutP E.2) x 5 [E.1] w.heap.size w1 h1 h2 (fun c hc=>by rw [List.mem_singleton] at hc; subst hc; exact net_ne HNT.out) (fun c hc=>by rw [List.mem_singleton] at hc; subst hc; omega) (by rw [hcat]; omega) (by show 1 ≤ 2; omega))
 rw [htk,hpk] at HTK
 rw [hpk] at HPK
 have HC1:Hid (∀ w1,PlAt w1 g ta tl tc M p → Calls Tryz.prog 119 #[.pointer (some ⟨g,0,none⟩),.string ⟨#[45]⟩] w1 fun e w'=>e=.returned (.bool true) ∧ Below w1.heap.size w1 w'):=Lib.hid (fun w1 h1=>by
  have:=HCM.out ⟨#[45]⟩ w1 h1
  rw [show (⟨#[45]⟩:ByteArray).data.toList=[45] from rfl,hs] at this
  exact this)
 unfold tkV at HWI HOVR HTK HAH
 have q0:=fun w=>tk_field0 (y.k:Nat) (y.line:Nat) (y.col:Nat) ⟨y.t.toArray⟩ w
 clear h hun hn hv hs hop her hqm hopw wa wo hmw hnw c HINN htk hpk hx hwop hEE hEop cl ca cd hV esk hah hy h3 HCM HTS
 go_enter Tryz.func285,Tryz.ntmps285
 go_wp2_with fail
 refine HPK.out.mono ?_
 rintro e w1 ⟨rfl,k1⟩
 have hB1:=HB0.out.trans (k1.mono HB0.out.size)
 have hR1:=HR0.out.below k1
 have hA:Below w1.heap.size w1 (w1.alloc (.cells #[.int .i64 (x.k:Nat),.string ⟨x.t.toArray⟩,.int .i64 (x.line:Nat),.int .i64 (x.col:Nat)] 183)):=(Below.refl _ _).alloc (Nat.le_refl _) _
 have hX2:=Ho.new w1 #[.int .i64 (x.k:Nat),.string ⟨x.t.toArray⟩,.int .i64 (x.line:Nat),.int .i64 (x.col:Nat)] 183 rfl
 have hB2:=hB1.trans (hA.mono hB1.size)
 have hR2:=hR1.below hA
 have hw1:=hR1.lt
 have hw12:w1.heap.size < (w1.alloc (.cells #[.int .i64 (x.k:Nat),.string ⟨x.t.toArray⟩,.int .i64 (x.line:Nat),.int .i64 (x.col:Nat)] 183)).heap.size:=by simp
 have HX2:=Lib.hid hX2
 have HR2:=Lib.hid hR2
 have HB2:=Lib.hid hB2
 have HP2:=Lib.hid (HP.out.below hB2)
 have hne3:¬ w1.heap.size=g:=by omega
 clear k1 hB1 hR1 hA hX2 hB2 hR2
 unfold tkV
 go_wp2_with fail
 generalize w1.alloc (.cells #[.int .i64 (x.k:Nat),.string ⟨x.t.toArray⟩,.int .i64 (x.line:Nat),.int .i64 (x.col:Nat)] 183)=w2 at HX2 HR2 HB2 HP2 hw12 ⊢
 refine (HC1.out _ HP2.out).mono ?_
 rintro e w3 ⟨rfl,k1⟩
 have HX3:=Lib.hid (HX2.out.below k1)
 have HR3:=Lib.hid (HR2.out.below k1)
 have HB3:=Lib.hid (HB2.out.trans (k1.mono HB2.out.size))
 have HP3:=Lib.hid (HP2.out.below k1)
 clear k1
 go_wp2_with fail
 refine (HAH.out _ HP3.out).mono ?_
 rintro e w6 ⟨rfl,k1⟩
 have HX6:=Lib.hid (HX3.out.below k1)
 have HR6:=Lib.hid (HR3.out.below k1)
 have HB6:=Lib.hid (HB3.out.trans (k1.mono HB3.out.size))
 have HP6:=Lib.hid (HP3.out.below k1)
 clear k1
 go_wp2_with fail
 refine (HTK.out _ HP6.out).mono ?_
 rintro e w4 ⟨rfl,k1,k2⟩
 have HX4:=Lib.hid (HX6.out.kp k2 hne3)
 have HR4:=Lib.hid (HR6.out.kp k2 hne0)
 have HK4:=Lib.hid ((Kp.of_below HB6.out).trans k2)
 have HP4:=Lib.hid k1
 clear k1 k2
 have HV5:=Lib.hid (errR_kp HV.out hgl hg HK4.out)
 have hgw4:=HP4.out.lt
 go_wp2_with fail
 have HS:Hid (∀ W,Ho W w1.heap.size #[.int .i64 (x.k:Nat),.string ⟨x.t.toArray⟩,.int .i64 (x.line:Nat),.int .i64 (x.col:Nat)] 183 → (W.cell? ⟨w1.heap.size,0,none⟩=some (.int .i64 (x.k:Nat)) ∧ W.cell? ⟨w1.heap.size,1,none⟩=some (.string ⟨x.t.toArray⟩) ∧ W.cell? ⟨w1.heap.size,2,none⟩=some (.int .i64 (x.line:Nat)) ∧ W.cell? ⟨w1.heap.size,3,none⟩=some (.int .i64 (x.col:Nat)))):=Lib.hid (fun W h1=>tk_box h1)
 refine wp_region_B (S:=(fun W=>W.cell? ⟨w1.heap.size,0,none⟩=some (.int .i64 (x.k:Nat)) ∧ W.cell? ⟨w1.heap.size,1,none⟩=some (.string ⟨x.t.toArray⟩) ∧ W.cell? ⟨w1.heap.size,2,none⟩=some (.int .i64 (x.line:Nat)) ∧ W.cell? ⟨w1.heap.size,3,none⟩=some (.int .i64 (x.col:Nat)))) [9] (by kernel_rfl) (HS.out w4.drew HX4.out) (fun hH0=>?_)
 refine wpB_take (i:=0) (v:=.pointer (some ⟨g,0,none⟩)) [9] rfl (by kernel_rfl) (by kernel_rfl) (by kernel_rfl) (by kernel_rfl) (fun _ _ _ h=>h) (Or.inl ⟨by kernel_rfl,fun wS hSw=>by (try dsimp only at hSw); go_simp⟩) hH0 ?_
 refine wpB_take (i:=1) (v:=.agg #[.int .i64 (x.k:Nat),.string ⟨x.t.toArray⟩,.int .i64 (x.line:Nat),.int .i64 (x.col:Nat)]) [9] rfl (by kernel_rfl) (by kernel_rfl) (by kernel_rfl) (by kernel_rfl) (fun _ _ _ h=>h) (Or.inl ⟨by kernel_rfl,fun wS hSw=>by (try dsimp only at hSw); go_simp⟩) hH0 ?_
 refine wpB_take (i:=2) (v:=.pointer (some ⟨g,0,none⟩)) [9] rfl (by kernel_rfl) (by kernel_rfl) (by kernel_rfl) (by kernel_rfl) (fun _ _ _ h=>h) (Or.inl ⟨by kernel_rfl,fun wS hSw=>by (try dsimp only at hSw); go_simp⟩) hH0 ?_
 refine wpB_take (i:=3) (v:=.agg #[.int .i64 (x.k:Nat),.string ⟨x.t.toArray⟩,.int .i64 (x.line:Nat),.int .i64 (x.col:Nat)]) [9] rfl (by kernel_rfl) (by kernel_rfl) (by kernel_rfl) (by kernel_rfl) (fun _ _ _ h=>h) (Or.inl ⟨by kernel_rfl,fun wS hSw=>by (try dsimp only at hSw); go_simp⟩) hH0 ?_
 refine wpB_take (i:=4) (v:=.pointer (some ⟨g,0,none⟩)) [9] rfl (by kernel_rfl) (by kernel_rfl) (by kernel_rfl) (by kernel_rfl) (fun _ _ _ h=>h) (Or.inl ⟨by kernel_rfl,fun wS hSw=>by (try dsimp only at hSw); go_simp⟩) hH0 ?_
 refine wpB_take (i:=5) (v:=.func (.func 285) #[.pointer (some ⟨g,0,none⟩)] #[]) [9] rfl (by kernel_rfl) (by kernel_rfl) (by kernel_rfl) (by kernel_rfl) (fun _ _ _ h=>h) (Or.inl ⟨by kernel_rfl,fun wS hSw=>by (try dsimp only at hSw); go_simp⟩) hH0 ?_
 refine wpB_step (i:=6) rfl (by kernel_rfl) (fun K hK=>?_)
 rw [if_pos (by kernel_rfl)]
 go_simp
 refine (HWI.out _ (HP4.out.below ((Below.refl _ _).drew)) (errR_below HV5.out ((Below.refl _ _).drew))).mono ?_
 rintro e w5 ⟨⟨v,rfl,nv,rfl,hn⟩,k1,k2⟩
 obtain ⟨va5,vc5,hnv⟩:=hn.slice
 obtain ⟨kl5,hkl⟩:∃ kl5,kl5=E.1.ns.length:=⟨_,rfl⟩
 rw [← hkl] at hnv
 subst hnv
 obtain ⟨d5,hd⟩:∃ d5,d5=E.1.d:=⟨_,rfl⟩
 rw [← hd]
 have HD5:=Lib.hid hd
 have k3:Kp (K1 g) w4 w5:=(Kp.of_below ((Below.refl _ _).drew)).trans k2
 have HX5:=Lib.hid (HX4.out.kp k3 hne3)
 have HR5:=Lib.hid (HR4.out.kp k3 hne0)
 have HP5:=Lib.hid k1
 have HK5:=Lib.hid (HK4.out.trans k3)
 have HN5:Hid (NsAt w.heap.size w5 (.slice va5 kl5 vc5) E.1.ns):=Lib.hid (hn.base (by have:=HR4.out.lt; show w.heap.size ≤ w4.drew.heap.size; rw [show w4.drew.heap.size=w4.heap.size from rfl]; omega))
 have hgw5:=HP5.out.lt
 clear k1 k2 k3 hn hkl hd
 refine hK.out _ _ (HS.out w5 HX5.out) (fun hH1=>?_)
 clear hK K
 refine wpB_step (i:=7) rfl (by kernel_rfl) (fun K hK=>?_)
 rw [if_pos (by kernel_rfl)]
 go_simp
 have hA6:Below w5.heap.size w5 (w5.alloc (.cells #[.slice va5 kl5 vc5,.int .i64 (d5:Nat)] 136)):=(Below.refl _ _).alloc (Nat.le_refl _) _
 have hps:=ps_one (c:=E.1) HN5.out rfl
 rw [← HD5.out] at hps
 have HPS:=Lib.hid hps
 have HX6:=Lib.hid (HX5.out.below hA6)
 have HR6:=Lib.hid (HR5.out.below hA6)
 have HP6:=Lib.hid (HP5.out.below hA6)
 have HK6:=Lib.hid (HK5.out.below hA6)
 clear hA6 hps
 refine hK.out _ _ (HS.out _ HX6.out) (fun hH2=>?_)
 clear hK K
 refine wpB_step (i:=8) rfl (by kernel_rfl) (fun K hK=>?_)
 rw [if_pos (by kernel_rfl)]
 go_simp
 refine (HOVR.out _ 1 _ HP6.out HPS.out).mono ?_
 rintro e w7 ⟨⟨v,rfl,nv,rfl,hn⟩,k1,k2⟩
 obtain ⟨va7,vc7,hnv⟩:=hn.slice
 obtain ⟨kl7,hkl⟩:∃ kl7,kl7=V.1.ns.length:=⟨_,rfl⟩
 rw [← hkl] at hnv
 subst hnv
 obtain ⟨d7,hd⟩:∃ d7,d7=V.1.d:=⟨_,rfl⟩
 rw [← hd]
 have HD7:=Lib.hid hd
 have HX7:=Lib.hid (HX6.out.kp k2 hne3)
 have HR7:=Lib.hid (HR6.out.kp k2 hne0)
 have HP7:=Lib.hid k1
 have HK7:=Lib.hid (HK6.out.trans k2)
 have HN7:Hid (NsAt w.heap.size w7 (.slice va7 kl7 vc7) V.1.ns):=Lib.hid (hn.base (by simp; have:=HR5.out.lt; omega))
 clear k1 k2 hn hkl hd
 refine hK.out _ _ (HS.out w7 HX7.out) (fun hH3=>?_)
 clear hK K
 obtain ⟨y0,y1,yf0,yf1⟩:=cx_cells HR7.out
 have hyl:=HR7.out.lt
 clear hH0 hH1 hH2 hH3
 refine wpB_past (i:=9) rfl (by kernel_rfl) (by kernel_rfl) (fun K hK=>?_)
 rw [if_pos (by kernel_rfl)]
 go_simp
 refine hK.out _ _ ?_
 clear hK K
 refine wpB_done (by kernel_rfl) ?_ _
 go_simp
 go_wp2_with fail
 refine bodyPost_ret (v:=.agg #[.slice va7 kl7 vc7,.int .i64 (d7:Nat)]) ?_ rfl ?_
 ·refine cs_result1 rfl _ _ _ (a:=⟨w.heap.size,0,none⟩) (by rfl) ?_
  go_simp
 skip
 refine ⟨⟨_,rfl,.slice va7 kl7 vc7,by rw [HD7.out],?_⟩,?_,?_⟩
 ·exact ns_set (ns_set HN7.out HR7.out.cblk (by decide)) (Ho.set (o:=0) (v:=.slice va7 kl7 vc7) HR7.out rfl).cblk (by decide)
 ·exact (HP7.out.setT HR7.out.cblk (by decide) (by decide) (by decide)).setT (Ho.set (o:=0) (v:=.slice va7 kl7 vc7) HR7.out rfl).cblk (by decide) (by decide) (by decide)
 ·exact par_setNew (par_setNew HK7.out (Nat.le_refl _) _) (Nat.le_refl _) _
set_option maxHeartbeats 8000000 in
theorem unaryC40 (g tl tc k:Nat) (ta:Option Addr) (M:List Tk) (p:Pl) (a:Addr) (w:World) (h:PlAt w g ta tl tc M p) (hM:MOk M) (hv:ErrR w a) (hgl:7 < g) (hop:OpOk p)
  (hor:∀ n,n ≤ k → ∀ q w1,PlAt w1 g ta tl tc M q → ErrR w1 a → OpOk q → needP M 0 q ≤ n → Calls Tryz.prog 80 #[.pointer (some ⟨g,0,none⟩)] w1 (XPost g ta tl tc M (exprC M n 0 q z0) w1))
  (hn:needP M 10 p ≤ k + 1) (hs:isP M p [40]=true) (hm:isP M p [45]=false) :
  Calls Tryz.prog 285 #[.pointer (some ⟨g,0,none⟩)] w (XPost g ta tl tc M ((exprC M k 0 (withinC (skipP p) (tkAt M p.a)) z0).1,wantP M (shutP (exprC M k 0 (withinC (skipP p) (tkAt M p.a)) z0).2) [41]) w):=by
 have HB0:Hid (Below w.heap.size w (w.alloc (.cells #[.slice none 0 0,.int .i64 0] 136))):=Lib.hid ((Below.refl _ _).alloc (Nat.le_refl _) _)
 have HR0:Hid (Ho (w.alloc (.cells #[.slice none 0 0,.int .i64 0] 136)) w.heap.size #[.slice none 0 0,.int .i64 0] 136):=Lib.hid (Ho.new _ _ _ rfl)
 have HP0:=Lib.hid (h.below HB0.out)
 have HV:=Lib.hid hv
 have hg:=h.lt
 have hpa:=h.at'
 have hne0:¬ w.heap.size=g:=by omega
 have HPK:=Lib.hid (peek_calls g tl tc ta M p _ HP0.out hM.len)
 have HCM:=Lib.hid (fun s w1 h1=>comes_calls g tl tc ta M p s w1 h1 hM.len)
 have HTS:=Lib.hid (fun s w1 h1=>takes_calls g tl tc ta M p s w1 h1 hM.len hM.kinds)
 have HTK:=Lib.hid (fun w1 h1=>take_calls g tl tc ta M p w1 h1 hM.len)
 have HP:=Lib.hid h
 have e10:rankP 10=2:=rfl
 obtain ⟨her,hqm⟩:=isP_some hs
 have hopw:OpOk (withinC (skipP p) (tkAt M p.a)):=(hop.skip).within her
 obtain ⟨wa,wo,_,_⟩:=within_at (skipP p) (tkAt M p.a)
 have esk:(skipP p).a=p.a + 1:=rfl
 have hmw:=mu_within (t:=tkAt M p.a) hs
 have hnw:needP M 0 (withinC (skipP p) (tkAt M p.a)) ≤ k:=by have:=rank_le 0; have e1:1 ≤ rankP 10:=rank_pos _; unfold needP at hn ⊢; omega
 have c:=(expr_cok M k 0 (withinC (skipP p) (tkAt M p.a)) hnw (by omega) (by omega)).1 (by unfold joinL; omega)
 have HINN:=Lib.hid (fun w1 h1 h2=>hor k (Nat.le_refl _) (withinC (skipP p) (tkAt M p.a)) w1 h1 h2 hopw hnw)
 have htk:takeC M p=skipP p:=by
  unfold takeC peekC
  rw [if_pos her,if_neg (by have:=hM.kinds _ (List.mem_of_getElem? (tk_at hqm)); omega)]
 have hpk:peekC M p=tkAt M p.a:=by unfold peekC; rw [if_pos her]
 obtain ⟨x,hx⟩:∃ x,x=tkAt M p.a:=⟨_,rfl⟩
 rw [← hx] at HINN c hpk wo wa ⊢
 have hwop:(withinC (skipP p) x).op=p.op + 1:=wo
 obtain ⟨E,hEE⟩:∃ E,E=exprC M k 0 (withinC (skipP p) x) z0:=⟨_,rfl⟩
 rw [← hEE] at HINN c ⊢
 have hEop:E.2.op=p.op + 1:=c.op.trans hwop
 have b1:=hop.1
 have b2:=hop.2.1
 have HWI:=Lib.hid (fun w1 h1 h2=>within_calls g tl tc 80 ta M (skipP p) x a E w1 h1 h2 hgl ⟨by show 0 ≤ p.op; omega,by show p.op ≤ 1000; omega⟩ ⟨by omega,by omega⟩ (enters_of Tryz.func80 (by kernel_rfl) rfl) HINN.out)
 have HMU:Hid (∀ w1,PlAt w1 g ta tl tc M (shutP E.2) → Calls Tryz.prog 115 #[.pointer (some ⟨g,0,none⟩),.string ⟨#[41]⟩] w1 fun e w'=>e=.returned (.tuple #[]) ∧ PlAt w' g ta tl tc M (wantP M (shutP E.2) [41]) ∧ Kp (K1 g) w1 w'):=Lib.hid (fun w1 h1=>must_calls g tl tc ta M (shutP E.2) ⟨#[41]⟩ w1 h1 hM.len hM.kinds)
 rw [hpk] at HPK
 have HC1:Hid (∀ w1,PlAt w1 g ta tl tc M p → Calls Tryz.prog 119 #[.pointer (some ⟨g,0,none⟩),.string ⟨#[45]⟩] w1 fun e w'=>e=.returned (.bool false) ∧ Below w1.heap.size w1 w'):=Lib.hid (fun w1 h1=>by
  have:=HCM.out ⟨#[45]⟩ w1 h1
  rw [show (⟨#[45]⟩:ByteArray).data.toList=[45] from rfl,hm] at this
  exact this)
 have HT1:Hid (∀ w1,PlAt w1 g ta tl tc M p → Calls Tryz.prog 117 #[.pointer (some ⟨g,0,none⟩),.string ⟨#[40]⟩] w1 fun e w'=>e=.returned (.bool true) ∧ PlAt w' g ta tl tc M (skipP p) ∧ Kp (K1 g) w1 w'):=Lib.hid (fun w1 h1=>by
  have:=HTS.out ⟨#[40]⟩ w1 h1
  rw [show (⟨#[40]⟩:ByteArray).data.toList=[40] from rfl,hs] at this
  exact this)
 unfold tkV at HWI
 clear h hor hn hv hs hm hop her hqm hopw wa wo hmw hnw c HINN htk hpk hx hwop hEE hEop esk HCM HTS HTK
 go_enter Tryz.func285,Tryz.ntmps285
 go_wp2_with fail
 refine HPK.out.mono ?_
 rintro e w1 ⟨rfl,k1⟩
 have hB1:=HB0.out.trans (k1.mono HB0.out.size)
 have hR1:=HR0.out.below k1
 have hA:Below w1.heap.size w1 (w1.alloc (.cells #[.int .i64 (x.k:Nat),.string ⟨x.t.toArray⟩,.int .i64 (x.line:Nat),.int .i64 (x.col:Nat)] 183)):=(Below.refl _ _).alloc (Nat.le_refl _) _
 have hX2:=Ho.new w1 #[.int .i64 (x.k:Nat),.string ⟨x.t.toArray⟩,.int .i64 (x.line:Nat),.int .i64 (x.col:Nat)] 183 rfl
 have hB2:=hB1.trans (hA.mono hB1.size)
 have hR2:=hR1.below hA
 have hw1:=hR1.lt
 have hw12:w1.heap.size < (w1.alloc (.cells #[.int .i64 (x.k:Nat),.string ⟨x.t.toArray⟩,.int .i64 (x.line:Nat),.int .i64 (x.col:Nat)] 183)).heap.size:=by simp
 have HX2:=Lib.hid hX2
 have HR2:=Lib.hid hR2
 have HB2:=Lib.hid hB2
 have HP2:=Lib.hid (HP.out.below hB2)
 have hne3:¬ w1.heap.size=g:=by omega
 clear k1 hB1 hR1 hA hX2 hB2 hR2
 unfold tkV
 go_wp2_with fail
 generalize w1.alloc (.cells #[.int .i64 (x.k:Nat),.string ⟨x.t.toArray⟩,.int .i64 (x.line:Nat),.int .i64 (x.col:Nat)] 183)=w2 at HX2 HR2 HB2 HP2 hw12 ⊢
 refine (HC1.out _ HP2.out).mono ?_
 rintro e w3 ⟨rfl,k1⟩
 have HX3:=Lib.hid (HX2.out.below k1)
 have HR3:=Lib.hid (HR2.out.below k1)
 have HB3:=Lib.hid (HB2.out.trans (k1.mono HB2.out.size))
 have HP3:=Lib.hid (HP2.out.below k1)
 clear k1
 go_wp2_with fail
 refine (HT1.out _ HP3.out).mono ?_
 rintro e w4 ⟨rfl,k1,k2⟩
 have HX4:=Lib.hid (HX3.out.kp k2 hne3)
 have HR4:=Lib.hid (HR3.out.kp k2 hne0)
 have HK4:=Lib.hid ((Kp.of_below HB3.out).trans k2)
 have HP4:=Lib.hid k1
 clear k1 k2
 have HV5:=Lib.hid (errR_kp HV.out hgl hg HK4.out)
 have hgw4:=HP4.out.lt
 obtain ⟨x0,x1,x2,x3⟩:=tk_box HX4.out
 have hxl:=HX4.out.lt
 go_wp2_with fail
 refine (HWI.out _ HP4.out HV5.out).mono ?_
 rintro e w5 ⟨⟨v,rfl,nv,rfl,hn⟩,k1,k2⟩
 obtain ⟨va5,vc5,hnv⟩:=hn.slice
 obtain ⟨kl5,hkl⟩:∃ kl5,kl5=E.1.ns.length:=⟨_,rfl⟩
 rw [← hkl] at hnv
 subst hnv
 obtain ⟨d5,hd⟩:∃ d5,d5=E.1.d:=⟨_,rfl⟩
 rw [← hd]
 have HD5:=Lib.hid hd
 have HX5:=Lib.hid (HX4.out.kp k2 hne3)
 have HR5:=Lib.hid (HR4.out.kp k2 hne0)
 have HP5:=Lib.hid k1
 have HK5:=Lib.hid (HK4.out.trans k2)
 have HN5:Hid (NsAt w.heap.size w5 (.slice va5 kl5 vc5) E.1.ns):=Lib.hid (hn.base (by have:=HR4.out.lt; omega))
 have hgw5:=HP5.out.lt
 have hw15:w1.heap.size < w5.heap.size:=HX5.out.lt
 clear k1 k2 hn hkl hd x0 x1 x2 x3
 go_wp2_with fail
 have hA:Below w5.heap.size w5 (w5.alloc (.cells #[.slice va5 kl5 vc5,.int .i64 (d5:Nat)] 136)):=(Below.refl _ _).alloc (Nat.le_refl _) _
 have hA6:=Ho.new w5 #[.slice va5 kl5 vc5,.int .i64 (d5:Nat)] 136 rfl
 have hne5:¬ w5.heap.size=g:=by omega
 refine (HMU.out _ (HP5.out.below hA)).mono ?_
 rintro e w7 ⟨rfl,k1,k2⟩
 have HR7:=Lib.hid ((HR5.out.below hA).kp k2 hne0)
 have HA7:=Lib.hid (hA6.kp k2 hne5)
 have HK7:=Lib.hid ((HK5.out.below hA).trans k2)
 have HN7:=Lib.hid ((HN5.out.below hA).kp (HP5.out.below hA).cblk k2)
 have HP7:=Lib.hid k1
 have hal:=HA7.out.lt
 clear k1 k2 hA hA6
 obtain ⟨c0,c1,cf0,cf1⟩:=cx_cells HA7.out
 obtain ⟨y0,y1,yf0,yf1⟩:=cx_cells HR7.out
 have hyl:=HR7.out.lt
 go_wp2_with fail
 refine bodyPost_ret (v:=.agg #[.slice va5 kl5 vc5,.int .i64 (d5:Nat)]) ?_ rfl ?_
 ·refine cs_result1 rfl _ _ _ (a:=⟨w.heap.size,0,none⟩) (by rfl) ?_
  go_simp
 skip
 refine ⟨⟨_,rfl,.slice va5 kl5 vc5,by rw [HD5.out],?_⟩,?_,?_⟩
 ·exact ns_set (ns_set HN7.out HR7.out.cblk (by decide)) (Ho.set (o:=0) (v:=.slice va5 kl5 vc5) HR7.out rfl).cblk (by decide)
 ·exact (HP7.out.setT HR7.out.cblk (by decide) (by decide) (by decide)).setT (Ho.set (o:=0) (v:=.slice va5 kl5 vc5) HR7.out rfl).cblk (by decide) (by decide) (by decide)
 ·exact par_setNew (par_setNew HK7.out (Nat.le_refl _) _) (Nat.le_refl _) _
set_option maxHeartbeats 8000000 in
theorem unaryName (g tl tc k:Nat) (ta:Option Addr) (M:List Tk) (p:Pl) (a:Addr) (w:World) (h:PlAt w g ta tl tc M p) (hM:MOk M) (hv:ErrR w a) (hgl:7 < g) (hop:OpOk p)
  (hs:isP M p [40]=false) (hm:isP M p [45]=false) (hname:isNameT (peekC M p)=true) :
  Calls Tryz.prog 285 #[.pointer (some ⟨g,0,none⟩)] w (XPost g ta tl tc M (leafC (peekC M p) 17 (peekC M p).t v0,skipP p) w):=by
 have HB0:Hid (Below w.heap.size w (w.alloc (.cells #[.slice none 0 0,.int .i64 0] 136))):=Lib.hid ((Below.refl _ _).alloc (Nat.le_refl _) _)
 have HR0:Hid (Ho (w.alloc (.cells #[.slice none 0 0,.int .i64 0] 136)) w.heap.size #[.slice none 0 0,.int .i64 0] 136):=Lib.hid (Ho.new _ _ _ rfl)
 have HP0:=Lib.hid (h.below HB0.out)
 have HV:=Lib.hid hv
 have hg:=h.lt
 have hpa:=h.at'
 have hne0:¬ w.heap.size=g:=by omega
 have HPK:=Lib.hid (peek_calls g tl tc ta M p _ HP0.out hM.len)
 have HCM:=Lib.hid (fun s w1 h1=>comes_calls g tl tc ta M p s w1 h1 hM.len)
 have HTS:=Lib.hid (fun s w1 h1=>takes_calls g tl tc ta M p s w1 h1 hM.len hM.kinds)
 have HTK:=Lib.hid (fun w1 h1=>take_calls g tl tc ta M p w1 h1 hM.len)
 have HP:=Lib.hid h
 have htk:takeC M p=skipP p:=by
  unfold takeC
  rw [if_neg (fun e=>by unfold isNameT at hname; rw [e] at hname; cases hname)]
 rw [htk] at HTK
 obtain ⟨x,hx⟩:∃ x,x=peekC M p:=⟨_,rfl⟩
 rw [← hx] at HPK HTK hname ⊢
 have HNM:=Lib.hid (fun w1=>isName_calls x w1)
 rw [hname] at HNM
 have HLF:=Lib.hid (fun w1=>leaf_calls x ⟨17,0,0,⟨x.t.toArray⟩,v0,0,0⟩ w1)
 have HC1:Hid (∀ w1,PlAt w1 g ta tl tc M p → Calls Tryz.prog 119 #[.pointer (some ⟨g,0,none⟩),.string ⟨#[45]⟩] w1 fun e w'=>e=.returned (.bool false) ∧ Below w1.heap.size w1 w'):=Lib.hid (fun w1 h1=>by
  have:=HCM.out ⟨#[45]⟩ w1 h1
  rw [show (⟨#[45]⟩:ByteArray).data.toList=[45] from rfl,hm] at this
  exact this)
 have HT1:Hid (∀ w1,PlAt w1 g ta tl tc M p → Calls Tryz.prog 117 #[.pointer (some ⟨g,0,none⟩),.string ⟨#[40]⟩] w1 fun e w'=>e=.returned (.bool false) ∧ PlAt w' g ta tl tc M p ∧ Kp (K1 g) w1 w'):=Lib.hid (fun w1 h1=>by
  have:=HTS.out ⟨#[40]⟩ w1 h1
  rw [show (⟨#[40]⟩:ByteArray).data.toList=[40] from rfl,hs] at this
  exact this)
 unfold tkV at HNM HTK HLF
 unfold exV at HLF
 clear h hv hs hm hop htk hname hx HCM HTS
 go_enter Tryz.func285,Tryz.ntmps285
 go_wp2_with fail
 refine HPK.out.mono ?_
 rintro e w1 ⟨rfl,k1⟩
 have hB1:=HB0.out.trans (k1.mono HB0.out.size)
 have hR1:=HR0.out.below k1
 have hA:Below w1.heap.size w1 (w1.alloc (.cells #[.int .i64 (x.k:Nat),.string ⟨x.t.toArray⟩,.int .i64 (x.line:Nat),.int .i64 (x.col:Nat)] 183)):=(Below.refl _ _).alloc (Nat.le_refl _) _
 have hX2:=Ho.new w1 #[.int .i64 (x.k:Nat),.string ⟨x.t.toArray⟩,.int .i64 (x.line:Nat),.int .i64 (x.col:Nat)] 183 rfl
 have hB2:=hB1.trans (hA.mono hB1.size)
 have hR2:=hR1.below hA
 have hw1:=hR1.lt
 have hw12:w1.heap.size < (w1.alloc (.cells #[.int .i64 (x.k:Nat),.string ⟨x.t.toArray⟩,.int .i64 (x.line:Nat),.int .i64 (x.col:Nat)] 183)).heap.size:=by simp
 have HX2:=Lib.hid hX2
 have HR2:=Lib.hid hR2
 have HB2:=Lib.hid hB2
 have HP2:=Lib.hid (HP.out.below hB2)
 have hne3:¬ w1.heap.size=g:=by omega
 clear k1 hB1 hR1 hA hX2 hB2 hR2
 unfold tkV
 go_wp2_with fail
 generalize w1.alloc (.cells #[.int .i64 (x.k:Nat),.string ⟨x.t.toArray⟩,.int .i64 (x.line:Nat),.int .i64 (x.col:Nat)] 183)=w2 at HX2 HR2 HB2 HP2 hw12 ⊢
 refine (HC1.out _ HP2.out).mono ?_
 rintro e w3 ⟨rfl,k1⟩
 have HX3:=Lib.hid (HX2.out.below k1)
 have HR3:=Lib.hid (HR2.out.below k1)
 have HB3:=Lib.hid (HB2.out.trans (k1.mono HB2.out.size))
 have HP3:=Lib.hid (HP2.out.below k1)
 clear k1
 go_wp2_with fail
 refine (HT1.out _ HP3.out).mono ?_
 rintro e w4 ⟨rfl,k1,k2⟩
 have HX4:=Lib.hid (HX3.out.kp k2 hne3)
 have HR4:=Lib.hid (HR3.out.kp k2 hne0)
 have HK4:=Lib.hid ((Kp.of_below HB3.out).trans k2)
 have HP4:=Lib.hid k1
 clear k1 k2
 obtain ⟨x0,x1,x2,x3⟩:=tk_box HX4.out
 have hxl:=HX4.out.lt
 go_wp2_with fail
 refine (HNM.out _).mono ?_
 rintro e w5 ⟨rfl,k1⟩
 have HX5:=Lib.hid (HX4.out.below k1)
 have HR5:=Lib.hid (HR4.out.below k1)
 have HK5:=Lib.hid (HK4.out.below k1)
 have HP5:=Lib.hid (HP4.out.below k1)
 clear k1 x0 x1 x2 x3
 go_wp2_with fail
 refine (HTK.out _ HP5.out).mono ?_
 rintro e w6 ⟨rfl,k1,k2⟩
 have HX6:=Lib.hid (HX5.out.kp k2 hne3)
 have HR6:=Lib.hid (HR5.out.kp k2 hne0)
 have HK6:=Lib.hid (HK5.out.trans k2)
 have HP6:=Lib.hid k1
 clear k1 k2
 obtain ⟨x0,x1,x2,x3⟩:=tk_box HX6.out
 have hxl6:=HX6.out.lt
 go_wp2_with fail
 refine (HLF.out _).mono ?_
 rintro e w7 ⟨⟨v,rfl,nv,rfl,hn⟩,k1⟩
 obtain ⟨va7,vc7,rfl⟩:=hn.slice
 have HR7:=Lib.hid (HR6.out.below k1)
 have HK7:=Lib.hid (HK6.out.below k1)
 have HP7:=Lib.hid (HP6.out.below k1)
 have HN7:Hid (NsAt w.heap.size w7 (.slice va7 1 vc7) (leafC x 17 x.t v0).ns):=Lib.hid (hn.base (by have:=HR6.out.lt; omega))
 clear k1 hn x0 x1 x2 x3
 obtain ⟨y0,y1,yf0,yf1⟩:=cx_cells HR7.out
 have hyl:=HR7.out.lt
 go_wp2_with fail
 refine bodyPost_ret (v:=.agg #[.slice va7 1 vc7,.int .i64 1]) ?_ rfl ?_
 ·refine cs_result1 rfl _ _ _ (a:=⟨w.heap.size,0,none⟩) (by rfl) ?_
  go_simp
 refine ⟨⟨_,rfl,.slice va7 1 vc7,rfl,?_⟩,?_,?_⟩
 ·exact ns_set (ns_set HN7.out HR7.out.cblk (by decide)) (Ho.set (o:=0) (v:=.slice va7 1 vc7) HR7.out rfl).cblk (by decide)
 ·exact (HP7.out.setT HR7.out.cblk (by decide) (by decide) (by decide)).setT (Ho.set (o:=0) (v:=.slice va7 1 vc7) HR7.out rfl).cblk (by decide) (by decide) (by decide)
 ·exact par_setNew (par_setNew HK7.out (Nat.le_refl _) _) (Nat.le_refl _) _
set_option maxHeartbeats 8000000 in
theorem unaryVal (g tl tc k:Nat) (ta:Option Addr) (M:List Tk) (p:Pl) (a:Addr) (w:World) (h:PlAt w g ta tl tc M p) (hM:MOk M) (hv:ErrR w a) (hgl:7 < g) (hop:OpOk p)
  (hs:isP M p [40]=false) (hm:isP M p [45]=false) (hname:isNameT (peekC M p)=false) :
  Calls Tryz.prog 285 #[.pointer (some ⟨g,0,none⟩)] w (XPost g ta tl tc M (leafC (peekC M p) 1 [] (valueC M p).1,(valueC M p).2) w):=by
 have HB0:Hid (Below w.heap.size w (w.alloc (.cells #[.slice none 0 0,.int .i64 0] 136))):=Lib.hid ((Below.refl _ _).alloc (Nat.le_refl _) _)
 have HR0:Hid (Ho (w.alloc (.cells #[.slice none 0 0,.int .i64 0] 136)) w.heap.size #[.slice none 0 0,.int .i64 0] 136):=Lib.hid (Ho.new _ _ _ rfl)
 have HP0:=Lib.hid (h.below HB0.out)
 have HV:=Lib.hid hv
 have hg:=h.lt
 have hpa:=h.at'
 have hne0:¬ w.heap.size=g:=by omega
 have HPK:=Lib.hid (peek_calls g tl tc ta M p _ HP0.out hM.len)
 have HCM:=Lib.hid (fun s w1 h1=>comes_calls g tl tc ta M p s w1 h1 hM.len)
 have HTS:=Lib.hid (fun s w1 h1=>takes_calls g tl tc ta M p s w1 h1 hM.len hM.kinds)
 have HTK:=Lib.hid (fun w1 h1=>take_calls g tl tc ta M p w1 h1 hM.len)
 have HP:=Lib.hid h
 obtain ⟨x,hx⟩:∃ x,x=peekC M p:=⟨_,rfl⟩
 have HVL:=Lib.hid (fun w1 h1 h2=>value_calls g tl tc ta M p a w1 h1 hM h2 hgl)
 rw [← hx] at HPK hname ⊢
 have HNM:=Lib.hid (fun w1=>isName_calls x w1)
 rw [hname] at HNM
 obtain ⟨r,hr⟩:∃ r,r=valueC M p:=⟨_,rfl⟩
 rw [← hr] at HVL ⊢
 have HLF:=Lib.hid (fun w1=>leaf_calls x ⟨1,0,0,⟨#[]⟩,r.1,0,0⟩ w1)
 have HC1:Hid (∀ w1,PlAt w1 g ta tl tc M p → Calls Tryz.prog 119 #[.pointer (some ⟨g,0,none⟩),.string ⟨#[45]⟩] w1 fun e w'=>e=.returned (.bool false) ∧ Below w1.heap.size w1 w'):=Lib.hid (fun w1 h1=>by
  have:=HCM.out ⟨#[45]⟩ w1 h1
  rw [show (⟨#[45]⟩:ByteArray).data.toList=[45] from rfl,hm] at this
  exact this)
 have HT1:Hid (∀ w1,PlAt w1 g ta tl tc M p → Calls Tryz.prog 117 #[.pointer (some ⟨g,0,none⟩),.string ⟨#[40]⟩] w1 fun e w'=>e=.returned (.bool false) ∧ PlAt w' g ta tl tc M p ∧ Kp (K1 g) w1 w'):=Lib.hid (fun w1 h1=>by
  have:=HTS.out ⟨#[40]⟩ w1 h1
  rw [show (⟨#[40]⟩:ByteArray).data.toList=[40] from rfl,hs] at this
  exact this)
 unfold tkV at HNM HLF
 unfold exV at HLF
 unfold vdV at HVL
 clear h hv hs hm hop hname hx hr HCM HTS HTK
 go_enter Tryz.func285,Tryz.ntmps285
 go_wp2_with fail
 refine HPK.out.mono ?_
 rintro e w1 ⟨rfl,k1⟩
 have hB1:=HB0.out.trans (k1.mono HB0.out.size)
 have hR1:=HR0.out.below k1
 have hA:Below w1.heap.size w1 (w1.alloc (.cells #[.int .i64 (x.k:Nat),.string ⟨x.t.toArray⟩,.int .i64 (x.line:Nat),.int .i64 (x.col:Nat)] 183)):=(Below.refl _ _).alloc (Nat.le_refl _) _
 have hX2:=Ho.new w1 #[.int .i64 (x.k:Nat),.string ⟨x.t.toArray⟩,.int .i64 (x.line:Nat),.int .i64 (x.col:Nat)] 183 rfl
 have hB2:=hB1.trans (hA.mono hB1.size)
 have hR2:=hR1.below hA
 have hw1:=hR1.lt
 have hw12:w1.heap.size < (w1.alloc (.cells #[.int .i64 (x.k:Nat),.string ⟨x.t.toArray⟩,.int .i64 (x.line:Nat),.int .i64 (x.col:Nat)] 183)).heap.size:=by simp
 have HX2:=Lib.hid hX2
 have HR2:=Lib.hid hR2
 have HB2:=Lib.hid hB2
 have HP2:=Lib.hid (HP.out.below hB2)
 have hne3:¬ w1.heap.size=g:=by omega
 clear k1 hB1 hR1 hA hX2 hB2 hR2
 unfold tkV
 go_wp2_with fail
 generalize w1.alloc (.cells #[.int .i64 (x.k:Nat),.string ⟨x.t.toArray⟩,.int .i64 (x.line:Nat),.int .i64 (x.col:Nat)] 183)=w2 at HX2 HR2 HB2 HP2 hw12 ⊢
 refine (HC1.out _ HP2.out).mono ?_
 rintro e w3 ⟨rfl,k1⟩
 have HX3:=Lib.hid (HX2.out.below k1)
 have HR3:=Lib.hid (HR2.out.below k1)
 have HB3:=Lib.hid (HB2.out.trans (k1.mono HB2.out.size))
 have HP3:=Lib.hid (HP2.out.below k1)
 clear k1
 go_wp2_with fail
 refine (HT1.out _ HP3.out).mono ?_
 rintro e w4 ⟨rfl,k1,k2⟩
 have HX4:=Lib.hid (HX3.out.kp k2 hne3)
 have HR4:=Lib.hid (HR3.out.kp k2 hne0)
 have HK4:=Lib.hid ((Kp.of_below HB3.out).trans k2)
 have HP4:=Lib.hid k1
 clear k1 k2
 obtain ⟨x0,x1,x2,x3⟩:=tk_box HX4.out
 have hxl:=HX4.out.lt
 go_wp2_with fail
 refine (HNM.out _).mono ?_
 rintro e w5 ⟨rfl,k1⟩
 have HX5:=Lib.hid (HX4.out.below k1)
 have HR5:=Lib.hid (HR4.out.below k1)
 have HK5:=Lib.hid (HK4.out.below k1)
 have HP5:=Lib.hid (HP4.out.below k1)
 clear k1 x0 x1 x2 x3
 have HV5:=Lib.hid (errR_kp HV.out hgl hg HK5.out)
 go_wp2_with fail
 have HS:Hid (∀ W,Ho W w1.heap.size #[.int .i64 (x.k:Nat),.string ⟨x.t.toArray⟩,.int .i64 (x.line:Nat),.int .i64 (x.col:Nat)] 183 → (W.cell? ⟨w1.heap.size,0,none⟩=some (.int .i64 (x.k:Nat)) ∧ W.cell? ⟨w1.heap.size,1,none⟩=some (.string ⟨x.t.toArray⟩) ∧ W.cell? ⟨w1.heap.size,2,none⟩=some (.int .i64 (x.line:Nat)) ∧ W.cell? ⟨w1.heap.size,3,none⟩=some (.int .i64 (x.col:Nat)))):=Lib.hid (fun W h1=>tk_box h1)
 refine wp_region_B (S:=(fun W=>W.cell? ⟨w1.heap.size,0,none⟩=some (.int .i64 (x.k:Nat)) ∧ W.cell? ⟨w1.heap.size,1,none⟩=some (.string ⟨x.t.toArray⟩) ∧ W.cell? ⟨w1.heap.size,2,none⟩=some (.int .i64 (x.line:Nat)) ∧ W.cell? ⟨w1.heap.size,3,none⟩=some (.int .i64 (x.col:Nat)))) [5] (by kernel_rfl) (HS.out w5.drew HX5.out) (fun hH0=>?_)
 refine wpB_take (i:=0) (v:=.agg #[.int .i64 (x.k:Nat),.string ⟨x.t.toArray⟩,.int .i64 (x.line:Nat),.int .i64 (x.col:Nat)]) [5] rfl (by kernel_rfl) (by kernel_rfl) (by kernel_rfl) (by kernel_rfl) (fun _ _ _ h=>h) (Or.inl ⟨by kernel_rfl,fun wS hSw=>by (try dsimp only at hSw); go_simp⟩) hH0 ?_
 refine wpB_take (i:=1) (v:=.pointer (some ⟨g,0,none⟩)) [5] rfl (by kernel_rfl) (by kernel_rfl) (by kernel_rfl) (by kernel_rfl) (fun _ _ _ h=>h) (Or.inl ⟨by kernel_rfl,fun wS hSw=>by (try dsimp only at hSw); go_simp⟩) hH0 ?_
 refine wpB_step (i:=2) rfl (by kernel_rfl) (fun K hK=>?_)
 rw [if_pos (by kernel_rfl)]
 go_simp
 refine (HVL.out _ (HP5.out.below ((Below.refl _ _).drew)) (errR_below HV5.out ((Below.refl _ _).drew))).mono ?_
 rintro e w6 ⟨rfl,k1,k2⟩
 have k3:Kp (K1 g) w5 w6:=(Kp.of_below ((Below.refl _ _).drew)).trans k2
 have HX6:=Lib.hid (HX5.out.kp k3 hne3)
 have HR6:=Lib.hid (HR5.out.kp k3 hne0)
 have HK6:=Lib.hid (HK5.out.trans k3)
 have HP6:=Lib.hid k1
 clear k1 k2 k3
 refine hK.out _ _ (HS.out w6 HX6.out) (fun hH1=>?_)
 clear hK K
 refine wpB_take (i:=3) (v:=.agg #[.int .i64 1,.int .i64 0,.int .i64 0,.string ⟨#[]⟩,.int .i64 r.1.k,.int .i64 r.1.i,.string r.1.s,.bool r.1.b,.int .i64 0,.int .i64 0]) [5] rfl (by kernel_rfl) (by kernel_rfl) (by kernel_rfl) (by kernel_rfl) (fun _ _ _ h=>h) (Or.inl ⟨by kernel_rfl,fun wS hSw=>by (try dsimp only at hSw); go_simp⟩) hH1 ?_
 refine wpB_step (i:=4) rfl (by kernel_rfl) (fun K hK=>?_)
 rw [if_pos (by kernel_rfl)]
 go_simp
 refine (HLF.out _).mono ?_
 rintro e w7 ⟨⟨v,rfl,nv,rfl,hn⟩,k1⟩
 obtain ⟨va7,vc7,rfl⟩:=hn.slice
 have HX7:=Lib.hid (HX6.out.below k1)
 have HR7:=Lib.hid (HR6.out.below k1)
 have HK7:=Lib.hid (HK6.out.below k1)
 have HP7:=Lib.hid (HP6.out.below k1)
 have HN7:Hid (NsAt w.heap.size w7 (.slice va7 1 vc7) (leafC x 1 [] r.1).ns):=Lib.hid (hn.base (by have:=HR6.out.lt; omega))
 clear k1 hn
 refine hK.out _ _ (HS.out w7 HX7.out) (fun hH2=>?_)
 clear hK K
 obtain ⟨y0,y1,yf0,yf1⟩:=cx_cells HR7.out
 have hyl:=HR7.out.lt
 clear hH0 hH1 hH2
 refine wpB_past (i:=5) rfl (by kernel_rfl) (by kernel_rfl) (fun K hK=>?_)
 rw [if_pos (by kernel_rfl)]
 go_simp
 refine hK.out _ _ ?_
 clear hK K
 refine wpB_done (by kernel_rfl) ?_ _
 go_simp
 go_wp2_with fail
 refine bodyPost_ret (v:=.agg #[.slice va7 1 vc7,.int .i64 1]) ?_ rfl ?_
 ·refine cs_result1 rfl _ _ _ (a:=⟨w.heap.size,0,none⟩) (by rfl) ?_
  go_simp
 refine ⟨⟨_,rfl,.slice va7 1 vc7,rfl,?_⟩,?_,?_⟩
 ·exact ns_set (ns_set HN7.out HR7.out.cblk (by decide)) (Ho.set (o:=0) (v:=.slice va7 1 vc7) HR7.out rfl).cblk (by decide)
 ·exact (HP7.out.setT HR7.out.cblk (by decide) (by decide) (by decide)).setT (Ho.set (o:=0) (v:=.slice va7 1 vc7) HR7.out rfl).cblk (by decide) (by decide) (by decide)
 ·exact par_setNew (par_setNew HK7.out (Nat.le_refl _) _) (Nat.le_refl _) _
set_option maxHeartbeats 8000000 in
theorem unarySig (g tl tc k:Nat) (ta:Option Addr) (M:List Tk) (p:Pl) (a:Addr) (w:World) (h:PlAt w g ta tl tc M p) (hM:MOk M) (hv:ErrR w a) (hgl:7 < g) (hop:OpOk p)
  (hs:isP M p [40]=false) (hm:isP M p [45]=true) (hname:isNameT (peekC M p)=false) (h3:(tkAt M (p.a + 1)).k=3) :
  Calls Tryz.prog 285 #[.pointer (some ⟨g,0,none⟩)] w (XPost g ta tl tc M (leafC (peekC M p) 1 [] (valueC M p).1,(valueC M p).2) w):=by
 have HB0:Hid (Below w.heap.size w (w.alloc (.cells #[.slice none 0 0,.int .i64 0] 136))):=Lib.hid ((Below.refl _ _).alloc (Nat.le_refl _) _)
 have HR0:Hid (Ho (w.alloc (.cells #[.slice none 0 0,.int .i64 0] 136)) w.heap.size #[.slice none 0 0,.int .i64 0] 136):=Lib.hid (Ho.new _ _ _ rfl)
 have HP0:=Lib.hid (h.below HB0.out)
 have HV:=Lib.hid hv
 have hg:=h.lt
 have hpa:=h.at'
 have hne0:¬ w.heap.size=g:=by omega
 have HPK:=Lib.hid (peek_calls g tl tc ta M p _ HP0.out hM.len)
 have HCM:=Lib.hid (fun s w1 h1=>comes_calls g tl tc ta M p s w1 h1 hM.len)
 have HTS:=Lib.hid (fun s w1 h1=>takes_calls g tl tc ta M p s w1 h1 hM.len hM.kinds)
 have HTK:=Lib.hid (fun w1 h1=>take_calls g tl tc ta M p w1 h1 hM.len)
 have HP:=Lib.hid h
 obtain ⟨x,hx⟩:∃ x,x=peekC M p:=⟨_,rfl⟩
 have HVL:=Lib.hid (fun w1 h1 h2=>value_calls g tl tc ta M p a w1 h1 hM h2 hgl)
 rw [← hx] at HPK hname ⊢
 have HNM:=Lib.hid (fun w1=>isName_calls x w1)
 rw [hname] at HNM
 obtain ⟨r,hr⟩:∃ r,r=valueC M p:=⟨_,rfl⟩
 rw [← hr] at HVL ⊢
 have HLF:=Lib.hid (fun w1=>leaf_calls x ⟨1,0,0,⟨#[]⟩,r.1,0,0⟩ w1)
 have HC1:Hid (∀ w1,PlAt w1 g ta tl tc M p → Calls Tryz.prog 119 #[.pointer (some ⟨g,0,none⟩),.string ⟨#[45]⟩] w1 fun e w'=>e=.returned (.bool true) ∧ Below w1.heap.size w1 w'):=Lib.hid (fun w1 h1=>by
  have:=HCM.out ⟨#[45]⟩ w1 h1
  rw [show (⟨#[45]⟩:ByteArray).data.toList=[45] from rfl,hm] at this
  exact this)
 have HT1:Hid (∀ w1,PlAt w1 g ta tl tc M p → Calls Tryz.prog 117 #[.pointer (some ⟨g,0,none⟩),.string ⟨#[40]⟩] w1 fun e w'=>e=.returned (.bool false) ∧ PlAt w' g ta tl tc M p ∧ Kp (K1 g) w1 w'):=Lib.hid (fun w1 h1=>by
  have:=HTS.out ⟨#[40]⟩ w1 h1
  rw [show (⟨#[40]⟩:ByteArray).data.toList=[40] from rfl,hs] at this
  exact this)
 have her:=(isP_some hm).1
 have HAH:=Lib.hid (fun w1 h1=>ahead_calls g tl tc 1 ta M p w1 h1 hM.len (Nat.le_refl 1))
 have hah:aheadC M p 1=tkAt M (p.a + 1):=by unfold aheadC; rw [if_pos her]
 rw [hah] at HAH
 obtain ⟨y,hy⟩:∃ y,y=tkAt M (p.a + 1):=⟨_,rfl⟩
 rw [← hy] at HAH h3
 have t3:((y.k:Int) != 3)=false:=by rw [h3]; rfl
 have q0:=fun w=>tk_field0 (y.k:Nat) (y.line:Nat) (y.col:Nat) ⟨y.t.toArray⟩ w
 unfold tkV at HAH
 clear her hah hy h3
 unfold tkV at HNM HLF
 unfold exV at HLF
 unfold vdV at HVL
 clear h hv hs hm hop hname hx hr HCM HTS HTK
 go_enter Tryz.func285,Tryz.ntmps285
 go_wp2_with fail
 refine HPK.out.mono ?_
 rintro e w1 ⟨rfl,k1⟩
 have hB1:=HB0.out.trans (k1.mono HB0.out.size)
 have hR1:=HR0.out.below k1
 have hA:Below w1.heap.size w1 (w1.alloc (.cells #[.int .i64 (x.k:Nat),.string ⟨x.t.toArray⟩,.int .i64 (x.line:Nat),.int .i64 (x.col:Nat)] 183)):=(Below.refl _ _).alloc (Nat.le_refl _) _
 have hX2:=Ho.new w1 #[.int .i64 (x.k:Nat),.string ⟨x.t.toArray⟩,.int .i64 (x.line:Nat),.int .i64 (x.col:Nat)] 183 rfl
 have hB2:=hB1.trans (hA.mono hB1.size)
 have hR2:=hR1.below hA
 have hw1:=hR1.lt
 have hw12:w1.heap.size < (w1.alloc (.cells #[.int .i64 (x.k:Nat),.string ⟨x.t.toArray⟩,.int .i64 (x.line:Nat),.int .i64 (x.col:Nat)] 183)).heap.size:=by simp
 have HX2:=Lib.hid hX2
 have HR2:=Lib.hid hR2
 have HB2:=Lib.hid hB2
 have HP2:=Lib.hid (HP.out.below hB2)
 have hne3:¬ w1.heap.size=g:=by omega
 clear k1 hB1 hR1 hA hX2 hB2 hR2
 unfold tkV
 go_wp2_with fail
 generalize w1.alloc (.cells #[.int .i64 (x.k:Nat),.string ⟨x.t.toArray⟩,.int .i64 (x.line:Nat),.int .i64 (x.col:Nat)] 183)=w2 at HX2 HR2 HB2 HP2 hw12 ⊢
 refine (HC1.out _ HP2.out).mono ?_
 rintro e w3 ⟨rfl,k1⟩
 have HX3:=Lib.hid (HX2.out.below k1)
 have HR3:=Lib.hid (HR2.out.below k1)
 have HB3:=Lib.hid (HB2.out.trans (k1.mono HB2.out.size))
 have HP3:=Lib.hid (HP2.out.below k1)
 clear k1
 go_wp2_with fail
 refine (HAH.out _ HP3.out).mono ?_
 rintro e w8 ⟨rfl,k1⟩
 have HX8:=Lib.hid (HX3.out.below k1)
 have HR8:=Lib.hid (HR3.out.below k1)
 have HB8:=Lib.hid (HB3.out.trans (k1.mono HB3.out.size))
 have HP8:=Lib.hid (HP3.out.below k1)
 clear k1
 go_wp2_with fail
 refine (HT1.out _ HP8.out).mono ?_
 rintro e w4 ⟨rfl,k1,k2⟩
 have HX4:=Lib.hid (HX8.out.kp k2 hne3)
 have HR4:=Lib.hid (HR8.out.kp k2 hne0)
 have HK4:=Lib.hid ((Kp.of_below HB8.out).trans k2)
 have HP4:=Lib.hid k1
 clear k1 k2
 obtain ⟨x0,x1,x2,x3⟩:=tk_box HX4.out
 have hxl:=HX4.out.lt
 go_wp2_with fail
 refine (HNM.out _).mono ?_
 rintro e w5 ⟨rfl,k1⟩
 have HX5:=Lib.hid (HX4.out.below k1)
 have HR5:=Lib.hid (HR4.out.below k1)
 have HK5:=Lib.hid (HK4.out.below k1)
 have HP5:=Lib.hid (HP4.out.below k1)
 clear k1 x0 x1 x2 x3
 have HV5:=Lib.hid (errR_kp HV.out hgl hg HK5.out)
 go_wp2_with fail
 have HS:Hid (∀ W,Ho W w1.heap.size #[.int .i64 (x.k:Nat),.string ⟨x.t.toArray⟩,.int .i64 (x.line:Nat),.int .i64 (x.col:Nat)] 183 → (W.cell? ⟨w1.heap.size,0,none⟩=some (.int .i64 (x.k:Nat)) ∧ W.cell? ⟨w1.heap.size,1,none⟩=some (.string ⟨x.t.toArray⟩) ∧ W.cell? ⟨w1.heap.size,2,none⟩=some (.int .i64 (x.line:Nat)) ∧ W.cell? ⟨w1.heap.size,3,none⟩=some (.int .i64 (x.col:Nat)))):=Lib.hid (fun W h1=>tk_box h1)
 refine wp_region_B (S:=(fun W=>W.cell? ⟨w1.heap.size,0,none⟩=some (.int .i64 (x.k:Nat)) ∧ W.cell? ⟨w1.heap.size,1,none⟩=some (.string ⟨x.t.toArray⟩) ∧ W.cell? ⟨w1.heap.size,2,none⟩=some (.int .i64 (x.line:Nat)) ∧ W.cell? ⟨w1.heap.size,3,none⟩=some (.int .i64 (x.col:Nat)))) [5] (by kernel_rfl) (HS.out w5.drew HX5.out) (fun hH0=>?_)
 refine wpB_take (i:=0) (v:=.agg #[.int .i64 (x.k:Nat),.string ⟨x.t.toArray⟩,.int .i64 (x.line:Nat),.int .i64 (x.col:Nat)]) [5] rfl (by kernel_rfl) (by kernel_rfl) (by kernel_rfl) (by kernel_rfl) (fun _ _ _ h=>h) (Or.inl ⟨by kernel_rfl,fun wS hSw=>by (try dsimp only at hSw); go_simp⟩) hH0 ?_
 refine wpB_take (i:=1) (v:=.pointer (some ⟨g,0,none⟩)) [5] rfl (by kernel_rfl) (by kernel_rfl) (by kernel_rfl) (by kernel_rfl) (fun _ _ _ h=>h) (Or.inl ⟨by kernel_rfl,fun wS hSw=>by (try dsimp only at hSw); go_simp⟩) hH0 ?_
 refine wpB_step (i:=2) rfl (by kernel_rfl) (fun K hK=>?_)
 rw [if_pos (by kernel_rfl)]
 go_simp
 refine (HVL.out _ (HP5.out.below ((Below.refl _ _).drew)) (errR_below HV5.out ((Below.refl _ _).drew))).mono ?_
 rintro e w6 ⟨rfl,k1,k2⟩
 have k3:Kp (K1 g) w5 w6:=(Kp.of_below ((Below.refl _ _).drew)).trans k2
 have HX6:=Lib.hid (HX5.out.kp k3 hne3)
 have HR6:=Lib.hid (HR5.out.kp k3 hne0)
 have HK6:=Lib.hid (HK5.out.trans k3)
 have HP6:=Lib.hid k1
 clear k1 k2 k3
 refine hK.out _ _ (HS.out w6 HX6.out) (fun hH1=>?_)
 clear hK K
 refine wpB_take (i:=3) (v:=.agg #[.int .i64 1,.int .i64 0,.int .i64 0,.string ⟨#[]⟩,.int .i64 r.1.k,.int .i64 r.1.i,.string r.1.s,.bool r.1.b,.int .i64 0,.int .i64 0]) [5] rfl (by kernel_rfl) (by kernel_rfl) (by kernel_rfl) (by kernel_rfl) (fun _ _ _ h=>h) (Or.inl ⟨by kernel_rfl,fun wS hSw=>by (try dsimp only at hSw); go_simp⟩) hH1 ?_
 refine wpB_step (i:=4) rfl (by kernel_rfl) (fun K hK=>?_)
 rw [if_pos (by kernel_rfl)]
 go_simp
 refine (HLF.out _).mono ?_
 rintro e w7 ⟨⟨v,rfl,nv,rfl,hn⟩,k1⟩
 obtain ⟨va7,vc7,rfl⟩:=hn.slice
 have HX7:=Lib.hid (HX6.out.below k1)
 have HR7:=Lib.hid (HR6.out.below k1)
 have HK7:=Lib.hid (HK6.out.below k1)
 have HP7:=Lib.hid (HP6.out.below k1)
 have HN7:Hid (NsAt w.heap.size w7 (.slice va7 1 vc7) (leafC x 1 [] r.1).ns):=Lib.hid (hn.base (by have:=HR6.out.lt; omega))
 clear k1 hn
 refine hK.out _ _ (HS.out w7 HX7.out) (fun hH2=>?_)
 clear hK K
 obtain ⟨y0,y1,yf0,yf1⟩:=cx_cells HR7.out
 have hyl:=HR7.out.lt
 clear hH0 hH1 hH2
 refine wpB_past (i:=5) rfl (by kernel_rfl) (by kernel_rfl) (fun K hK=>?_)
 rw [if_pos (by kernel_rfl)]
 go_simp
 refine hK.out _ _ ?_
 clear hK K
 refine wpB_done (by kernel_rfl) ?_ _
 go_simp
 go_wp2_with fail
 refine bodyPost_ret (v:=.agg #[.slice va7 1 vc7,.int .i64 1]) ?_ rfl ?_
 ·refine cs_result1 rfl _ _ _ (a:=⟨w.heap.size,0,none⟩) (by rfl) ?_
  go_simp
 refine ⟨⟨_,rfl,.slice va7 1 vc7,rfl,?_⟩,?_,?_⟩
 ·exact ns_set (ns_set HN7.out HR7.out.cblk (by decide)) (Ho.set (o:=0) (v:=.slice va7 1 vc7) HR7.out rfl).cblk (by decide)
 ·exact (HP7.out.setT HR7.out.cblk (by decide) (by decide) (by decide)).setT (Ho.set (o:=0) (v:=.slice va7 1 vc7) HR7.out rfl).cblk (by decide) (by decide) (by decide)
 ·exact par_setNew (par_setNew HK7.out (Nat.le_refl _) _) (Nat.le_refl _) _
set_option maxHeartbeats 4000000 in
theorem or_calls (g tl tc k:Nat) (ta:Option Addr) (M:List Tk) (p:Pl) (a:Addr) (w:World) (h:PlAt w g ta tl tc M p) (hM:MOk M) (hv:ErrR w a) (hgl:7 < g) (hop:OpOk p)
  (hpart:∀ n,n ≤ k → ∀ q w1,PlAt w1 g ta tl tc M q → ErrR w1 a → OpOk q → needP M 2 q ≤ n → Calls Tryz.prog 145 #[.pointer (some ⟨g,0,none⟩)] w1 (XPost g ta tl tc M (exprC M n 2 q z0) w1))
  (hn:needP M 0 p ≤ k + 1) :
  Calls Tryz.prog 80 #[.pointer (some ⟨g,0,none⟩)] w (XPost g ta tl tc M (exprC M (k + 1) 0 p z0) w):=by
 have HB0:Hid (Below w.heap.size w (w.alloc (.cells #[.slice none 0 0,.int .i64 0] 136))):=Lib.hid ((Below.refl _ _).alloc (Nat.le_refl _) _)
 have HR0:Hid (Ho (w.alloc (.cells #[.slice none 0 0,.int .i64 0] 136)) w.heap.size #[.slice none 0 0,.int .i64 0] 136):=Lib.hid (Ho.new _ _ _ rfl)
 have hg:=h.lt
 have hne0:¬ w.heap.size=g:=by omega
 have HJ:=Lib.hid (joined_calls g tl tc 145 146 k 0 ta M p a _ (h.below HB0.out) hM (errR_below hv HB0.out) hgl hop (by omega) (enters_of Tryz.func145 (by kernel_rfl) rfl) (enters_of Tryz.func146 (by kernel_rfl) rfl) hpart (fun q w1 h1=>nextOr_calls g tl tc ta M q w1 h1 hM.len) hn)
 generalize exprC M (k + 1) 0 p z0=E at HJ ⊢
 clear h hpart hn hv hop
 go_enter Tryz.func80,Tryz.ntmps80
 go_wp2_with fail
 refine HJ.out.mono ?_
 rintro e w2 ⟨⟨v,rfl,nv,rfl,hn⟩,k1,k2⟩
 obtain ⟨va2,vc2,hnv⟩:=hn.slice
 obtain ⟨kl2,hkl⟩:∃ kl2,kl2=E.1.ns.length:=⟨_,rfl⟩
 rw [← hkl] at hnv
 subst hnv
 obtain ⟨d2,hd⟩:∃ d2,d2=E.1.d:=⟨_,rfl⟩
 rw [← hd]
 have HD2:=Lib.hid hd
 have HR2:=Lib.hid (HR0.out.kp k2 hne0)
 have HP2:=Lib.hid k1
 have HK2:=Lib.hid ((Kp.of_below HB0.out).trans k2)
 have HN2:Hid (NsAt w.heap.size w2 (.slice va2 kl2 vc2) E.1.ns):=Lib.hid (hn.base HB0.out.size)
 clear k1 k2 hn hkl hd
 obtain ⟨y0,y1,yf0,yf1⟩:=cx_cells HR2.out
 have hyl:=HR2.out.lt
 go_wp2_with fail
 refine bodyPost_ret (v:=.agg #[.slice va2 kl2 vc2,.int .i64 (d2:Nat)]) ?_ rfl ?_
 ·refine cs_result1 rfl _ _ _ (a:=⟨w.heap.size,0,none⟩) (by rfl) ?_
  go_simp
 refine ⟨⟨_,rfl,.slice va2 kl2 vc2,by rw [HD2.out],?_⟩,?_,?_⟩
 ·exact ns_set (ns_set HN2.out HR2.out.cblk (by decide)) (Ho.set (o:=0) (v:=.slice va2 kl2 vc2) HR2.out rfl).cblk (by decide)
 ·exact (HP2.out.setT HR2.out.cblk (by decide) (by decide) (by decide)).setT (Ho.set (o:=0) (v:=.slice va2 kl2 vc2) HR2.out rfl).cblk (by decide) (by decide) (by decide)
 ·exact par_setNew (par_setNew HK2.out (Nat.le_refl _) _) (Nat.le_refl _) _
set_option maxHeartbeats 4000000 in
theorem and_calls (g tl tc k:Nat) (ta:Option Addr) (M:List Tk) (p:Pl) (a:Addr) (w:World) (h:PlAt w g ta tl tc M p) (hM:MOk M) (hv:ErrR w a) (hgl:7 < g) (hop:OpOk p)
  (hpart:∀ n,n ≤ k → ∀ q w1,PlAt w1 g ta tl tc M q → ErrR w1 a → OpOk q → needP M 4 q ≤ n → Calls Tryz.prog 200 #[.pointer (some ⟨g,0,none⟩)] w1 (XPost g ta tl tc M (exprC M n 4 q z0) w1))
  (hn:needP M 2 p ≤ k + 1) :
  Calls Tryz.prog 145 #[.pointer (some ⟨g,0,none⟩)] w (XPost g ta tl tc M (exprC M (k + 1) 2 p z0) w):=by
 have HB0:Hid (Below w.heap.size w (w.alloc (.cells #[.slice none 0 0,.int .i64 0] 136))):=Lib.hid ((Below.refl _ _).alloc (Nat.le_refl _) _)
 have HR0:Hid (Ho (w.alloc (.cells #[.slice none 0 0,.int .i64 0] 136)) w.heap.size #[.slice none 0 0,.int .i64 0] 136):=Lib.hid (Ho.new _ _ _ rfl)
 have hg:=h.lt
 have hne0:¬ w.heap.size=g:=by omega
 have HJ:=Lib.hid (joined_calls g tl tc 200 201 k 2 ta M p a _ (h.below HB0.out) hM (errR_below hv HB0.out) hgl hop (by omega) (enters_of Tryz.func200 (by kernel_rfl) rfl) (enters_of Tryz.func201 (by kernel_rfl) rfl) hpart (fun q w1 h1=>nextAnd_calls g tl tc ta M q w1 h1 hM.len) hn)
 generalize exprC M (k + 1) 2 p z0=E at HJ ⊢
 clear h hpart hn hv hop
 go_enter Tryz.func145,Tryz.ntmps145
 go_wp2_with fail
 refine HJ.out.mono ?_
 rintro e w2 ⟨⟨v,rfl,nv,rfl,hn⟩,k1,k2⟩
 obtain ⟨va2,vc2,hnv⟩:=hn.slice
 obtain ⟨kl2,hkl⟩:∃ kl2,kl2=E.1.ns.length:=⟨_,rfl⟩
 rw [← hkl] at hnv
 subst hnv
 obtain ⟨d2,hd⟩:∃ d2,d2=E.1.d:=⟨_,rfl⟩
 rw [← hd]
 have HD2:=Lib.hid hd
 have HR2:=Lib.hid (HR0.out.kp k2 hne0)
 have HP2:=Lib.hid k1
 have HK2:=Lib.hid ((Kp.of_below HB0.out).trans k2)
 have HN2:Hid (NsAt w.heap.size w2 (.slice va2 kl2 vc2) E.1.ns):=Lib.hid (hn.base HB0.out.size)
 clear k1 k2 hn hkl hd
 obtain ⟨y0,y1,yf0,yf1⟩:=cx_cells HR2.out
 have hyl:=HR2.out.lt
 go_wp2_with fail
 refine bodyPost_ret (v:=.agg #[.slice va2 kl2 vc2,.int .i64 (d2:Nat)]) ?_ rfl ?_
 ·refine cs_result1 rfl _ _ _ (a:=⟨w.heap.size,0,none⟩) (by rfl) ?_
  go_simp
 refine ⟨⟨_,rfl,.slice va2 kl2 vc2,by rw [HD2.out],?_⟩,?_,?_⟩
 ·exact ns_set (ns_set HN2.out HR2.out.cblk (by decide)) (Ho.set (o:=0) (v:=.slice va2 kl2 vc2) HR2.out rfl).cblk (by decide)
 ·exact (HP2.out.setT HR2.out.cblk (by decide) (by decide) (by decide)).setT (Ho.set (o:=0) (v:=.slice va2 kl2 vc2) HR2.out rfl).cblk (by decide) (by decide) (by decide)
 ·exact par_setNew (par_setNew HK2.out (Nat.le_refl _) _) (Nat.le_refl _) _
set_option maxHeartbeats 4000000 in
theorem sum_calls (g tl tc k:Nat) (ta:Option Addr) (M:List Tk) (p:Pl) (a:Addr) (w:World) (h:PlAt w g ta tl tc M p) (hM:MOk M) (hv:ErrR w a) (hgl:7 < g) (hop:OpOk p)
  (hpart:∀ n,n ≤ k → ∀ q w1,PlAt w1 g ta tl tc M q → ErrR w1 a → OpOk q → needP M 8 q ≤ n → Calls Tryz.prog 273 #[.pointer (some ⟨g,0,none⟩)] w1 (XPost g ta tl tc M (exprC M n 8 q z0) w1))
  (hn:needP M 6 p ≤ k + 1) :
  Calls Tryz.prog 254 #[.pointer (some ⟨g,0,none⟩)] w (XPost g ta tl tc M (exprC M (k + 1) 6 p z0) w):=by
 have HB0:Hid (Below w.heap.size w (w.alloc (.cells #[.slice none 0 0,.int .i64 0] 136))):=Lib.hid ((Below.refl _ _).alloc (Nat.le_refl _) _)
 have HR0:Hid (Ho (w.alloc (.cells #[.slice none 0 0,.int .i64 0] 136)) w.heap.size #[.slice none 0 0,.int .i64 0] 136):=Lib.hid (Ho.new _ _ _ rfl)
 have hg:=h.lt
 have hne0:¬ w.heap.size=g:=by omega
 have HJ:=Lib.hid (joined_calls g tl tc 273 274 k 6 ta M p a _ (h.below HB0.out) hM (errR_below hv HB0.out) hgl hop (by omega) (enters_of Tryz.func273 (by kernel_rfl) rfl) (enters_of Tryz.func274 (by kernel_rfl) rfl) hpart (fun q w1 h1=>nextSum_calls g tl tc ta M q w1 h1 hM.len) hn)
 generalize exprC M (k + 1) 6 p z0=E at HJ ⊢
 clear h hpart hn hv hop
 go_enter Tryz.func254,Tryz.ntmps254
 go_wp2_with fail
 refine HJ.out.mono ?_
 rintro e w2 ⟨⟨v,rfl,nv,rfl,hn⟩,k1,k2⟩
 obtain ⟨va2,vc2,hnv⟩:=hn.slice
 obtain ⟨kl2,hkl⟩:∃ kl2,kl2=E.1.ns.length:=⟨_,rfl⟩
 rw [← hkl] at hnv
 subst hnv
 obtain ⟨d2,hd⟩:∃ d2,d2=E.1.d:=⟨_,rfl⟩
 rw [← hd]
 have HD2:=Lib.hid hd
 have HR2:=Lib.hid (HR0.out.kp k2 hne0)
 have HP2:=Lib.hid k1
 have HK2:=Lib.hid ((Kp.of_below HB0.out).trans k2)
 have HN2:Hid (NsAt w.heap.size w2 (.slice va2 kl2 vc2) E.1.ns):=Lib.hid (hn.base HB0.out.size)
 clear k1 k2 hn hkl hd
 obtain ⟨y0,y1,yf0,yf1⟩:=cx_cells HR2.out
 have hyl:=HR2.out.lt
 go_wp2_with fail
 refine bodyPost_ret (v:=.agg #[.slice va2 kl2 vc2,.int .i64 (d2:Nat)]) ?_ rfl ?_
 ·refine cs_result1 rfl _ _ _ (a:=⟨w.heap.size,0,none⟩) (by rfl) ?_
  go_simp
 refine ⟨⟨_,rfl,.slice va2 kl2 vc2,by rw [HD2.out],?_⟩,?_,?_⟩
 ·exact ns_set (ns_set HN2.out HR2.out.cblk (by decide)) (Ho.set (o:=0) (v:=.slice va2 kl2 vc2) HR2.out rfl).cblk (by decide)
 ·exact (HP2.out.setT HR2.out.cblk (by decide) (by decide) (by decide)).setT (Ho.set (o:=0) (v:=.slice va2 kl2 vc2) HR2.out rfl).cblk (by decide) (by decide) (by decide)
 ·exact par_setNew (par_setNew HK2.out (Nat.le_refl _) _) (Nat.le_refl _) _
set_option maxHeartbeats 4000000 in
theorem product_calls (g tl tc k:Nat) (ta:Option Addr) (M:List Tk) (p:Pl) (a:Addr) (w:World) (h:PlAt w g ta tl tc M p) (hM:MOk M) (hv:ErrR w a) (hgl:7 < g) (hop:OpOk p)
  (hpart:∀ n,n ≤ k → ∀ q w1,PlAt w1 g ta tl tc M q → ErrR w1 a → OpOk q → needP M 10 q ≤ n → Calls Tryz.prog 285 #[.pointer (some ⟨g,0,none⟩)] w1 (XPost g ta tl tc M (exprC M n 10 q z0) w1))
  (hn:needP M 8 p ≤ k + 1) :
  Calls Tryz.prog 273 #[.pointer (some ⟨g,0,none⟩)] w (XPost g ta tl tc M (exprC M (k + 1) 8 p z0) w):=by
 have HB0:Hid (Below w.heap.size w (w.alloc (.cells #[.slice none 0 0,.int .i64 0] 136))):=Lib.hid ((Below.refl _ _).alloc (Nat.le_refl _) _)
 have HR0:Hid (Ho (w.alloc (.cells #[.slice none 0 0,.int .i64 0] 136)) w.heap.size #[.slice none 0 0,.int .i64 0] 136):=Lib.hid (Ho.new _ _ _ rfl)
 have hg:=h.lt
 have hne0:¬ w.heap.size=g:=by omega
 have HJ:=Lib.hid (joined_calls g tl tc 285 286 k 8 ta M p a _ (h.below HB0.out) hM (errR_below hv HB0.out) hgl hop (by omega) (enters_of Tryz.func285 (by kernel_rfl) rfl) (enters_of Tryz.func286 (by kernel_rfl) rfl) hpart (fun q w1 h1=>nextProduct_calls g tl tc ta M q w1 h1 hM.len) hn)
 generalize exprC M (k + 1) 8 p z0=E at HJ ⊢
 clear h hpart hn hv hop
 go_enter Tryz.func273,Tryz.ntmps273
 go_wp2_with fail
 refine HJ.out.mono ?_
 rintro e w2 ⟨⟨v,rfl,nv,rfl,hn⟩,k1,k2⟩
 obtain ⟨va2,vc2,hnv⟩:=hn.slice
 obtain ⟨kl2,hkl⟩:∃ kl2,kl2=E.1.ns.length:=⟨_,rfl⟩
 rw [← hkl] at hnv
 subst hnv
 obtain ⟨d2,hd⟩:∃ d2,d2=E.1.d:=⟨_,rfl⟩
 rw [← hd]
 have HD2:=Lib.hid hd
 have HR2:=Lib.hid (HR0.out.kp k2 hne0)
 have HP2:=Lib.hid k1
 have HK2:=Lib.hid ((Kp.of_below HB0.out).trans k2)
 have HN2:Hid (NsAt w.heap.size w2 (.slice va2 kl2 vc2) E.1.ns):=Lib.hid (hn.base HB0.out.size)
 clear k1 k2 hn hkl hd
 obtain ⟨y0,y1,yf0,yf1⟩:=cx_cells HR2.out
 have hyl:=HR2.out.lt
 go_wp2_with fail
 refine bodyPost_ret (v:=.agg #[.slice va2 kl2 vc2,.int .i64 (d2:Nat)]) ?_ rfl ?_
 ·refine cs_result1 rfl _ _ _ (a:=⟨w.heap.size,0,none⟩) (by rfl) ?_
  go_simp
 refine ⟨⟨_,rfl,.slice va2 kl2 vc2,by rw [HD2.out],?_⟩,?_,?_⟩
 ·exact ns_set (ns_set HN2.out HR2.out.cblk (by decide)) (Ho.set (o:=0) (v:=.slice va2 kl2 vc2) HR2.out rfl).cblk (by decide)
 ·exact (HP2.out.setT HR2.out.cblk (by decide) (by decide) (by decide)).setT (Ho.set (o:=0) (v:=.slice va2 kl2 vc2) HR2.out rfl).cblk (by decide) (by decide) (by decide)
 ·exact par_setNew (par_setNew HK2.out (Nat.le_refl _) _) (Nat.le_refl _) _
def fnOf:Nat → Nat
 | 0=>80 | 2=>145 | 4=>200 | 5=>235 | 6=>254 | 8=>273 | _=>285
theorem unaryC_sign {M:List Tk} {p:Pl} {r1 r2:Cx × Pl} (h:isP M p [45]=true) (h3:(tkAt M (p.a + 1)).k ≠ 3):unaryC M p r1 r2=overL (shutP r1.2) (tkAt M p.a) 5 [r1.1]:=by unfold unaryC; rw [if_pos ⟨h,h3⟩]
theorem unaryC_open {M:List Tk} {p:Pl} {r1 r2:Cx × Pl} (h:isP M p [45]=false) (h4:isP M p [40]=true):unaryC M p r1 r2=(r2.1,wantP M (shutP r2.2) [41]):=by unfold unaryC; rw [h,if_neg (fun k=>by cases k.1),if_pos h4]
theorem unaryC_name {M:List Tk} {p:Pl} {r1 r2:Cx × Pl} (h:isP M p [45]=false) (h4:isP M p [40]=false) (h1:isNameT (peekC M p)=true):unaryC M p r1 r2=(leafC (peekC M p) 17 (peekC M p).t v0,skipP p):=by unfold unaryC; rw [h,if_neg (fun k=>by cases k.1),h4,if_neg (by decide),if_pos h1]
theorem unaryC_val {M:List Tk} {p:Pl} {r1 r2:Cx × Pl} (h:¬ (isP M p [45]=true ∧ (tkAt M (p.a + 1)).k ≠ 3)) (h4:isP M p [40]=false) (h1:isNameT (peekC M p)=false):unaryC M p r1 r2=(leafC (peekC M p) 1 [] (valueC M p).1,(valueC M p).2):=by unfold unaryC; rw [if_neg h,h4,if_neg (by decide),h1,if_neg (by decide)]
theorem minus_not {M:List Tk} {p:Pl} (h:isP M p [45]=true):isP M p [40]=false ∧ isNameT (peekC M p)=false:=by
 obtain ⟨h1,h2⟩:=isP_at h
 obtain ⟨h3,h4⟩:=isP_some h
 constructor
 ·cases e:isP M p [40] with
  | false=>rfl
  | true=>have h5:=(isP_at e).2; rw [h2] at h5; exact absurd h5 (by decide)
 ·unfold peekC isNameT
  rw [if_pos h3]
  have h6:((tkAt M p.a).k == 1)=false:=by rw [beq_eq_false_iff_ne]; omega
  rw [h6]; rfl
theorem expr_calls (g tl tc:Nat) (ta:Option Addr) (M:List Tk) (a:Addr) (hM:MOk M) (hgl:7 < g) :
  ∀ (n lv:Nat),¬ joinL lv → lv ≤ 10 → ∀ (p:Pl) (w:World),PlAt w g ta tl tc M p → ErrR w a → OpOk p → needP M lv p ≤ n → Calls Tryz.prog (fnOf lv) #[.pointer (some ⟨g,0,none⟩)] w (XPost g ta tl tc M (exprC M n lv p z0) w):=by
 intro n
 induction n using Nat.strongRecOn with
 | ind n ih =>
  intro lv hj hl p w h hv hop hn
  have hr:=rank_pos lv
  obtain ⟨k,rfl⟩:∃ k,n=k + 1:=⟨n - 1,by unfold needP at hn; omega⟩
  have I:∀ lv',¬ joinL lv' → lv' ≤ 10 → ∀ m,m ≤ k → ∀ q w1,PlAt w1 g ta tl tc M q → ErrR w1 a → OpOk q → needP M lv' q ≤ m → Calls Tryz.prog (fnOf lv') #[.pointer (some ⟨g,0,none⟩)] w1 (XPost g ta tl tc M (exprC M m lv' q z0) w1):=fun lv' hj' hl' m hm q w1 h1 h2 h3 h4=>ih m (by omega) lv' hj' hl' q w1 h1 h2 h3 h4
  have hcases:lv=0 ∨ lv=2 ∨ lv=4 ∨ lv=5 ∨ lv=6 ∨ lv=8 ∨ lv=10:=by unfold joinL at hj; omega
  rcases hcases with rfl | rfl | rfl | rfl | rfl | rfl | rfl
  ·exact or_calls g tl tc k ta M p a w h hM hv hgl hop (I 2 (by unfold joinL; omega) (by omega)) hn
  ·exact and_calls g tl tc k ta M p a w h hM hv hgl hop (I 4 (by unfold joinL; omega) (by omega)) hn
  ·exact not_calls g tl tc k ta M p a w h hM hv hgl hop (I 4 (by unfold joinL; omega) (by omega)) (I 5 (by unfold joinL; omega) (by omega)) hn
  ·exact comparison_calls g tl tc k ta M p a w h hM hv hgl hop (I 6 (by unfold joinL; omega) (by omega)) hn
  ·exact sum_calls g tl tc k ta M p a w h hM hv hgl hop (I 8 (by unfold joinL; omega) (by omega)) hn
  ·exact product_calls g tl tc k ta M p a w h hM hv hgl hop (I 10 (by unfold joinL; omega) (by omega)) hn
  ·rw [exprC_10]
   show Calls Tryz.prog 285 _ w _
   cases hm:isP M p [45]
   ·cases hs:isP M p [40]
    ·cases hnm:isNameT (peekC M p)
     ·rw [unaryC_val (fun k=>by rw [hm] at k; cases k.1) hs hnm]
      exact unaryVal g tl tc k ta M p a w h hM hv hgl hop hs hm hnm
     ·rw [unaryC_name hm hs hnm]
      exact unaryName g tl tc k ta M p a w h hM hv hgl hop hs hm hnm
    ·rw [unaryC_open hm hs]
     exact unaryC40 g tl tc k ta M p a w h hM hv hgl hop (I 0 (by unfold joinL; omega) (by omega)) hn hs hm
   ·obtain ⟨hs,hnm⟩:=minus_not hm
    by_cases h3:(tkAt M (p.a + 1)).k=3
    ·rw [unaryC_val (fun k=>k.2 h3) hs hnm]
     exact unarySig g tl tc k ta M p a w h hM hv hgl hop hs hm hnm h3
    ·rw [unaryC_sign hm h3]
     exact unaryA g tl tc k ta M p a w h hM hv hgl hop (I 10 (by unfold joinL; omega) (by omega)) hn hm h3
end Go.Proofs.YtiafhfchjhffhaaGreatDoor
