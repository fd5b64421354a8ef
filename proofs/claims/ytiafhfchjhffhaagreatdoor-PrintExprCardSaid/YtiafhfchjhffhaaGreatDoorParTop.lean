/- paclaim: ParTop -/
import Derived.Test.YtiafhfchjhffhaaGreatDoorLowPa3
import Derived.Test.YtiafhfchjhffhaaGreatDoorLowPa7
import Derived.Test.YtiafhfchjhffhaaGreatDoorLowPa8
import Derived.Test.YtiafhfchjhffhaaGreatDoorLowAs
import Derived.Test.YtiafhfchjhffhaaGreatDoorLowLexA
namespace Go.Proofs.YtiafhfchjhffhaaGreatDoor
open Go.RowKit
set_option linter.unusedVariables false
theorem erOk_cases {p:Pl} (h:ErOk p) (h0:p.er ≠ 0):p.er=16 ∨ p.er=5 ∨ p.er=13:=by
 rcases h with e | e | e | e
 ·exact absurd e h0
 ·exact .inr (.inl e)
 ·exact .inr (.inr e)
 ·exact .inl e
theorem cx_field0 (a:Option Addr) (k c:Nat) (d:Int) (w:World):(Instr.field 136 (.agg #[.slice a k c,.int .i64 d]) 0).run Tryz.prog w=.ok (.slice a k c) w:=by kernel_rfl
theorem PlAt.kpT {w W:World} {g tl tc b:Nat} {ta:Option Addr} {M:List Tk} {p:Pl} {T:TypeId} (h:PlAt w g ta tl tc M p) (hb:CBlk w b T) (h1:T ≠ 167) (h2:T ≠ 183) (h3:T ≠ 173) (hk:Kp (K1 b) w W):PlAt W g ta tl tc M p:=by
 have key:∀ k U,CBlk w k U → T ≠ U → W.heap[k]? = w.heap[k]? := fun k U c hne=>hk.block k c.lt (fun e=>hb.ne c hne e.symm)
 obtain ⟨ev,k1,k2⟩:=h.obj
 exact ⟨⟨ev,(key g _ h.cblk h1).trans k1,k2.kept (fun k c=>key k _ c h3)⟩,h.tk.kept (fun k c=>key k _ c h2),h.at'⟩
theorem kp_trans_new {S:Nat → Prop} {a b c:World} {r:Nat} (h:Kp S a b) (k:Kp (K1 r) b c) (hr:a.heap.size ≤ r):Kp S a c :=
 ⟨k.os.trans h.os,k.tape.trans h.tape,k.output.trans h.output,Nat.le_trans h.size k.size,fun j hj hn=>(k.block j (Nat.lt_of_lt_of_le hj h.size) (fun e=>by have e2:j=r:=e; omega)).trans (h.block j hj hn)⟩
theorem k1_below {B g:Nat} {w a b:World} (h:Kp (K1 g) a b) (hb:Below B w a) (hB:B ≤ a.heap.size) (hg:B ≤ g):Below B w b:=h.to_below hb hB (fun k e=>by have e2:k=g:=e; omega)
theorem errT_kp {w w':World} {g:Nat} (h:ErrT w) (hl:1 < g) (hk:Kp (K1 g) w w'):ErrT w' :=
 (World.cell?_of_block (a:=⟨1,0,none⟩) (hk.block _ (block_lt_of_cell h) (by show ¬ 1=g; omega))).trans h
set_option maxHeartbeats 2000000 in
theorem exprF1_calls (g tl tc:Nat) (ta:Option Addr) (M:List Tk) (a:Addr) (w:World) (h:PlAt w g ta tl tc M pl0) (hM:MOk M) (hm6:M.length ≤ 65536) (hv:ErrR w a) (hgl:7 < g) :
  Calls Tryz.prog 78 #[.pointer (some ⟨g,0,none⟩)] w fun e w'=>(∃ v,e=.returned v ∧ NsAt w.heap.size w' v (linkS 0 (xC M).1.ns 0 []).1) ∧ PlAt w' g ta tl tc M (xC M).2 ∧ Kp (K1 g) w w':=by
 have HO:=Lib.hid (expr_calls g tl tc ta M a hM hgl (needP M 0 pl0) 0 (by unfold joinL; omega) (by omega) pl0 w h hv ⟨by decide,by decide,fun _=>by decide⟩ (Nat.le_refl _))
 have HO:Hid (Calls Tryz.prog 80 #[.pointer (some ⟨g,0,none⟩)] w (XPost g ta tl tc M (xC M) w)):=HO
 have c:=x_cok M
 have HC:=Lib.hid c
 have hl:(xC M).1.ns.length ≤ 1000000:=by
  have h1:=c.len
  have h2:=c.a2
  omega
 have hg:=h.lt
 generalize xC M=C at HO HC hl ⊢
 clear c h hv
 go_enter Tryz.func78,Tryz.ntmps78
 go_wp2_with fail
 refine HO.out.mono ?_
 rintro e w1 ⟨⟨v,rfl,nv,rfl,hn⟩,k1,k2⟩
 obtain ⟨gb,cb,rfl,hgb,hcb,_⟩:=hn.block (net_ne HC.out.net)
 have HL:=Lib.hid (linked_calls w.heap.size gb cb C.1.ns w1 hn ⟨1,HC.out.net 0⟩ (net_ne HC.out.net) hl)
 have q0:=fun w=>cx_field0 (some ⟨gb,0,none⟩) C.1.ns.length cb (C.1.d:Nat) w
 have HP1:=Lib.hid k1
 have HK1:=Lib.hid k2
 have HGB:=Lib.hid hcb
 clear k1 k2 hn hcb
 go_wp2_with fail
 refine HL.out.mono ?_
 rintro e w2 ⟨rfl,k1,k2⟩
 have HN2:=Lib.hid k1
 have HK2:=Lib.hid k2
 clear k1 k2
 go_wp2_with fail
 go_ret
 exact ⟨⟨_,rfl,HN2.out⟩,HP1.out.kpT HGB.out (by decide) (by decide) (by decide) HK2.out,kp_trans_new HK1.out HK2.out hgb⟩
def ExprPost (x:Except (Nat × Nat × Nat) (List Ex)) (w:World) (e:Ending) (w':World):Prop :=
 (match x with
 | .ok L=>∃ v,e=.returned (.tuple #[v,failV 0 0 0]) ∧ NsAt w.heap.size w' v L
 | .error (er,l,c)=>er ≠ 0 ∧ e=.returned (.tuple #[.slice none 0 0,failV er l c])) ∧ Below w.heap.size w w'
theorem ep_ok {x:Except (Nat × Nat × Nat) (List Ex)} {L:List Ex} {w w':World} {e:Ending} (hx:x=.ok L) (h:∃ v,e=.returned (.tuple #[v,failV 0 0 0]) ∧ NsAt w.heap.size w' v L) (hb:Below w.heap.size w w'):ExprPost x w e w':=by
 subst hx; exact ⟨h,hb⟩
theorem ep_no {x:Except (Nat × Nat × Nat) (List Ex)} {er l c:Nat} {w w':World} {e:Ending} (hx:x=.error (er,l,c)) (h0:er ≠ 0) (h:e=.returned (.tuple #[.slice none 0 0,failV er l c])) (hb:Below w.heap.size w w'):ExprPost x w e w':=by
 subst hx; exact ⟨⟨h0,h⟩,hb⟩
theorem fl_cells {W:World} {b:Nat} {x y z:Value} (h:Ho W b #[x,y,z] 46):W.cell? ⟨b,0,none⟩=some x ∧ W.cell? ⟨b,1,none⟩=some y ∧ W.cell? ⟨b,2,none⟩=some z ∧ W.frozen? ⟨b,0,none⟩=false ∧ W.frozen? ⟨b,1,none⟩=false ∧ W.frozen? ⟨b,2,none⟩=false :=
 ⟨by rw [cell_of_row _ _ 0 _ _ _ h]; rfl,by rw [cell_of_row _ _ 1 _ _ _ h]; rfl,by rw [cell_of_row _ _ 2 _ _ _ h]; rfl,frozen_of_row _ _ 0 _ _ h,frozen_of_row _ _ 1 _ _ h,frozen_of_row _ _ 2 _ _ h⟩
set_option maxHeartbeats 8000000 in
set_option maxRecDepth 100000 in
theorem readX_calls (s:ByteArray) (a:Addr) (w:World) (hs:s.size ≤ 4294967296) (hT:LexT w) (het:ErrT w) (hv:ErrR w a) :
  Calls Tryz.prog 77 #[.string s,.func (.func 78) #[] #[]] w (ExprPost (exprL s.data.toList) w):=by
 have eg:∀ args w,(callFunc 78 args).run Tryz.prog w=.ok (.enter 78 args) w:=enters_of Tryz.func78 (by kernel_rfl) rfl
 have hB0:Below w.heap.size w (w.alloc (.cells #[.int .i64 0,.int .i64 0,.int .i64 0] 46)):=(Below.refl _ _).alloc (Nat.le_refl _) _
 have HB0:=Lib.hid hB0
 have HR0:Hid (Ho (w.alloc (.cells #[.int .i64 0,.int .i64 0,.int .i64 0] 46)) w.heap.size #[.int .i64 0,.int .i64 0,.int .i64 0] 46):=Lib.hid (Ho.new _ _ _ rfl)
 have HX:=lexAll_calls s _ hs (hT.below hB0) (het.below hB0)
 have HTT:=Lib.hid (het.below hB0)
 have HVV:=Lib.hid (errR_below hv hB0)
 have hg1:7 < w.heap.size:=block_lt_of_cell (errCell hv)
 have hg2:1 < w.heap.size:=block_lt_of_cell het
 clear hB0 hs hT het hv
 cases hx:tokL s.data.toList with
 | error e0 =>
  obtain ⟨er,el,ec⟩:=e0
  rw [hx] at HX
  have HX:=Lib.hid HX
  have HV:Hid (exprL s.data.toList=.error (er,el,ec)):=Lib.hid (by unfold exprL; rw [hx])
  clear hx
  go_enter Tryz.func77,Tryz.ntmps77
  go_wp2_with fail
  refine HX.out.mono ?_
  rintro e w1 ⟨⟨her,rfl⟩,k1⟩
  have HR1:=Lib.hid (HR0.out.below k1)
  have HB1:=Lib.hid (HB0.out.trans (k1.mono HB0.out.size))
  have hr1:=HR1.out.lt
  have t0:((er:Int) != 0)=true:=by rw [bne_iff_ne]; omega
  have HER:=Lib.hid her
  clear k1 her
  unfold failV
  obtain ⟨c0,c1,c2,f0,f1,f2⟩:=fl_cells HR1.out
  go_wp2_with fail
  go_region
  all_goals (go_wp2_with fail)
  all_goals (try simp only [Exit.inBlock,Exit.then])
  all_goals (refine bodyPost_ret (v:=.tuple #[.slice none 0 0,failV er el ec]) ?_ rfl ?_)
  ·refine cs_result2 rfl _ _ _ (a:=⟨w.heap.size,0,none⟩) (by rfl) (by rfl) ?_
   unfold failV; go_simp
  ·refine ep_no HV.out HER.out rfl ?_
   repeat' (first | (with_reducible exact HB1.out) | with_reducible refine Below.setCell ?_ (by simp) _ | with_reducible refine Below.alloc ?_ (by simp <;> omega) _ | with_reducible refine Below.drew ?_)
 | ok M =>
  rw [hx] at HX
  have HX:=Lib.hid HX
  obtain ⟨hM,hm6⟩:=tk_mok hx
  have HEX:Hid (exprL s.data.toList=exprX M):=Lib.hid (by unfold exprL; rw [hx])
  have HMO:=Lib.hid hM
  have HM6:=Lib.hid hm6
  have hXX:exprX M=if (endC M (xC M)).er=0 then .ok (linkS 0 (xC M).1.ns 0 []).1 else .error ((endC M (xC M)).er,(endC M (xC M)).line,(endC M (xC M)).col):=rfl
  have HXX:=Lib.hid hXX
  have hend:endC M (xC M)=if (xC M).2.a < M.length then stopP M (xC M).2 16 else (xC M).2:=rfl
  have HEND:=Lib.hid hend
  have HEOK:=Lib.hid (end_ok M)
  clear hx hM hXX hend
  by_cases hst:(xC M).2.a < M.length
  case pos =>
   go_enter Tryz.func77,Tryz.ntmps77
   go_wp2_with fail
   refine HX.out.mono ?_
   rintro e w1 ⟨⟨ta,tc,rfl,hv⟩,k1⟩
   have HR1:=Lib.hid (HR0.out.below k1)
   have HB1:=Lib.hid (HB0.out.trans (k1.mono HB0.out.size))
   have HT1:=Lib.hid (HTT.out.below k1)
   have HV1:=Lib.hid (errR_below HVV.out k1)
   have HTK:=Lib.hid hv
   have hr1:=HR1.out.lt
   clear k1 hv
   unfold failV
   go_upto_region 6 with fail
   have hA:Below w1.heap.size w1 ((w1.alloc (.cells #[.int .i64 0,.int .i64 0,.int .i64 0] 46)).alloc (.cells #[.slice ta M.length tc,.int .i64 0,.nilIface,.int .i64 0] 167)):=((Below.refl _ _).alloc (Nat.le_refl _) _).alloc (by simp) _
   have hP2:PlAt ((w1.alloc (.cells #[.int .i64 0,.int .i64 0,.int .i64 0] 46)).alloc (.cells #[.slice ta M.length tc,.int .i64 0,.nilIface,.int .i64 0] 167)) (w1.heap.size + 1) ta M.length tc M pl0:=⟨⟨.nilIface,Ho.new _ _ _ (by simp),fun _=>rfl,fun e=>absurd rfl e⟩,HTK.out.below hA,Nat.zero_le _⟩
   have hR2:=HR1.out.below hA
   have hB2:=HB1.out.trans (hA.mono HB1.out.size)
   have hT2:=HT1.out.below hA
   have hV2:=errR_below HV1.out hA
   generalize (w1.alloc (.cells #[.int .i64 0,.int .i64 0,.int .i64 0] 46)).alloc (.cells #[.slice ta M.length tc,.int .i64 0,.nilIface,.int .i64 0] 167)=w2 at hA hP2 hR2 hB2 hT2 hV2 ⊢
   obtain ⟨g,hgg⟩:∃ g,g=w1.heap.size + 1:=⟨_,rfl⟩
   rw [← hgg] at hP2 ⊢
   have hgw:w.heap.size < g:=by omega
   have HF1:=Lib.hid (exprF1_calls g M.length tc ta M a w2 hP2 HMO.out HM6.out hV2 (by omega))
   have HR2:=Lib.hid hR2
   have HB2:=Lib.hid hB2
   have HT2:=Lib.hid hT2
   have HB12:=Lib.hid hA
   have hne0:¬ w.heap.size=g:=by omega
   clear hA hP2 hR2 hB2 hT2 hV2 hgg
   go_wp2_with fail
   refine HF1.out.mono ?_
   rintro e w3 ⟨⟨v,rfl,hn⟩,k1,k2⟩
   obtain ⟨va,vc,hva⟩:=hn.slice
   obtain ⟨kl,hkl⟩:∃ kl,kl=(linkS 0 (xC M).1.ns 0 []).1.length:=⟨_,rfl⟩
   rw [← hkl] at hva
   subst hva
   have HR3:=Lib.hid (HR2.out.kp k2 hne0)
   have HB3:=Lib.hid (k1_below k2 HB2.out HB2.out.size (by omega))
   have HT3:=Lib.hid (errT_kp HT2.out (by omega) k2)
   have HP3:=Lib.hid k1
   have HN3:Hid (NsAt w.heap.size w3 (.slice va kl vc) (linkS 0 (xC M).1.ns 0 []).1):=Lib.hid (hn.base HB2.out.size)
   have hgw3:=HP3.out.lt
   obtain ⟨ev,hev,hev2,c0,c1,c2,c3,e1,e2,e3⟩:=HP3.out.cells
   have hat:=HP3.out.at'
   have hml:=HM6.out
   clear k1 k2 hn hkl HX HF1
   have t7:decide (((xC M).2.a:Int) < (M.length:Int))=true:=decide_eq_true (by omega)
   have t8:decide ((xC M).2.a < M.length)=true:=decide_eq_true hst
   have HSY:=Lib.hid (fun w1 h1=>stray_calls g M.length tc ta M (xC M).2 w1 h1 HMO.out.len)
   have HEC:Hid (endC M (xC M)=stopP M (xC M).2 16):=Lib.hid (by rw [HEND.out,if_pos hst])
   have HQE:Hid ((stopP M (xC M).2 16).er ≠ 0):=Lib.hid (stop_no M _ 16 (by decide))
   have HEOK9:Hid (ErOk (stopP M (xC M).2 16)):=Lib.hid (by rw [← HEC.out]; exact HEOK.out)
   clear hst
   obtain ⟨pa,hpa⟩:∃ pa,pa=(xC M).2.a:=⟨_,rfl⟩
   rw [← hpa] at c1 t7 t8 hat
   clear hpa
   go_wp2_with fail
   go_quiet (fail)
   go_wp2_with fail
   refine (HSY.out _ (HP3.out.below ?_)).mono ?_
   ·exact par_drewN (Below.refl _ _) _
   rintro e w4 ⟨rfl,k1,k2⟩
   have k3:Kp (K1 g) w3 w4:=(Kp.of_below (par_drewN (Below.refl _ _) _)).trans k2
   have HR4:=Lib.hid (HR3.out.kp k3 hne0)
   have HB4:=Lib.hid (k1_below k3 HB3.out HB3.out.size (by omega))
   have HT4:=Lib.hid (errT_kp HT3.out (by omega) k3)
   have HP4:=Lib.hid k1
   clear k1 k2 k3 c0 c1 c2 c3 e1 e2 e3
   obtain ⟨ev4,_,hev9,z0,z1,z2,z3,_,_,_⟩:=HP4.out.cells
   obtain ⟨eb,hev8,heb⟩:=hev9 (by exact HQE.out)
   rw [hev8] at z2
   have HEB:=Lib.hid heb
   have hgn:=HP4.out.lt
   clear hev9 hev8 heb
   have hA9:Below w4.heap.size w4 (w4.alloc (.cells #[.pointer none] 168)):=(Below.refl _ _).alloc (Nat.le_refl _) _
   have HT9:=Lib.hid (HT4.out.below hA9)
   have HO9:Hid (Ho (w4.alloc (.cells #[.pointer none] 168)) w4.heap.size #[.pointer none] 168):=Lib.hid (Ho.new _ _ _ rfl)
   have HR9:=Lib.hid (HR4.out.below hA9)
   have HB9:=Lib.hid (HB4.out.trans (hA9.mono HB4.out.size))
   have HE9:Hid (Ho (w4.alloc (.cells #[.pointer none] 168)) eb (errC (stopP M (xC M).2 16).line (stopP M (xC M).2 16).col (stopP M (xC M).2 16).er) 173):=Lib.hid (Ho.below HEB.out hA9)
   have HAS:=Lib.hid (pa_hits eb w4.heap.size _ HT9.out HO9.out)
   have hr9:=HR4.out.lt
   have heb9:=(Ho.lt HEB.out)
   clear hA9
   go_wp2_with fail
   refine HAS.out.mono ?_
   rintro e w7 ⟨rfl,k1,k2⟩
   have HO7:Hid (Ho w7 w4.heap.size #[.pointer (some ⟨eb,0,none⟩)] 168):=Lib.hid k1
   have HR7:Hid (Ho w7 w.heap.size #[.int .i64 0,.int .i64 0,.int .i64 0] 46):=Lib.hid ((k2.block _ HR9.out.lt (fun e=>by have e2:=Option.some.inj e; omega)).trans HR9.out)
   have HE7:Hid (Ho w7 eb (errC (stopP M (xC M).2 16).line (stopP M (xC M).2 16).col (stopP M (xC M).2 16).er) 173):=Lib.hid ((k2.block _ HE9.out.lt (fun e=>by have e2:=Option.some.inj e; omega)).trans HE9.out)
   have HB7:=Lib.hid (HB9.out.grown k2 (by simp; omega) (fun k hk=>by cases hk; omega))
   clear k1 k2
   have HRS:=Lib.hid (preason_calls eb (stopP M (xC M).2 16).er w7 (by rw [cell_of_row _ _ 2 _ _ _ HE7.out]; rfl) (erOk_cases HEOK9.out HQE.out))
   have HRS2:=Lib.hid (preason_calls eb (stopP M (xC M).2 16).er w7.drew (by rw [cell_of_row w7.drew _ 2 _ _ _ HE7.out]; rfl) (erOk_cases HEOK9.out HQE.out))
   obtain ⟨o0,_,_⟩:w7.cell? ⟨w4.heap.size,0,none⟩=some (.pointer (some ⟨eb,0,none⟩)) ∧ True ∧ True:=⟨by rw [cell_of_row _ _ 0 _ _ _ HO7.out]; rfl,trivial,trivial⟩
   have p0:w7.cell? ⟨eb,0,none⟩=some (.int .i64 ((stopP M (xC M).2 16).line:Nat)):=by rw [cell_of_row _ _ 0 _ _ _ HE7.out]; rfl
   have p1:w7.cell? ⟨eb,1,none⟩=some (.int .i64 ((stopP M (xC M).2 16).col:Nat)):=by rw [cell_of_row _ _ 1 _ _ _ HE7.out]; rfl
   obtain ⟨y0,y1,y2,yf0,yf1,yf2⟩:=fl_cells HR7.out
   have hl7:=HR7.out.lt
   have hle7:=HE7.out.lt
   have hlo7:=HO7.out.lt
   obtain ⟨ql,hql⟩:∃ ql,ql=(stopP M (xC M).2 16).line:=⟨_,rfl⟩
   obtain ⟨qc,hqc⟩:∃ qc,qc=(stopP M (xC M).2 16).col:=⟨_,rfl⟩
   obtain ⟨qe,hqe⟩:∃ qe,qe=(stopP M (xC M).2 16).er:=⟨_,rfl⟩
   rw [← hql] at p0
   rw [← hqc] at p1
   rw [← hqe] at HRS HRS2
   have HQ3:Hid (exprL s.data.toList=.error (qe,ql,qc) ∧ qe ≠ 0):=Lib.hid (by rw [hql,hqc,hqe]; exact ⟨by rw [HEX.out,HXX.out,HEC.out,if_neg HQE.out],HQE.out⟩)
   clear hql hqc hqe z0 z1 z2 z3
   go_wp2_with fail
   refine wp_region_B (S:=(fun W=>W.cell? ⟨w4.heap.size,0,none⟩=some (.pointer (some ⟨eb,0,none⟩)) ∧ W.cell? ⟨eb,0,none⟩=some (.int .i64 (ql:Nat)) ∧ W.cell? ⟨eb,1,none⟩=some (.int .i64 (qc:Nat)))) [14] (by kernel_rfl) (⟨o0,p0,p1⟩) (fun hH0=>?_)
   refine wpB_take (i:=0) (v:=.slice none 0 0) [14] rfl (by kernel_rfl) (by kernel_rfl) (by kernel_rfl) (by kernel_rfl) (fun _ _ _ h=>h) (Or.inl ⟨by kernel_rfl,fun wS hSw=>by (try dsimp only at hSw); go_simp⟩) hH0 ?_
   refine wpB_take (i:=1) (v:=.pointer (some ⟨eb,0,none⟩)) [14] rfl (by kernel_rfl) (by kernel_rfl) (by kernel_rfl) (by kernel_rfl) (fun _ _ _ h=>h) (Or.inl ⟨by kernel_rfl,fun wS hSw=>by (try dsimp only at hSw); go_simp⟩) hH0 ?_
   refine wpB_take (i:=2) (v:=.iface 168 (.pointer (some ⟨eb,0,none⟩))) [14] rfl (by kernel_rfl) (by kernel_rfl) (by kernel_rfl) (by kernel_rfl) (fun _ _ _ h=>h) (Or.inl ⟨by kernel_rfl,fun wS hSw=>by (try dsimp only at hSw); go_simp⟩) hH0 ?_
   refine wpB_take (i:=4) (v:=.pointer (some ⟨eb,0,none⟩)) [14] rfl (by kernel_rfl) (by kernel_rfl) (by kernel_rfl) (by kernel_rfl) (fun _ _ _ h=>h) (Or.inl ⟨by kernel_rfl,fun wS hSw=>by (try dsimp only at hSw); go_simp⟩) hH0 ?_
   refine wpB_take (i:=5) (v:=.pointer (some ⟨eb,0,none⟩)) [14] rfl (by kernel_rfl) (by kernel_rfl) (by kernel_rfl) (by kernel_rfl) (fun _ _ _ h=>h) (Or.inl ⟨by kernel_rfl,fun wS hSw=>by (try dsimp only at hSw); go_simp⟩) hH0 ?_
   refine wpB_take (i:=6) (v:=.pointer (some ⟨eb,0,none⟩)) [14] rfl (by kernel_rfl) (by kernel_rfl) (by kernel_rfl) (by kernel_rfl) (fun _ _ _ h=>h) (Or.inl ⟨by kernel_rfl,fun wS hSw=>by (try dsimp only at hSw); go_simp⟩) hH0 ?_
   refine wpB_take (i:=7) (v:=.int .i64 (ql:Nat)) [14] rfl (by kernel_rfl) (by kernel_rfl) (by kernel_rfl) (by kernel_rfl) (fun _ _ _ h=>h) (Or.inl ⟨by kernel_rfl,fun wS hSw=>by (try dsimp only at hSw); go_simp⟩) hH0 ?_
   refine wpB_take (i:=8) (v:=.pointer (some ⟨eb,0,none⟩)) [14] rfl (by kernel_rfl) (by kernel_rfl) (by kernel_rfl) (by kernel_rfl) (fun _ _ _ h=>h) (Or.inl ⟨by kernel_rfl,fun wS hSw=>by (try dsimp only at hSw); go_simp⟩) hH0 ?_
   refine wpB_take (i:=9) (v:=.pointer (some ⟨eb,0,none⟩)) [14] rfl (by kernel_rfl) (by kernel_rfl) (by kernel_rfl) (by kernel_rfl) (fun _ _ _ h=>h) (Or.inl ⟨by kernel_rfl,fun wS hSw=>by (try dsimp only at hSw); go_simp⟩) hH0 ?_
   refine wpB_take (i:=10) (v:=.pointer (some ⟨eb,1,none⟩)) [14] rfl (by kernel_rfl) (by kernel_rfl) (by kernel_rfl) (by kernel_rfl) (fun _ _ _ h=>h) (Or.inl ⟨by kernel_rfl,fun wS hSw=>by (try dsimp only at hSw); go_simp⟩) hH0 ?_
   refine wpB_take (i:=11) (v:=.int .i64 (qc:Nat)) [14] rfl (by kernel_rfl) (by kernel_rfl) (by kernel_rfl) (by kernel_rfl) (fun _ _ _ h=>h) (Or.inl ⟨by kernel_rfl,fun wS hSw=>by (try dsimp only at hSw); go_simp⟩) hH0 ?_
   refine wpB_step (i:=3) rfl (by kernel_rfl) (fun K hK=>?_)
   rw [if_pos (by kernel_rfl)]
   go_simp
   refine HRS2.out.mono ?_
   rintro e w8 ⟨rfl,rfl⟩
   refine hK.out _ _ (⟨o0,p0,p1⟩) (fun hH1=>?_)
   clear hK K
   refine wpB_take (i:=12) (v:=.agg #[.int .i64 (qe:Nat),.int .i64 (ql:Nat),.int .i64 (qc:Nat)]) [14] rfl (by kernel_rfl) (by kernel_rfl) (by kernel_rfl) (by kernel_rfl) (fun _ _ _ h=>h) (Or.inl ⟨by kernel_rfl,fun wS hSw=>by (try dsimp only at hSw); go_simp⟩) hH1 ?_
   refine wpB_take (i:=13) (v:=.slice none 0 0) [14] rfl (by kernel_rfl) (by kernel_rfl) (by kernel_rfl) (by kernel_rfl) (fun _ _ _ h=>h) (Or.inl ⟨by kernel_rfl,fun wS hSw=>by (try dsimp only at hSw); go_simp⟩) hH1 ?_
   refine wpB_past (i:=14) rfl (by kernel_rfl) (by kernel_rfl) (fun K hK=>?_)
   rw [if_pos (by kernel_rfl)]
   go_simp
   refine hK.out _ _ ?_
   clear hK K
   refine wpB_done (by kernel_rfl) ?_ _
   go_simp
   go_wp2_with fail
   (try simp only [Exit.inBlock,Exit.then])
   refine bodyPost_ret (v:=.tuple #[.slice none 0 0,failV qe ql qc]) ?_ rfl ?_
   ·refine cs_result2 rfl _ _ _ (a:=⟨w.heap.size,0,none⟩) (by rfl) (by rfl) ?_
    unfold failV; go_simp
   ·refine ep_no HQ3.out.1 HQ3.out.2 rfl ?_
    repeat' (first | (with_reducible exact HB7.out) | with_reducible refine Below.setCell ?_ (by simp) _ | with_reducible refine Below.alloc ?_ (by simp <;> omega) _ | with_reducible refine Below.drew ?_)
  case neg =>
   have HEC:Hid (endC M (xC M)=(xC M).2):=Lib.hid (by rw [HEND.out,if_neg hst])
   by_cases hq0:(xC M).2.er=0
   case pos =>
    go_enter Tryz.func77,Tryz.ntmps77
    go_wp2_with fail
    refine HX.out.mono ?_
    rintro e w1 ⟨⟨ta,tc,rfl,hv⟩,k1⟩
    have HR1:=Lib.hid (HR0.out.below k1)
    have HB1:=Lib.hid (HB0.out.trans (k1.mono HB0.out.size))
    have HT1:=Lib.hid (HTT.out.below k1)
    have HV1:=Lib.hid (errR_below HVV.out k1)
    have HTK:=Lib.hid hv
    have hr1:=HR1.out.lt
    clear k1 hv
    unfold failV
    go_upto_region 6 with fail
    have hA:Below w1.heap.size w1 ((w1.alloc (.cells #[.int .i64 0,.int .i64 0,.int .i64 0] 46)).alloc (.cells #[.slice ta M.length tc,.int .i64 0,.nilIface,.int .i64 0] 167)):=((Below.refl _ _).alloc (Nat.le_refl _) _).alloc (by simp) _
    have hP2:PlAt ((w1.alloc (.cells #[.int .i64 0,.int .i64 0,.int .i64 0] 46)).alloc (.cells #[.slice ta M.length tc,.int .i64 0,.nilIface,.int .i64 0] 167)) (w1.heap.size + 1) ta M.length tc M pl0:=⟨⟨.nilIface,Ho.new _ _ _ (by simp),fun _=>rfl,fun e=>absurd rfl e⟩,HTK.out.below hA,Nat.zero_le _⟩
    have hR2:=HR1.out.below hA
    have hB2:=HB1.out.trans (hA.mono HB1.out.size)
    have hT2:=HT1.out.below hA
    have hV2:=errR_below HV1.out hA
    generalize (w1.alloc (.cells #[.int .i64 0,.int .i64 0,.int .i64 0] 46)).alloc (.cells #[.slice ta M.length tc,.int .i64 0,.nilIface,.int .i64 0] 167)=w2 at hA hP2 hR2 hB2 hT2 hV2 ⊢
    obtain ⟨g,hgg⟩:∃ g,g=w1.heap.size + 1:=⟨_,rfl⟩
    rw [← hgg] at hP2 ⊢
    have hgw:w.heap.size < g:=by omega
    have HF1:=Lib.hid (exprF1_calls g M.length tc ta M a w2 hP2 HMO.out HM6.out hV2 (by omega))
    have HR2:=Lib.hid hR2
    have HB2:=Lib.hid hB2
    have HT2:=Lib.hid hT2
    have HB12:=Lib.hid hA
    have hne0:¬ w.heap.size=g:=by omega
    clear hA hP2 hR2 hB2 hT2 hV2 hgg
    go_wp2_with fail
    refine HF1.out.mono ?_
    rintro e w3 ⟨⟨v,rfl,hn⟩,k1,k2⟩
    obtain ⟨va,vc,hva⟩:=hn.slice
    obtain ⟨kl,hkl⟩:∃ kl,kl=(linkS 0 (xC M).1.ns 0 []).1.length:=⟨_,rfl⟩
    rw [← hkl] at hva
    subst hva
    have HR3:=Lib.hid (HR2.out.kp k2 hne0)
    have HB3:=Lib.hid (k1_below k2 HB2.out HB2.out.size (by omega))
    have HT3:=Lib.hid (errT_kp HT2.out (by omega) k2)
    have HP3:=Lib.hid k1
    have HN3:Hid (NsAt w.heap.size w3 (.slice va kl vc) (linkS 0 (xC M).1.ns 0 []).1):=Lib.hid (hn.base HB2.out.size)
    have hgw3:=HP3.out.lt
    obtain ⟨ev,hev,hev2,c0,c1,c2,c3,e1,e2,e3⟩:=HP3.out.cells
    have hat:=HP3.out.at'
    have hml:=HM6.out
    clear k1 k2 hn hkl HX HF1
    clear hev hev2
    have HNI:=Lib.hid (fun t w1=>pa_nil t w1)
    have t7:decide (((xC M).2.a:Int) < (M.length:Int))=false:=decide_eq_false (by omega)
    have t8:decide ((xC M).2.a < M.length)=false:=decide_eq_false hst
    clear hst
    obtain ⟨pa,hpa⟩:∃ pa,pa=(xC M).2.a:=⟨_,rfl⟩
    rw [← hpa] at c1 t7 t8 hat
    clear hpa
    go_wp2_with fail
    go_quiet (fail)
    have k4:Below w3.heap.size w3 (w3.drewN nq):=par_drewN (Below.refl _ _) _
    have hP4:=HP3.out.below k4
    have hR4:=HR3.out.below k4
    have hB4:=HB3.out.trans (k4.mono HB3.out.size)
    have hT4:=HT3.out.below k4
    have hN4:=HN3.out.below k4
    clear c0 c1 c2 c3 e1 e2 e3
    generalize w3.drewN nq=w4 at k4 hP4 hR4 hB4 hT4 hN4 ⊢
    have HP4:=Lib.hid hP4
    have HR4:=Lib.hid hR4
    have HB4:=Lib.hid hB4
    have HT4:=Lib.hid hT4
    have HN4:=Lib.hid hN4
    clear k4 hP4 hR4 hB4 hT4 hN4
    obtain ⟨ev4,hev4,_,z0,z1,z2,z3,_,_,_⟩:=HP4.out.cells
    obtain rfl:=hev4 hq0
    have hgw4:=HP4.out.lt
    clear hev4
    obtain ⟨y0,y1,y2,yf0,yf1,yf2⟩:=fl_cells HR4.out
    have hl7:=HR4.out.lt
    go_wp2_with fail
    refine (HNI.out _ _).mono ?_
    rintro e w7 ⟨rfl,hw7⟩
    subst hw7
    go_wp2_with fail
    (try simp only [Exit.inBlock,Exit.then])
    refine bodyPost_ret (v:=.tuple #[.slice va kl vc,failV 0 0 0]) ?_ rfl ?_
    ·refine cs_result2 rfl _ _ _ (a:=⟨w.heap.size,0,none⟩) (by rfl) (by rfl) ?_
     unfold failV; go_simp
    ·refine ep_ok (by rw [HEX.out,HXX.out,HEC.out,if_pos hq0]) ⟨_,rfl,?_⟩ ?_
     ·refine HN4.out.heap (fun k c=>?_)
      refine Kp.block (S:=K1 w.heap.size) ?_ k c.lt (fun e=>c.ne HR4.out.cblk (by decide) e)
      repeat' (first | (with_reducible exact Kp.refl _ _) | with_reducible refine kp_set1 ?_ _ _ | with_reducible refine Kp.alloc ?_ _)
     ·repeat' (first | (with_reducible exact HB4.out) | with_reducible refine Below.setCell ?_ (by simp) _ | with_reducible refine Below.alloc ?_ (by simp <;> omega) _ | with_reducible refine Below.drew ?_)
   case neg =>
    go_enter Tryz.func77,Tryz.ntmps77
    go_wp2_with fail
    refine HX.out.mono ?_
    rintro e w1 ⟨⟨ta,tc,rfl,hv⟩,k1⟩
    have HR1:=Lib.hid (HR0.out.below k1)
    have HB1:=Lib.hid (HB0.out.trans (k1.mono HB0.out.size))
    have HT1:=Lib.hid (HTT.out.below k1)
    have HV1:=Lib.hid (errR_below HVV.out k1)
    have HTK:=Lib.hid hv
    have hr1:=HR1.out.lt
    clear k1 hv
    unfold failV
    go_upto_region 6 with fail
    have hA:Below w1.heap.size w1 ((w1.alloc (.cells #[.int .i64 0,.int .i64 0,.int .i64 0] 46)).alloc (.cells #[.slice ta M.length tc,.int .i64 0,.nilIface,.int .i64 0] 167)):=((Below.refl _ _).alloc (Nat.le_refl _) _).alloc (by simp) _
    have hP2:PlAt ((w1.alloc (.cells #[.int .i64 0,.int .i64 0,.int .i64 0] 46)).alloc (.cells #[.slice ta M.length tc,.int .i64 0,.nilIface,.int .i64 0] 167)) (w1.heap.size + 1) ta M.length tc M pl0:=⟨⟨.nilIface,Ho.new _ _ _ (by simp),fun _=>rfl,fun e=>absurd rfl e⟩,HTK.out.below hA,Nat.zero_le _⟩
    have hR2:=HR1.out.below hA
    have hB2:=HB1.out.trans (hA.mono HB1.out.size)
    have hT2:=HT1.out.below hA
    have hV2:=errR_below HV1.out hA
    generalize (w1.alloc (.cells #[.int .i64 0,.int .i64 0,.int .i64 0] 46)).alloc (.cells #[.slice ta M.length tc,.int .i64 0,.nilIface,.int .i64 0] 167)=w2 at hA hP2 hR2 hB2 hT2 hV2 ⊢
    obtain ⟨g,hgg⟩:∃ g,g=w1.heap.size + 1:=⟨_,rfl⟩
    rw [← hgg] at hP2 ⊢
    have hgw:w.heap.size < g:=by omega
    have HF1:=Lib.hid (exprF1_calls g M.length tc ta M a w2 hP2 HMO.out HM6.out hV2 (by omega))
    have HR2:=Lib.hid hR2
    have HB2:=Lib.hid hB2
    have HT2:=Lib.hid hT2
    have HB12:=Lib.hid hA
    have hne0:¬ w.heap.size=g:=by omega
    clear hA hP2 hR2 hB2 hT2 hV2 hgg
    go_wp2_with fail
    refine HF1.out.mono ?_
    rintro e w3 ⟨⟨v,rfl,hn⟩,k1,k2⟩
    obtain ⟨va,vc,hva⟩:=hn.slice
    obtain ⟨kl,hkl⟩:∃ kl,kl=(linkS 0 (xC M).1.ns 0 []).1.length:=⟨_,rfl⟩
    rw [← hkl] at hva
    subst hva
    have HR3:=Lib.hid (HR2.out.kp k2 hne0)
    have HB3:=Lib.hid (k1_below k2 HB2.out HB2.out.size (by omega))
    have HT3:=Lib.hid (errT_kp HT2.out (by omega) k2)
    have HP3:=Lib.hid k1
    have HN3:Hid (NsAt w.heap.size w3 (.slice va kl vc) (linkS 0 (xC M).1.ns 0 []).1):=Lib.hid (hn.base HB2.out.size)
    have hgw3:=HP3.out.lt
    obtain ⟨ev,hev,hev2,c0,c1,c2,c3,e1,e2,e3⟩:=HP3.out.cells
    have hat:=HP3.out.at'
    have hml:=HM6.out
    clear k1 k2 hn hkl HX HF1
    have HQE:Hid ((xC M).2.er ≠ 0):=Lib.hid hq0
    have HEOK9:Hid (ErOk (xC M).2):=Lib.hid (by rw [← HEC.out]; exact HEOK.out)
    clear hev hev2 hq0
    have t7:decide (((xC M).2.a:Int) < (M.length:Int))=false:=decide_eq_false (by omega)
    have t8:decide ((xC M).2.a < M.length)=false:=decide_eq_false hst
    clear hst
    obtain ⟨pa,hpa⟩:∃ pa,pa=(xC M).2.a:=⟨_,rfl⟩
    rw [← hpa] at c1 t7 t8 hat
    clear hpa
    go_wp2_with fail
    go_quiet (fail)
    have k4:Below w3.heap.size w3 (w3.drewN nq):=par_drewN (Below.refl _ _) _
    have hP4:=HP3.out.below k4
    have hR4:=HR3.out.below k4
    have hB4:=HB3.out.trans (k4.mono HB3.out.size)
    have hT4:=HT3.out.below k4
    have hN4:=HN3.out.below k4
    clear c0 c1 c2 c3 e1 e2 e3
    generalize w3.drewN nq=w4 at k4 hP4 hR4 hB4 hT4 hN4 ⊢
    have HP4:=Lib.hid hP4
    have HR4:=Lib.hid hR4
    have HB4:=Lib.hid hB4
    have HT4:=Lib.hid hT4
    have HN4:=Lib.hid hN4
    clear k4 hP4 hR4 hB4 hT4 hN4
    obtain ⟨ev4,_,hev9,z0,z1,z2,z3,_,_,_⟩:=HP4.out.cells
    obtain ⟨eb,hev8,heb⟩:=hev9 (by exact HQE.out)
    rw [hev8] at z2
    have HEB:=Lib.hid heb
    have hgn:=HP4.out.lt
    clear hev9 hev8 heb
    have hA9:Below w4.heap.size w4 (w4.alloc (.cells #[.pointer none] 168)):=(Below.refl _ _).alloc (Nat.le_refl _) _
    have HT9:=Lib.hid (HT4.out.below hA9)
    have HO9:Hid (Ho (w4.alloc (.cells #[.pointer none] 168)) w4.heap.size #[.pointer none] 168):=Lib.hid (Ho.new _ _ _ rfl)
    have HR9:=Lib.hid (HR4.out.below hA9)
    have HB9:=Lib.hid (HB4.out.trans (hA9.mono HB4.out.size))
    have HE9:Hid (Ho (w4.alloc (.cells #[.pointer none] 168)) eb (errC (xC M).2.line (xC M).2.col (xC M).2.er) 173):=Lib.hid (Ho.below HEB.out hA9)
    have HAS:=Lib.hid (pa_hits eb w4.heap.size _ HT9.out HO9.out)
    have hr9:=HR4.out.lt
    have heb9:=(Ho.lt HEB.out)
    clear hA9
    go_wp2_with fail
    refine HAS.out.mono ?_
    rintro e w7 ⟨rfl,k1,k2⟩
    have HO7:Hid (Ho w7 w4.heap.size #[.pointer (some ⟨eb,0,none⟩)] 168):=Lib.hid k1
    have HR7:Hid (Ho w7 w.heap.size #[.int .i64 0,.int .i64 0,.int .i64 0] 46):=Lib.hid ((k2.block _ HR9.out.lt (fun e=>by have e2:=Option.some.inj e; omega)).trans HR9.out)
    have HE7:Hid (Ho w7 eb (errC (xC M).2.line (xC M).2.col (xC M).2.er) 173):=Lib.hid ((k2.block _ HE9.out.lt (fun e=>by have e2:=Option.some.inj e; omega)).trans HE9.out)
    have HB7:=Lib.hid (HB9.out.grown k2 (by simp; omega) (fun k hk=>by cases hk; omega))
    clear k1 k2
    have HRS:=Lib.hid (preason_calls eb (xC M).2.er w7 (by rw [cell_of_row _ _ 2 _ _ _ HE7.out]; rfl) (erOk_cases HEOK9.out HQE.out))
    have HRS2:=Lib.hid (preason_calls eb (xC M).2.er w7.drew (by rw [cell_of_row w7.drew _ 2 _ _ _ HE7.out]; rfl) (erOk_cases HEOK9.out HQE.out))
    obtain ⟨o0,_,_⟩:w7.cell? ⟨w4.heap.size,0,none⟩=some (.pointer (some ⟨eb,0,none⟩)) ∧ True ∧ True:=⟨by rw [cell_of_row _ _ 0 _ _ _ HO7.out]; rfl,trivial,trivial⟩
    have p0:w7.cell? ⟨eb,0,none⟩=some (.int .i64 ((xC M).2.line:Nat)):=by rw [cell_of_row _ _ 0 _ _ _ HE7.out]; rfl
    have p1:w7.cell? ⟨eb,1,none⟩=some (.int .i64 ((xC M).2.col:Nat)):=by rw [cell_of_row _ _ 1 _ _ _ HE7.out]; rfl
    obtain ⟨y0,y1,y2,yf0,yf1,yf2⟩:=fl_cells HR7.out
    have hl7:=HR7.out.lt
    have hle7:=HE7.out.lt
    have hlo7:=HO7.out.lt
    obtain ⟨ql,hql⟩:∃ ql,ql=(xC M).2.line:=⟨_,rfl⟩
    obtain ⟨qc,hqc⟩:∃ qc,qc=(xC M).2.col:=⟨_,rfl⟩
    obtain ⟨qe,hqe⟩:∃ qe,qe=(xC M).2.er:=⟨_,rfl⟩
    rw [← hql] at p0
    rw [← hqc] at p1
    rw [← hqe] at HRS HRS2
    have HQ3:Hid (exprL s.data.toList=.error (qe,ql,qc) ∧ qe ≠ 0):=Lib.hid (by rw [hql,hqc,hqe]; exact ⟨by rw [HEX.out,HXX.out,HEC.out,if_neg HQE.out],HQE.out⟩)
    clear hql hqc hqe z0 z1 z2 z3
    go_wp2_with fail
    refine wp_region_B (S:=(fun W=>W.cell? ⟨w4.heap.size,0,none⟩=some (.pointer (some ⟨eb,0,none⟩)) ∧ W.cell? ⟨eb,0,none⟩=some (.int .i64 (ql:Nat)) ∧ W.cell? ⟨eb,1,none⟩=some (.int .i64 (qc:Nat)))) [14] (by kernel_rfl) (⟨o0,p0,p1⟩) (fun hH0=>?_)
    refine wpB_take (i:=0) (v:=.slice none 0 0) [14] rfl (by kernel_rfl) (by kernel_rfl) (by kernel_rfl) (by kernel_rfl) (fun _ _ _ h=>h) (Or.inl ⟨by kernel_rfl,fun wS hSw=>by (try dsimp only at hSw); go_simp⟩) hH0 ?_
    refine wpB_take (i:=1) (v:=.pointer (some ⟨eb,0,none⟩)) [14] rfl (by kernel_rfl) (by kernel_rfl) (by kernel_rfl) (by kernel_rfl) (fun _ _ _ h=>h) (Or.inl ⟨by kernel_rfl,fun wS hSw=>by (try dsimp only at hSw); go_simp⟩) hH0 ?_
    refine wpB_take (i:=2) (v:=.iface 168 (.pointer (some ⟨eb,0,none⟩))) [14] rfl (by kernel_rfl) (by kernel_rfl) (by kernel_rfl) (by kernel_rfl) (fun _ _ _ h=>h) (Or.inl ⟨by kernel_rfl,fun wS hSw=>by (try dsimp only at hSw); go_simp⟩) hH0 ?_
    refine wpB_take (i:=4) (v:=.pointer (some ⟨eb,0,none⟩)) [14] rfl (by kernel_rfl) (by kernel_rfl) (by kernel_rfl) (by kernel_rfl) (fun _ _ _ h=>h) (Or.inl ⟨by kernel_rfl,fun wS hSw=>by (try dsimp only at hSw); go_simp⟩) hH0 ?_
    refine wpB_take (i:=5) (v:=.pointer (some ⟨eb,0,none⟩)) [14] rfl (by kernel_rfl) (by kernel_rfl) (by kernel_rfl) (by kernel_rfl) (fun _ _ _ h=>h) (Or.inl ⟨by kernel_rfl,fun wS hSw=>by (try dsimp only at hSw); go_simp⟩) hH0 ?_
    refine wpB_take (i:=6) (v:=.pointer (some ⟨eb,0,none⟩)) [14] rfl (by kernel_rfl) (by kernel_rfl) (by kernel_rfl) (by kernel_rfl) (fun _ _ _ h=>h) (Or.inl ⟨by kernel_rfl,fun wS hSw=>by (try dsimp only at hSw); go_simp⟩) hH0 ?_
    refine wpB_take (i:=7) (v:=.int .i64 (ql:Nat)) [14] rfl (by kernel_rfl) (by kernel_rfl) (by kernel_rfl) (by kernel_rfl) (fun _ _ _ h=>h) (Or.inl ⟨by kernel_rfl,fun wS hSw=>by (try dsimp only at hSw); go_simp⟩) hH0 ?_
    refine wpB_take (i:=8) (v:=.pointer (some ⟨eb,0,none⟩)) [14] rfl (by kernel_rfl) (by kernel_rfl) (by kernel_rfl) (by kernel_rfl) (fun _ _ _ h=>h) (Or.inl ⟨by kernel_rfl,fun wS hSw=>by (try dsimp only at hSw); go_simp⟩) hH0 ?_
    refine wpB_take (i:=9) (v:=.pointer (some ⟨eb,0,none⟩)) [14] rfl (by kernel_rfl) (by kernel_rfl) (by kernel_rfl) (by kernel_rfl) (fun _ _ _ h=>h) (Or.inl ⟨by kernel_rfl,fun wS hSw=>by (try dsimp only at hSw); go_simp⟩) hH0 ?_
    refine wpB_take (i:=10) (v:=.pointer (some ⟨eb,1,none⟩)) [14] rfl (by kernel_rfl) (by kernel_rfl) (by kernel_rfl) (by kernel_rfl) (fun _ _ _ h=>h) (Or.inl ⟨by kernel_rfl,fun wS hSw=>by (try dsimp only at hSw); go_simp⟩) hH0 ?_
    refine wpB_take (i:=11) (v:=.int .i64 (qc:Nat)) [14] rfl (by kernel_rfl) (by kernel_rfl) (by kernel_rfl) (by kernel_rfl) (fun _ _ _ h=>h) (Or.inl ⟨by kernel_rfl,fun wS hSw=>by (try dsimp only at hSw); go_simp⟩) hH0 ?_
    refine wpB_step (i:=3) rfl (by kernel_rfl) (fun K hK=>?_)
    rw [if_pos (by kernel_rfl)]
    go_simp
    refine HRS2.out.mono ?_
    rintro e w8 ⟨rfl,rfl⟩
    refine hK.out _ _ (⟨o0,p0,p1⟩) (fun hH1=>?_)
    clear hK K
    refine wpB_take (i:=12) (v:=.agg #[.int .i64 (qe:Nat),.int .i64 (ql:Nat),.int .i64 (qc:Nat)]) [14] rfl (by kernel_rfl) (by kernel_rfl) (by kernel_rfl) (by kernel_rfl) (fun _ _ _ h=>h) (Or.inl ⟨by kernel_rfl,fun wS hSw=>by (try dsimp only at hSw); go_simp⟩) hH1 ?_
    refine wpB_take (i:=13) (v:=.slice none 0 0) [14] rfl (by kernel_rfl) (by kernel_rfl) (by kernel_rfl) (by kernel_rfl) (fun _ _ _ h=>h) (Or.inl ⟨by kernel_rfl,fun wS hSw=>by (try dsimp only at hSw); go_simp⟩) hH1 ?_
    refine wpB_past (i:=14) rfl (by kernel_rfl) (by kernel_rfl) (fun K hK=>?_)
    rw [if_pos (by kernel_rfl)]
    go_simp
    refine hK.out _ _ ?_
    clear hK K
    refine wpB_done (by kernel_rfl) ?_ _
    go_simp
    go_wp2_with fail
    (try simp only [Exit.inBlock,Exit.then])
    refine bodyPost_ret (v:=.tuple #[.slice none 0 0,failV qe ql qc]) ?_ rfl ?_
    ·refine cs_result2 rfl _ _ _ (a:=⟨w.heap.size,0,none⟩) (by rfl) (by rfl) ?_
     unfold failV; go_simp
    ·refine ep_no HQ3.out.1 HQ3.out.2 rfl ?_
     repeat' (first | (with_reducible exact HB7.out) | with_reducible refine Below.setCell ?_ (by simp) _ | with_reducible refine Below.alloc ?_ (by simp <;> omega) _ | with_reducible refine Below.drew ?_)
set_option maxHeartbeats 2000000 in
theorem exprF_calls (s:ByteArray) (a:Addr) (w:World) (hs:s.size ≤ 4294967296) (hT:LexT w) (het:ErrT w) (hv:ErrR w a) :
  Calls Tryz.prog 20 #[.string s] w (ExprPost (exprL s.data.toList) w):=by
 have hB0:Below w.heap.size w (w.alloc (.cells #[.int .i64 0,.int .i64 0,.int .i64 0] 46)):=(Below.refl _ _).alloc (Nat.le_refl _) _
 have HB0:=Lib.hid hB0
 have HR0:Hid (Ho (w.alloc (.cells #[.int .i64 0,.int .i64 0,.int .i64 0] 46)) w.heap.size #[.int .i64 0,.int .i64 0,.int .i64 0] 46):=Lib.hid (Ho.new _ _ _ rfl)
 have HX:=readX_calls s a _ hs (hT.below hB0) (het.below hB0) (errR_below hv hB0)
 clear hB0 hT het hv hs
 cases hx:exprL s.data.toList with
 | ok L =>
  rw [hx] at HX
  have HX:=Lib.hid HX
  clear hx
  go_enter Tryz.func20,Tryz.ntmps20
  go_wp2_with fail
  refine HX.out.mono ?_
  rintro e w1 ⟨⟨v,rfl,hn⟩,k1⟩
  obtain ⟨va,vc,rfl⟩:=hn.slice
  have HR1:=Lib.hid (HR0.out.below k1)
  have HB1:=Lib.hid (HB0.out.trans (k1.mono HB0.out.size))
  have HN1:Hid (NsAt w.heap.size w1 (.slice va L.length vc) L):=Lib.hid (hn.base HB0.out.size)
  obtain ⟨c0,c1,c2,f0,f1,f2⟩:=fl_cells HR1.out
  have hr1:=HR1.out.lt
  clear k1 hn
  unfold failV
  go_wp2_with fail
  refine bodyPost_ret (v:=.tuple #[.slice va L.length vc,failV 0 0 0]) ?_ rfl ?_
  ·refine cs_result2 rfl _ _ _ (a:=⟨w.heap.size,0,none⟩) (by rfl) (by rfl) ?_
   unfold failV; go_simp
  ·refine ep_ok rfl ⟨_,rfl,?_⟩ ?_
   ·refine HN1.out.heap (fun k c=>?_)
    refine Kp.block (S:=K1 w.heap.size) ?_ k c.lt (fun e=>c.ne HR1.out.cblk (by decide) e)
    repeat' (first | (with_reducible exact Kp.refl _ _) | with_reducible refine kp_set1 ?_ _ _ | with_reducible refine Kp.alloc ?_ _)
   ·repeat' (first | (with_reducible exact HB1.out) | with_reducible refine Below.setCell ?_ (by simp) _)
 | error e0 =>
  obtain ⟨er,el,ec⟩:=e0
  rw [hx] at HX
  have HX:=Lib.hid HX
  clear hx
  go_enter Tryz.func20,Tryz.ntmps20
  go_wp2_with fail
  refine HX.out.mono ?_
  rintro e w1 ⟨⟨h0,rfl⟩,k1⟩
  have HR1:=Lib.hid (HR0.out.below k1)
  have HB1:=Lib.hid (HB0.out.trans (k1.mono HB0.out.size))
  have H0:=Lib.hid h0
  obtain ⟨c0,c1,c2,f0,f1,f2⟩:=fl_cells HR1.out
  have hr1:=HR1.out.lt
  clear k1 h0
  unfold failV
  go_wp2_with fail
  refine bodyPost_ret (v:=.tuple #[.slice none 0 0,failV er el ec]) ?_ rfl ?_
  ·refine cs_result2 rfl _ _ _ (a:=⟨w.heap.size,0,none⟩) (by rfl) (by rfl) ?_
   unfold failV; go_simp
  ·refine ep_no rfl H0.out rfl ?_
   repeat' (first | (with_reducible exact HB1.out) | with_reducible refine Below.setCell ?_ (by simp) _)
end Go.Proofs.YtiafhfchjhffhaaGreatDoor
