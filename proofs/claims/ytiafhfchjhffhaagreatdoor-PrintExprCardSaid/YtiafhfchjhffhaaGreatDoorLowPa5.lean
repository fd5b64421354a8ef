/- paclaim: ParValue ParVal -/
import Derived.Test.YtiafhfchjhffhaaGreatDoorLowPa4
import Derived.Test.YtiafhfchjhffhaaGreatDoorLowPa3
import Derived.Test.YtiafhfchjhffhaaGreatDoorLowNum
import Derived.Deep.RegionHeld3
namespace Go.Proofs.YtiafhfchjhffhaaGreatDoor
open Go.RowKit
set_option linter.unusedVariables false
def vdV (v:Vd):Value:=.agg #[.int .i64 v.k,.int .i64 v.i,.string v.s,.bool v.b]
theorem errR_kp {w w':World} {a:Addr} {g:Nat} (h:ErrR w a) (hl:7 < g) (hg:g < w.heap.size) (hk:Kp (K1 g) w w'):ErrR w' a :=
 var?_below (hk.to_below (Below.refl g w) (by omega) (fun k e=>by have e2:k=g:=e; omega)) gErr hl h
theorem number_eq {M:List Tk} {p:Pl} {b:Bool}:numberC M p b=(vInt (pn (minusT b (peekC M p).t)),if pe (minusT b (peekC M p).t)=5 then failC (skipP p) (peekC M p) 5 else skipP p):=rfl
theorem pe_nat (l:List UInt8):∃ n:Nat,pe l=(n:Int):=by
 unfold pe
 split
 ·split
  ·exact ⟨0,rfl⟩
  ·exact ⟨5,rfl⟩
 ·exact ⟨4,rfl⟩
set_option maxHeartbeats 4000000 in
theorem number_calls (g tl tc:Nat) (ta:Option Addr) (M:List Tk) (p:Pl) (b:Bool) (a:Addr) (w:World) (h:PlAt w g ta tl tc M p) (hM:MOk M) (hv:ErrR w a) (hgl:7 < g) (hk:(peekC M p).k=3) :
  Calls Tryz.prog 231 #[.pointer (some ⟨g,0,none⟩),.bool b] w fun e w'=>e=.returned (vdV (numberC M p b).1) ∧ PlAt w' g ta tl tc M (numberC M p b).2 ∧ Kp (K1 g) w w':=by
 have hB0:Below w.heap.size w (w.alloc (.cells #[.int .i64 0,.int .i64 0,.string ⟨#[]⟩,.bool false] 56)):=(Below.refl _ _).alloc (Nat.le_refl _) _
 have HT:=Lib.hid (take_calls g tl tc ta M p _ (h.below hB0) hM.len)
 have HR0:Hid (Ho (w.alloc (.cells #[.int .i64 0,.int .i64 0,.string ⟨#[]⟩,.bool false] 56)) w.heap.size #[.int .i64 0,.int .i64 0,.string ⟨#[]⟩,.bool false] 56):=Lib.hid (Ho.new _ _ _ rfl)
 have HV0:=Lib.hid (errR_below hv hB0)
 have hg:=h.lt
 have HG:=Lib.hid (h.below hB0).cblk
 have HB0:=Lib.hid hB0
 have HNE:=Lib.hid (number_eq (M:=M) (p:=p) (b:=b))
 obtain ⟨hp1,hp2⟩:=peek_in (M:=M) (p:=p) (by omega)
 have htk:takeC M p=skipP p:=by unfold takeC; rw [if_neg (by omega)]
 rw [htk] at HT
 have hx4:(peekC M p).t.length ≤ 4096:=by
  unfold peekC
  rw [if_pos hp1]
  exact hM.texts _ (List.mem_of_getElem? (tk_at hp2))
 obtain ⟨x,hx⟩:∃ x,x=peekC M p:=⟨_,rfl⟩
 rw [← hx] at HT HNE hx4
 have HMT:Hid (minusT b x.t=if b=true ∧ x.t ≠ [48] then 45 :: x.t else x.t):=Lib.hid rfl
 obtain ⟨tx,htx⟩:∃ tx,tx=minusT b x.t:=⟨_,rfl⟩
 have HX:=Lib.hid htx
 have hsz:(⟨tx.toArray⟩:ByteArray).size ≤ 281474976710656:=by
  show tx.toArray.size ≤ _
  rw [List.size_toArray,htx,HMT.out]
  split
  ·rw [List.length_cons]; omega
  ·omega
 rw [← htx] at HNE
 have HP:=Lib.hid (fun w1 h1=>parse_calls ⟨tx.toArray⟩ a w1 hsz h1)
 have HP:Hid (∀ w1,ErrR w1 a → Calls Tryz.prog 253 #[.string ⟨tx.toArray⟩] w1 fun e w'=>e=.returned (.tuple #[.int .i64 (pn tx),.int .i64 (pe tx)]) ∧ Below w1.heap.size w1 w'):=HP
 obtain ⟨en,hen⟩:=pe_nat tx
 have HEN:=Lib.hid hen
 rw [hen] at HP
 have HI:=Lib.hid (fun b w1 hb=>pe_is (en:Int) 5 w1 b hb)
 have HF:=Lib.hid (fun w1 h1=>fail_calls g tl tc 5 ta M (skipP p) x w1 h1 (by decide))
 obtain ⟨n,hn⟩:∃ n,n=pn tx:=⟨_,rfl⟩
 rw [← hn] at HP HNE
 have htl:=hM.len
 have hsx:x.t.length ≤ 4096:=hx4
 cases b
 case false =>
  have htt:tx=x.t:=by rw [htx,HMT.out,if_neg (fun k=>by cases k.1)]
  have HTT:=Lib.hid htt
  subst htt
  by_cases h5:en=5
  case pos =>
   have HNE2:=HNE.out
   rw [HEN.out,if_pos (by omega)] at HNE2
   have HT5:Hid (((en:Int) == 5)=true):=Lib.hid (by rw [h5]; rfl)
   replace HNE2:=Lib.hid HNE2
   clear HNE hn htx hen hx HMT htk hv hp1 hp2 hk h hM h5
   go_enter Tryz.func231,Tryz.ntmps231
   go_wp2_with fail
   refine HT.out.mono ?_
   rintro e w1 ⟨rfl,k1,k2⟩
   have HR1:Hid (Ho w1 w.heap.size #[.int .i64 0,.int .i64 0,.string ⟨#[]⟩,.bool false] 56):=Lib.hid ((k2.block _ HR0.out.lt (by show ¬ w.heap.size=g; omega)).trans HR0.out)
   have HV1:=Lib.hid (errR_kp HV0.out hgl (by have:=HB0.out.size; omega) k2)
   have HK1:=Lib.hid ((Kp.of_below HB0.out).trans k2)
   have HP1:=Lib.hid k1
   have hw1:w.heap.size < w1.heap.size:=HR1.out.lt
   have hgw1:=k1.lt
   clear k1 k2
   unfold tkV
   go_wp2_with fail
   have hA1:Below w1.heap.size w1 (w1.alloc (.cells #[.int .i64 (x.k:Nat),.string ⟨x.t.toArray⟩,.int .i64 (x.line:Nat),.int .i64 (x.col:Nat)] 183)):=(Below.refl _ _).alloc (Nat.le_refl _) _
   have HA1:=Lib.hid hA1
   have HX1:Hid (Ho (w1.alloc (.cells #[.int .i64 (x.k:Nat),.string ⟨x.t.toArray⟩,.int .i64 (x.line:Nat),.int .i64 (x.col:Nat)] 183)) w1.heap.size #[.int .i64 (x.k:Nat),.string ⟨x.t.toArray⟩,.int .i64 (x.line:Nat),.int .i64 (x.col:Nat)] 183):=Lib.hid (Ho.new _ _ _ rfl)
   refine (HP.out _ (errR_below HV1.out HA1.out)).mono ?_
   rintro e w2 ⟨rfl,k1⟩
   have hB2:=HA1.out.trans (k1.mono HA1.out.size)
   have HB2:=Lib.hid hB2
   have HX2:Hid (Ho w2 w1.heap.size #[.int .i64 (x.k:Nat),.string ⟨x.t.toArray⟩,.int .i64 (x.line:Nat),.int .i64 (x.col:Nat)] 183):=Lib.hid ((k1.block _ HX1.out.lt).trans HX1.out)
   have HR2:Hid (Ho w2 w.heap.size #[.int .i64 0,.int .i64 0,.string ⟨#[]⟩,.bool false] 56):=Lib.hid ((hB2.block _ HR1.out.lt).trans HR1.out)
   have HP2:=Lib.hid (HP1.out.below hB2)
   have HK2:=Lib.hid (HK1.out.below hB2)
   clear k1 hA1 hB2
   go_wp2_with fail
   refine (HI.out true _ HT5.out).mono ?_
   rintro e w3 ⟨rfl,rfl⟩
   have r0:w2.cell? ⟨w.heap.size,0,none⟩=some (.int .i64 0):=by rw [cell_of_row _ _ 0 _ _ _ HR2.out]; rfl
   have r1:w2.cell? ⟨w.heap.size,1,none⟩=some (.int .i64 0):=by rw [cell_of_row _ _ 1 _ _ _ HR2.out]; rfl
   have r2:w2.cell? ⟨w.heap.size,2,none⟩=some (.string ⟨#[]⟩):=by rw [cell_of_row _ _ 2 _ _ _ HR2.out]; rfl
   have r3:w2.cell? ⟨w.heap.size,3,none⟩=some (.bool false):=by rw [cell_of_row _ _ 3 _ _ _ HR2.out]; rfl
   have rf0:=frozen_of_row _ _ 0 _ _ HR2.out
   have rf1:=frozen_of_row _ _ 1 _ _ HR2.out
   have rf2:=frozen_of_row _ _ 2 _ _ HR2.out
   have rf3:=frozen_of_row _ _ 3 _ _ HR2.out
   clear r0 r1 r2 r3 rf0 rf1 rf2 rf3
   have HXC:Hid (∀ W,Ho W w1.heap.size #[.int .i64 (x.k:Nat),.string ⟨x.t.toArray⟩,.int .i64 (x.line:Nat),.int .i64 (x.col:Nat)] 183 → W.cell? ⟨w1.heap.size,0,none⟩=some (.int .i64 (x.k:Nat)) ∧ W.cell? ⟨w1.heap.size,1,none⟩=some (.string ⟨x.t.toArray⟩) ∧ W.cell? ⟨w1.heap.size,2,none⟩=some (.int .i64 (x.line:Nat)) ∧ W.cell? ⟨w1.heap.size,3,none⟩=some (.int .i64 (x.col:Nat))):=Lib.hid (fun W hX=>⟨by rw [cell_of_row _ _ 0 _ _ _ hX]; rfl,by rw [cell_of_row _ _ 1 _ _ _ hX]; rfl,by rw [cell_of_row _ _ 2 _ _ _ hX]; rfl,by rw [cell_of_row _ _ 3 _ _ _ hX]; rfl⟩)
   go_wp2_with fail
   refine wp_region_held_drew (S:=(fun W=>W.cell? ⟨w1.heap.size,0,none⟩=some (.int .i64 (x.k:Nat)) ∧ W.cell? ⟨w1.heap.size,1,none⟩=some (.string ⟨x.t.toArray⟩) ∧ W.cell? ⟨w1.heap.size,2,none⟩=some (.int .i64 (x.line:Nat)) ∧ W.cell? ⟨w1.heap.size,3,none⟩=some (.int .i64 (x.col:Nat)))) (by kernel_rfl) (HXC.out w2.drew HX2.out) (fun hH0=>?_)
   refine wpAnyH_take (i:=0) (v:=.pointer (some ⟨g,0,none⟩)) rfl (by kernel_rfl) (by kernel_rfl) (by kernel_rfl) (fun _ _ _ h=>h) (Or.inl ⟨by kernel_rfl,fun wS hSw=>by (try dsimp only at hSw); go_simp⟩) hH0 ?_
   refine wpAnyH_take (i:=1) (v:=.pointer (some ⟨g,0,none⟩)) rfl (by kernel_rfl) (by kernel_rfl) (by kernel_rfl) (fun _ _ _ h=>h) (Or.inl ⟨by kernel_rfl,fun wS hSw=>by (try dsimp only at hSw); go_simp⟩) hH0 ?_
   refine wpAnyH_take (i:=2) (v:=.pointer (some ⟨g,0,none⟩)) rfl (by kernel_rfl) (by kernel_rfl) (by kernel_rfl) (fun _ _ _ h=>h) (Or.inl ⟨by kernel_rfl,fun wS hSw=>by (try dsimp only at hSw); go_simp⟩) hH0 ?_
   refine wpAnyH_take (i:=3) (v:=.agg #[.int .i64 (x.k:Nat),.string ⟨x.t.toArray⟩,.int .i64 (x.line:Nat),.int .i64 (x.col:Nat)]) rfl (by kernel_rfl) (by kernel_rfl) (by kernel_rfl) (fun _ _ _ h=>h) (Or.inl ⟨by kernel_rfl,fun wS hSw=>by (try dsimp only at hSw); go_simp⟩) hH0 ?_
   refine wpAnyH_take (i:=4) (v:=.iface 44 (.int .i64 5)) rfl (by kernel_rfl) (by kernel_rfl) (by kernel_rfl) (fun _ _ _ h=>h) (Or.inl ⟨by kernel_rfl,fun wS hSw=>by (try dsimp only at hSw); go_simp⟩) hH0 ?_
   refine wpAnyH_ready (rs:=[5]) (by kernel_rfl) (by simp) ?_
   refine AllReadyH.cons rfl (fun K hK=>?_) AllReadyH.nil
   rw [if_pos (by kernel_rfl)]
   go_simp
   refine (HF.out _ (HP2.out.below ((Below.refl _ _).drew))).mono ?_
   rintro e w4 ⟨rfl,k1,k2⟩
   have k3:Kp (K1 g) w2 w4:=(Kp.of_below ((Below.refl _ _).drew)).trans k2
   have HX4:Hid (Ho w4 w1.heap.size #[.int .i64 (x.k:Nat),.string ⟨x.t.toArray⟩,.int .i64 (x.line:Nat),.int .i64 (x.col:Nat)] 183):=Lib.hid ((k3.block _ HX2.out.lt (by show ¬ w1.heap.size=g; omega)).trans HX2.out)
   have HR4:Hid (Ho w4 w.heap.size #[.int .i64 0,.int .i64 0,.string ⟨#[]⟩,.bool false] 56):=Lib.hid ((k3.block _ HR2.out.lt (by show ¬ w.heap.size=g; omega)).trans HR2.out)
   have HP4:=Lib.hid k1
   have HK4:=Lib.hid (HK2.out.trans k3)
   clear k1 k2 k3
   refine hK.out _ _ (HXC.out _ HX4.out) (fun hH1=>?_)
   clear hK K
   refine wpAnyH_done (by kernel_rfl) ?_ _
   go_simp
   clear hH0 hH1
   have r0:w4.cell? ⟨w.heap.size,0,none⟩=some (.int .i64 0):=by rw [cell_of_row _ _ 0 _ _ _ HR4.out]; rfl
   have r1:w4.cell? ⟨w.heap.size,1,none⟩=some (.int .i64 0):=by rw [cell_of_row _ _ 1 _ _ _ HR4.out]; rfl
   have r2:w4.cell? ⟨w.heap.size,2,none⟩=some (.string ⟨#[]⟩):=by rw [cell_of_row _ _ 2 _ _ _ HR4.out]; rfl
   have r3:w4.cell? ⟨w.heap.size,3,none⟩=some (.bool false):=by rw [cell_of_row _ _ 3 _ _ _ HR4.out]; rfl
   have rf0:=frozen_of_row _ _ 0 _ _ HR4.out
   have rf1:=frozen_of_row _ _ 1 _ _ HR4.out
   have rf2:=frozen_of_row _ _ 2 _ _ HR4.out
   have rf3:=frozen_of_row _ _ 3 _ _ HR4.out
   go_wp2_with fail
   refine bodyPost_ret (v:=.agg #[.int .i64 1,.int .i64 n,.string ⟨#[]⟩,.bool false]) ?_ rfl ⟨by rw [HNE2.out]; rfl,?_,?_⟩
   ·refine cs_result1 rfl _ _ _ (a:=⟨w.heap.size,0,none⟩) (by rfl) ?_
    go_simp
   ·rw [HNE2.out]
    exact ((((HP4.out.setT HR4.out.cblk (by decide) (by decide) (by decide)).setT (Ho.set (o:=0) (v:=.int .i64 1) HR4.out rfl).cblk (by decide) (by decide) (by decide)).setT (Ho.set (o:=1) (v:=.int .i64 n) (Ho.set (o:=0) (v:=.int .i64 1) HR4.out rfl) rfl).cblk (by decide) (by decide) (by decide)).setT (Ho.set (o:=2) (v:=.string ⟨#[]⟩) (Ho.set (o:=1) (v:=.int .i64 n) (Ho.set (o:=0) (v:=.int .i64 1) HR4.out rfl) rfl) rfl).cblk (by decide) (by decide) (by decide))
   ·exact par_setNew (par_setNew (par_setNew (par_setNew HK4.out (Nat.le_refl _) _) (Nat.le_refl _) _) (Nat.le_refl _) _) (Nat.le_refl _) _
  case neg =>
   have HNE2:=HNE.out
   rw [HEN.out,if_neg (by omega)] at HNE2
   have HT5:Hid (((en:Int) == 5)=false):=Lib.hid (by rw [beq_eq_false_iff_ne]; omega)
   replace HNE2:=Lib.hid HNE2
   clear HNE hn htx hen hx HMT htk hv hp1 hp2 hk h hM h5
   go_enter Tryz.func231,Tryz.ntmps231
   go_wp2_with fail
   refine HT.out.mono ?_
   rintro e w1 ⟨rfl,k1,k2⟩
   have HR1:Hid (Ho w1 w.heap.size #[.int .i64 0,.int .i64 0,.string ⟨#[]⟩,.bool false] 56):=Lib.hid ((k2.block _ HR0.out.lt (by show ¬ w.heap.size=g; omega)).trans HR0.out)
   have HV1:=Lib.hid (errR_kp HV0.out hgl (by have:=HB0.out.size; omega) k2)
   have HK1:=Lib.hid ((Kp.of_below HB0.out).trans k2)
   have HP1:=Lib.hid k1
   have hw1:w.heap.size < w1.heap.size:=HR1.out.lt
   have hgw1:=k1.lt
   clear k1 k2
   unfold tkV
   go_wp2_with fail
   have hA1:Below w1.heap.size w1 (w1.alloc (.cells #[.int .i64 (x.k:Nat),.string ⟨x.t.toArray⟩,.int .i64 (x.line:Nat),.int .i64 (x.col:Nat)] 183)):=(Below.refl _ _).alloc (Nat.le_refl _) _
   have HA1:=Lib.hid hA1
   have HX1:Hid (Ho (w1.alloc (.cells #[.int .i64 (x.k:Nat),.string ⟨x.t.toArray⟩,.int .i64 (x.line:Nat),.int .i64 (x.col:Nat)] 183)) w1.heap.size #[.int .i64 (x.k:Nat),.string ⟨x.t.toArray⟩,.int .i64 (x.line:Nat),.int .i64 (x.col:Nat)] 183):=Lib.hid (Ho.new _ _ _ rfl)
   refine (HP.out _ (errR_below HV1.out HA1.out)).mono ?_
   rintro e w2 ⟨rfl,k1⟩
   have hB2:=HA1.out.trans (k1.mono HA1.out.size)
   have HB2:=Lib.hid hB2
   have HX2:Hid (Ho w2 w1.heap.size #[.int .i64 (x.k:Nat),.string ⟨x.t.toArray⟩,.int .i64 (x.line:Nat),.int .i64 (x.col:Nat)] 183):=Lib.hid ((k1.block _ HX1.out.lt).trans HX1.out)
   have HR2:Hid (Ho w2 w.heap.size #[.int .i64 0,.int .i64 0,.string ⟨#[]⟩,.bool false] 56):=Lib.hid ((hB2.block _ HR1.out.lt).trans HR1.out)
   have HP2:=Lib.hid (HP1.out.below hB2)
   have HK2:=Lib.hid (HK1.out.below hB2)
   clear k1 hA1 hB2
   go_wp2_with fail
   refine (HI.out false _ HT5.out).mono ?_
   rintro e w3 ⟨rfl,rfl⟩
   have r0:w2.cell? ⟨w.heap.size,0,none⟩=some (.int .i64 0):=by rw [cell_of_row _ _ 0 _ _ _ HR2.out]; rfl
   have r1:w2.cell? ⟨w.heap.size,1,none⟩=some (.int .i64 0):=by rw [cell_of_row _ _ 1 _ _ _ HR2.out]; rfl
   have r2:w2.cell? ⟨w.heap.size,2,none⟩=some (.string ⟨#[]⟩):=by rw [cell_of_row _ _ 2 _ _ _ HR2.out]; rfl
   have r3:w2.cell? ⟨w.heap.size,3,none⟩=some (.bool false):=by rw [cell_of_row _ _ 3 _ _ _ HR2.out]; rfl
   have rf0:=frozen_of_row _ _ 0 _ _ HR2.out
   have rf1:=frozen_of_row _ _ 1 _ _ HR2.out
   have rf2:=frozen_of_row _ _ 2 _ _ HR2.out
   have rf3:=frozen_of_row _ _ 3 _ _ HR2.out
   go_wp2_with fail
   refine bodyPost_ret (v:=.agg #[.int .i64 1,.int .i64 n,.string ⟨#[]⟩,.bool false]) ?_ rfl ⟨by rw [HNE2.out]; rfl,?_,?_⟩
   ·refine cs_result1 rfl _ _ _ (a:=⟨w.heap.size,0,none⟩) (by rfl) ?_
    go_simp
   ·rw [HNE2.out]
    exact ((((HP2.out.setT HR2.out.cblk (by decide) (by decide) (by decide)).setT (Ho.set (o:=0) (v:=.int .i64 1) HR2.out rfl).cblk (by decide) (by decide) (by decide)).setT (Ho.set (o:=1) (v:=.int .i64 n) (Ho.set (o:=0) (v:=.int .i64 1) HR2.out rfl) rfl).cblk (by decide) (by decide) (by decide)).setT (Ho.set (o:=2) (v:=.string ⟨#[]⟩) (Ho.set (o:=1) (v:=.int .i64 n) (Ho.set (o:=0) (v:=.int .i64 1) HR2.out rfl) rfl) rfl).cblk (by decide) (by decide) (by decide))
   ·exact par_setNew (par_setNew (par_setNew (par_setNew HK2.out (Nat.le_refl _) _) (Nat.le_refl _) _) (Nat.le_refl _) _) (Nat.le_refl _) _
 case true =>
  by_cases h48:x.t=[48]
  case pos =>
   have htt:tx=x.t:=by rw [htx,HMT.out,if_neg (fun k=>k.2 h48)]
   subst htt
   have t48:(x.t != [48])=false:=by rw [h48]; rfl
   have t49:(x.t == [48])=true:=by rw [h48]; rfl
   clear h48
   by_cases h5:en=5
   case pos =>
    have HNE2:=HNE.out
    rw [HEN.out,if_pos (by omega)] at HNE2
    have HT5:Hid (((en:Int) == 5)=true):=Lib.hid (by rw [h5]; rfl)
    replace HNE2:=Lib.hid HNE2
    clear HNE hn htx hen hx HMT htk hv hp1 hp2 hk h hM h5
    go_enter Tryz.func231,Tryz.ntmps231
    go_wp2_with fail
    refine HT.out.mono ?_
    rintro e w1 ⟨rfl,k1,k2⟩
    have HR1:Hid (Ho w1 w.heap.size #[.int .i64 0,.int .i64 0,.string ⟨#[]⟩,.bool false] 56):=Lib.hid ((k2.block _ HR0.out.lt (by show ¬ w.heap.size=g; omega)).trans HR0.out)
    have HV1:=Lib.hid (errR_kp HV0.out hgl (by have:=HB0.out.size; omega) k2)
    have HK1:=Lib.hid ((Kp.of_below HB0.out).trans k2)
    have HP1:=Lib.hid k1
    have hw1:w.heap.size < w1.heap.size:=HR1.out.lt
    have hgw1:=k1.lt
    clear k1 k2
    unfold tkV
    go_wp2_with fail
    have hA1:Below w1.heap.size w1 (w1.alloc (.cells #[.int .i64 (x.k:Nat),.string ⟨x.t.toArray⟩,.int .i64 (x.line:Nat),.int .i64 (x.col:Nat)] 183)):=(Below.refl _ _).alloc (Nat.le_refl _) _
    have HA1:=Lib.hid hA1
    have HX1:Hid (Ho (w1.alloc (.cells #[.int .i64 (x.k:Nat),.string ⟨x.t.toArray⟩,.int .i64 (x.line:Nat),.int .i64 (x.col:Nat)] 183)) w1.heap.size #[.int .i64 (x.k:Nat),.string ⟨x.t.toArray⟩,.int .i64 (x.line:Nat),.int .i64 (x.col:Nat)] 183):=Lib.hid (Ho.new _ _ _ rfl)
    refine (HP.out _ (errR_below HV1.out HA1.out)).mono ?_
    rintro e w2 ⟨rfl,k1⟩
    have hB2:=HA1.out.trans (k1.mono HA1.out.size)
    have HB2:=Lib.hid hB2
    have HX2:Hid (Ho w2 w1.heap.size #[.int .i64 (x.k:Nat),.string ⟨x.t.toArray⟩,.int .i64 (x.line:Nat),.int .i64 (x.col:Nat)] 183):=Lib.hid ((k1.block _ HX1.out.lt).trans HX1.out)
    have HR2:Hid (Ho w2 w.heap.size #[.int .i64 0,.int .i64 0,.string ⟨#[]⟩,.bool false] 56):=Lib.hid ((hB2.block _ HR1.out.lt).trans HR1.out)
    have HP2:=Lib.hid (HP1.out.below hB2)
    have HK2:=Lib.hid (HK1.out.below hB2)
    clear k1 hA1 hB2
    go_wp2_with fail
    refine (HI.out true _ HT5.out).mono ?_
    rintro e w3 ⟨rfl,rfl⟩
    have r0:w2.cell? ⟨w.heap.size,0,none⟩=some (.int .i64 0):=by rw [cell_of_row _ _ 0 _ _ _ HR2.out]; rfl
    have r1:w2.cell? ⟨w.heap.size,1,none⟩=some (.int .i64 0):=by rw [cell_of_row _ _ 1 _ _ _ HR2.out]; rfl
    have r2:w2.cell? ⟨w.heap.size,2,none⟩=some (.string ⟨#[]⟩):=by rw [cell_of_row _ _ 2 _ _ _ HR2.out]; rfl
    have r3:w2.cell? ⟨w.heap.size,3,none⟩=some (.bool false):=by rw [cell_of_row _ _ 3 _ _ _ HR2.out]; rfl
    have rf0:=frozen_of_row _ _ 0 _ _ HR2.out
    have rf1:=frozen_of_row _ _ 1 _ _ HR2.out
    have rf2:=frozen_of_row _ _ 2 _ _ HR2.out
    have rf3:=frozen_of_row _ _ 3 _ _ HR2.out
    clear r0 r1 r2 r3 rf0 rf1 rf2 rf3
    have HXC:Hid (∀ W,Ho W w1.heap.size #[.int .i64 (x.k:Nat),.string ⟨x.t.toArray⟩,.int .i64 (x.line:Nat),.int .i64 (x.col:Nat)] 183 → W.cell? ⟨w1.heap.size,0,none⟩=some (.int .i64 (x.k:Nat)) ∧ W.cell? ⟨w1.heap.size,1,none⟩=some (.string ⟨x.t.toArray⟩) ∧ W.cell? ⟨w1.heap.size,2,none⟩=some (.int .i64 (x.line:Nat)) ∧ W.cell? ⟨w1.heap.size,3,none⟩=some (.int .i64 (x.col:Nat))):=Lib.hid (fun W hX=>⟨by rw [cell_of_row _ _ 0 _ _ _ hX]; rfl,by rw [cell_of_row _ _ 1 _ _ _ hX]; rfl,by rw [cell_of_row _ _ 2 _ _ _ hX]; rfl,by rw [cell_of_row _ _ 3 _ _ _ hX]; rfl⟩)
    go_wp2_with fail
    refine wp_region_held_drew (S:=(fun W=>W.cell? ⟨w1.heap.size,0,none⟩=some (.int .i64 (x.k:Nat)) ∧ W.cell? ⟨w1.heap.size,1,none⟩=some (.string ⟨x.t.toArray⟩) ∧ W.cell? ⟨w1.heap.size,2,none⟩=some (.int .i64 (x.line:Nat)) ∧ W.cell? ⟨w1.heap.size,3,none⟩=some (.int .i64 (x.col:Nat)))) (by kernel_rfl) (HXC.out w2.drew HX2.out) (fun hH0=>?_)
    refine wpAnyH_take (i:=0) (v:=.pointer (some ⟨g,0,none⟩)) rfl (by kernel_rfl) (by kernel_rfl) (by kernel_rfl) (fun _ _ _ h=>h) (Or.inl ⟨by kernel_rfl,fun wS hSw=>by (try dsimp only at hSw); go_simp⟩) hH0 ?_
    refine wpAnyH_take (i:=1) (v:=.pointer (some ⟨g,0,none⟩)) rfl (by kernel_rfl) (by kernel_rfl) (by kernel_rfl) (fun _ _ _ h=>h) (Or.inl ⟨by kernel_rfl,fun wS hSw=>by (try dsimp only at hSw); go_simp⟩) hH0 ?_
    refine wpAnyH_take (i:=2) (v:=.pointer (some ⟨g,0,none⟩)) rfl (by kernel_rfl) (by kernel_rfl) (by kernel_rfl) (fun _ _ _ h=>h) (Or.inl ⟨by kernel_rfl,fun wS hSw=>by (try dsimp only at hSw); go_simp⟩) hH0 ?_
    refine wpAnyH_take (i:=3) (v:=.agg #[.int .i64 (x.k:Nat),.string ⟨x.t.toArray⟩,.int .i64 (x.line:Nat),.int .i64 (x.col:Nat)]) rfl (by kernel_rfl) (by kernel_rfl) (by kernel_rfl) (fun _ _ _ h=>h) (Or.inl ⟨by kernel_rfl,fun wS hSw=>by (try dsimp only at hSw); go_simp⟩) hH0 ?_
    refine wpAnyH_take (i:=4) (v:=.iface 44 (.int .i64 5)) rfl (by kernel_rfl) (by kernel_rfl) (by kernel_rfl) (fun _ _ _ h=>h) (Or.inl ⟨by kernel_rfl,fun wS hSw=>by (try dsimp only at hSw); go_simp⟩) hH0 ?_
    refine wpAnyH_ready (rs:=[5]) (by kernel_rfl) (by simp) ?_
    refine AllReadyH.cons rfl (fun K hK=>?_) AllReadyH.nil
    rw [if_pos (by kernel_rfl)]
    go_simp
    refine (HF.out _ (HP2.out.below ((Below.refl _ _).drew))).mono ?_
    rintro e w4 ⟨rfl,k1,k2⟩
    have k3:Kp (K1 g) w2 w4:=(Kp.of_below ((Below.refl _ _).drew)).trans k2
    have HX4:Hid (Ho w4 w1.heap.size #[.int .i64 (x.k:Nat),.string ⟨x.t.toArray⟩,.int .i64 (x.line:Nat),.int .i64 (x.col:Nat)] 183):=Lib.hid ((k3.block _ HX2.out.lt (by show ¬ w1.heap.size=g; omega)).trans HX2.out)
    have HR4:Hid (Ho w4 w.heap.size #[.int .i64 0,.int .i64 0,.string ⟨#[]⟩,.bool false] 56):=Lib.hid ((k3.block _ HR2.out.lt (by show ¬ w.heap.size=g; omega)).trans HR2.out)
    have HP4:=Lib.hid k1
    have HK4:=Lib.hid (HK2.out.trans k3)
    clear k1 k2 k3
    refine hK.out _ _ (HXC.out _ HX4.out) (fun hH1=>?_)
    clear hK K
    refine wpAnyH_done (by kernel_rfl) ?_ _
    go_simp
    clear hH0 hH1
    have r0:w4.cell? ⟨w.heap.size,0,none⟩=some (.int .i64 0):=by rw [cell_of_row _ _ 0 _ _ _ HR4.out]; rfl
    have r1:w4.cell? ⟨w.heap.size,1,none⟩=some (.int .i64 0):=by rw [cell_of_row _ _ 1 _ _ _ HR4.out]; rfl
    have r2:w4.cell? ⟨w.heap.size,2,none⟩=some (.string ⟨#[]⟩):=by rw [cell_of_row _ _ 2 _ _ _ HR4.out]; rfl
    have r3:w4.cell? ⟨w.heap.size,3,none⟩=some (.bool false):=by rw [cell_of_row _ _ 3 _ _ _ HR4.out]; rfl
    have rf0:=frozen_of_row _ _ 0 _ _ HR4.out
    have rf1:=frozen_of_row _ _ 1 _ _ HR4.out
    have rf2:=frozen_of_row _ _ 2 _ _ HR4.out
    have rf3:=frozen_of_row _ _ 3 _ _ HR4.out
    go_wp2_with fail
    refine bodyPost_ret (v:=.agg #[.int .i64 1,.int .i64 n,.string ⟨#[]⟩,.bool false]) ?_ rfl ⟨by rw [HNE2.out]; rfl,?_,?_⟩
    ·refine cs_result1 rfl _ _ _ (a:=⟨w.heap.size,0,none⟩) (by rfl) ?_
     go_simp
    ·rw [HNE2.out]
     exact ((((HP4.out.setT HR4.out.cblk (by decide) (by decide) (by decide)).setT (Ho.set (o:=0) (v:=.int .i64 1) HR4.out rfl).cblk (by decide) (by decide) (by decide)).setT (Ho.set (o:=1) (v:=.int .i64 n) (Ho.set (o:=0) (v:=.int .i64 1) HR4.out rfl) rfl).cblk (by decide) (by decide) (by decide)).setT (Ho.set (o:=2) (v:=.string ⟨#[]⟩) (Ho.set (o:=1) (v:=.int .i64 n) (Ho.set (o:=0) (v:=.int .i64 1) HR4.out rfl) rfl) rfl).cblk (by decide) (by decide) (by decide))
    ·exact par_setNew (par_setNew (par_setNew (par_setNew HK4.out (Nat.le_refl _) _) (Nat.le_refl _) _) (Nat.le_refl _) _) (Nat.le_refl _) _
   case neg =>
    have HNE2:=HNE.out
    rw [HEN.out,if_neg (by omega)] at HNE2
    have HT5:Hid (((en:Int) == 5)=false):=Lib.hid (by rw [beq_eq_false_iff_ne]; omega)
    replace HNE2:=Lib.hid HNE2
    clear HNE hn htx hen hx HMT htk hv hp1 hp2 hk h hM h5
    go_enter Tryz.func231,Tryz.ntmps231
    go_wp2_with fail
    refine HT.out.mono ?_
    rintro e w1 ⟨rfl,k1,k2⟩
    have HR1:Hid (Ho w1 w.heap.size #[.int .i64 0,.int .i64 0,.string ⟨#[]⟩,.bool false] 56):=Lib.hid ((k2.block _ HR0.out.lt (by show ¬ w.heap.size=g; omega)).trans HR0.out)
    have HV1:=Lib.hid (errR_kp HV0.out hgl (by have:=HB0.out.size; omega) k2)
    have HK1:=Lib.hid ((Kp.of_below HB0.out).trans k2)
    have HP1:=Lib.hid k1
    have hw1:w.heap.size < w1.heap.size:=HR1.out.lt
    have hgw1:=k1.lt
    clear k1 k2
    unfold tkV
    go_wp2_with fail
    have hA1:Below w1.heap.size w1 (w1.alloc (.cells #[.int .i64 (x.k:Nat),.string ⟨x.t.toArray⟩,.int .i64 (x.line:Nat),.int .i64 (x.col:Nat)] 183)):=(Below.refl _ _).alloc (Nat.le_refl _) _
    have HA1:=Lib.hid hA1
    have HX1:Hid (Ho (w1.alloc (.cells #[.int .i64 (x.k:Nat),.string ⟨x.t.toArray⟩,.int .i64 (x.line:Nat),.int .i64 (x.col:Nat)] 183)) w1.heap.size #[.int .i64 (x.k:Nat),.string ⟨x.t.toArray⟩,.int .i64 (x.line:Nat),.int .i64 (x.col:Nat)] 183):=Lib.hid (Ho.new _ _ _ rfl)
    refine (HP.out _ (errR_below HV1.out HA1.out)).mono ?_
    rintro e w2 ⟨rfl,k1⟩
    have hB2:=HA1.out.trans (k1.mono HA1.out.size)
    have HB2:=Lib.hid hB2
    have HX2:Hid (Ho w2 w1.heap.size #[.int .i64 (x.k:Nat),.string ⟨x.t.toArray⟩,.int .i64 (x.line:Nat),.int .i64 (x.col:Nat)] 183):=Lib.hid ((k1.block _ HX1.out.lt).trans HX1.out)
    have HR2:Hid (Ho w2 w.heap.size #[.int .i64 0,.int .i64 0,.string ⟨#[]⟩,.bool false] 56):=Lib.hid ((hB2.block _ HR1.out.lt).trans HR1.out)
    have HP2:=Lib.hid (HP1.out.below hB2)
    have HK2:=Lib.hid (HK1.out.below hB2)
    clear k1 hA1 hB2
    go_wp2_with fail
    refine (HI.out false _ HT5.out).mono ?_
    rintro e w3 ⟨rfl,rfl⟩
    have r0:w2.cell? ⟨w.heap.size,0,none⟩=some (.int .i64 0):=by rw [cell_of_row _ _ 0 _ _ _ HR2.out]; rfl
    have r1:w2.cell? ⟨w.heap.size,1,none⟩=some (.int .i64 0):=by rw [cell_of_row _ _ 1 _ _ _ HR2.out]; rfl
    have r2:w2.cell? ⟨w.heap.size,2,none⟩=some (.string ⟨#[]⟩):=by rw [cell_of_row _ _ 2 _ _ _ HR2.out]; rfl
    have r3:w2.cell? ⟨w.heap.size,3,none⟩=some (.bool false):=by rw [cell_of_row _ _ 3 _ _ _ HR2.out]; rfl
    have rf0:=frozen_of_row _ _ 0 _ _ HR2.out
    have rf1:=frozen_of_row _ _ 1 _ _ HR2.out
    have rf2:=frozen_of_row _ _ 2 _ _ HR2.out
    have rf3:=frozen_of_row _ _ 3 _ _ HR2.out
    go_wp2_with fail
    refine bodyPost_ret (v:=.agg #[.int .i64 1,.int .i64 n,.string ⟨#[]⟩,.bool false]) ?_ rfl ⟨by rw [HNE2.out]; rfl,?_,?_⟩
    ·refine cs_result1 rfl _ _ _ (a:=⟨w.heap.size,0,none⟩) (by rfl) ?_
     go_simp
    ·rw [HNE2.out]
     exact ((((HP2.out.setT HR2.out.cblk (by decide) (by decide) (by decide)).setT (Ho.set (o:=0) (v:=.int .i64 1) HR2.out rfl).cblk (by decide) (by decide) (by decide)).setT (Ho.set (o:=1) (v:=.int .i64 n) (Ho.set (o:=0) (v:=.int .i64 1) HR2.out rfl) rfl).cblk (by decide) (by decide) (by decide)).setT (Ho.set (o:=2) (v:=.string ⟨#[]⟩) (Ho.set (o:=1) (v:=.int .i64 n) (Ho.set (o:=0) (v:=.int .i64 1) HR2.out rfl) rfl) rfl).cblk (by decide) (by decide) (by decide))
    ·exact par_setNew (par_setNew (par_setNew (par_setNew HK2.out (Nat.le_refl _) _) (Nat.le_refl _) _) (Nat.le_refl _) _) (Nat.le_refl _) _
  case neg =>
   have htt:tx=45 :: x.t:=by rw [htx,HMT.out,if_pos ⟨rfl,h48⟩]
   have t48:(x.t != [48])=true:=by rw [bne_iff_ne]; exact h48
   have t49:(x.t == [48])=false:=by rw [beq_eq_false_iff_ne]; exact h48
   subst htt
   clear h48
   by_cases h5:en=5
   case pos =>
    have HNE2:=HNE.out
    rw [HEN.out,if_pos (by omega)] at HNE2
    have HT5:Hid (((en:Int) == 5)=true):=Lib.hid (by rw [h5]; rfl)
    replace HNE2:=Lib.hid HNE2
    clear HNE hn htx hen hx HMT htk hv hp1 hp2 hk h hM h5
    go_enter Tryz.func231,Tryz.ntmps231
    go_wp2_with fail
    refine HT.out.mono ?_
    rintro e w1 ⟨rfl,k1,k2⟩
    have HR1:Hid (Ho w1 w.heap.size #[.int .i64 0,.int .i64 0,.string ⟨#[]⟩,.bool false] 56):=Lib.hid ((k2.block _ HR0.out.lt (by show ¬ w.heap.size=g; omega)).trans HR0.out)
    have HV1:=Lib.hid (errR_kp HV0.out hgl (by have:=HB0.out.size; omega) k2)
    have HK1:=Lib.hid ((Kp.of_below HB0.out).trans k2)
    have HP1:=Lib.hid k1
    have hw1:w.heap.size < w1.heap.size:=HR1.out.lt
    have hgw1:=k1.lt
    clear k1 k2
    unfold tkV
    go_wp2_with fail
    have hA1:Below w1.heap.size w1 (w1.alloc (.cells #[.int .i64 (x.k:Nat),.string ⟨x.t.toArray⟩,.int .i64 (x.line:Nat),.int .i64 (x.col:Nat)] 183)):=(Below.refl _ _).alloc (Nat.le_refl _) _
    have HA1:=Lib.hid hA1
    have HX1:Hid (Ho (w1.alloc (.cells #[.int .i64 (x.k:Nat),.string ⟨x.t.toArray⟩,.int .i64 (x.line:Nat),.int .i64 (x.col:Nat)] 183)) w1.heap.size #[.int .i64 (x.k:Nat),.string ⟨x.t.toArray⟩,.int .i64 (x.line:Nat),.int .i64 (x.col:Nat)] 183):=Lib.hid (Ho.new _ _ _ rfl)
    refine (HP.out _ (errR_below HV1.out HA1.out)).mono ?_
    rintro e w2 ⟨rfl,k1⟩
    have hB2:=HA1.out.trans (k1.mono HA1.out.size)
    have HB2:=Lib.hid hB2
    have HX2:Hid (Ho w2 w1.heap.size #[.int .i64 (x.k:Nat),.string ⟨x.t.toArray⟩,.int .i64 (x.line:Nat),.int .i64 (x.col:Nat)] 183):=Lib.hid ((k1.block _ HX1.out.lt).trans HX1.out)
    have HR2:Hid (Ho w2 w.heap.size #[.int .i64 0,.int .i64 0,.string ⟨#[]⟩,.bool false] 56):=Lib.hid ((hB2.block _ HR1.out.lt).trans HR1.out)
    have HP2:=Lib.hid (HP1.out.below hB2)
    have HK2:=Lib.hid (HK1.out.below hB2)
    clear k1 hA1 hB2
    go_wp2_with fail
    refine (HI.out true _ HT5.out).mono ?_
    rintro e w3 ⟨rfl,rfl⟩
    have r0:w2.cell? ⟨w.heap.size,0,none⟩=some (.int .i64 0):=by rw [cell_of_row _ _ 0 _ _ _ HR2.out]; rfl
    have r1:w2.cell? ⟨w.heap.size,1,none⟩=some (.int .i64 0):=by rw [cell_of_row _ _ 1 _ _ _ HR2.out]; rfl
    have r2:w2.cell? ⟨w.heap.size,2,none⟩=some (.string ⟨#[]⟩):=by rw [cell_of_row _ _ 2 _ _ _ HR2.out]; rfl
    have r3:w2.cell? ⟨w.heap.size,3,none⟩=some (.bool false):=by rw [cell_of_row _ _ 3 _ _ _ HR2.out]; rfl
    have rf0:=frozen_of_row _ _ 0 _ _ HR2.out
    have rf1:=frozen_of_row _ _ 1 _ _ HR2.out
    have rf2:=frozen_of_row _ _ 2 _ _ HR2.out
    have rf3:=frozen_of_row _ _ 3 _ _ HR2.out
    clear r0 r1 r2 r3 rf0 rf1 rf2 rf3
    have HXC:Hid (∀ W,Ho W w1.heap.size #[.int .i64 (x.k:Nat),.string ⟨x.t.toArray⟩,.int .i64 (x.line:Nat),.int .i64 (x.col:Nat)] 183 → W.cell? ⟨w1.heap.size,0,none⟩=some (.int .i64 (x.k:Nat)) ∧ W.cell? ⟨w1.heap.size,1,none⟩=some (.string ⟨x.t.toArray⟩) ∧ W.cell? ⟨w1.heap.size,2,none⟩=some (.int .i64 (x.line:Nat)) ∧ W.cell? ⟨w1.heap.size,3,none⟩=some (.int .i64 (x.col:Nat))):=Lib.hid (fun W hX=>⟨by rw [cell_of_row _ _ 0 _ _ _ hX]; rfl,by rw [cell_of_row _ _ 1 _ _ _ hX]; rfl,by rw [cell_of_row _ _ 2 _ _ _ hX]; rfl,by rw [cell_of_row _ _ 3 _ _ _ hX]; rfl⟩)
    go_wp2_with fail
    refine wp_region_held_drew (S:=(fun W=>W.cell? ⟨w1.heap.size,0,none⟩=some (.int .i64 (x.k:Nat)) ∧ W.cell? ⟨w1.heap.size,1,none⟩=some (.string ⟨x.t.toArray⟩) ∧ W.cell? ⟨w1.heap.size,2,none⟩=some (.int .i64 (x.line:Nat)) ∧ W.cell? ⟨w1.heap.size,3,none⟩=some (.int .i64 (x.col:Nat)))) (by kernel_rfl) (HXC.out w2.drew HX2.out) (fun hH0=>?_)
    refine wpAnyH_take (i:=0) (v:=.pointer (some ⟨g,0,none⟩)) rfl (by kernel_rfl) (by kernel_rfl) (by kernel_rfl) (fun _ _ _ h=>h) (Or.inl ⟨by kernel_rfl,fun wS hSw=>by (try dsimp only at hSw); go_simp⟩) hH0 ?_
    refine wpAnyH_take (i:=1) (v:=.pointer (some ⟨g,0,none⟩)) rfl (by kernel_rfl) (by kernel_rfl) (by kernel_rfl) (fun _ _ _ h=>h) (Or.inl ⟨by kernel_rfl,fun wS hSw=>by (try dsimp only at hSw); go_simp⟩) hH0 ?_
    refine wpAnyH_take (i:=2) (v:=.pointer (some ⟨g,0,none⟩)) rfl (by kernel_rfl) (by kernel_rfl) (by kernel_rfl) (fun _ _ _ h=>h) (Or.inl ⟨by kernel_rfl,fun wS hSw=>by (try dsimp only at hSw); go_simp⟩) hH0 ?_
    refine wpAnyH_take (i:=3) (v:=.agg #[.int .i64 (x.k:Nat),.string ⟨x.t.toArray⟩,.int .i64 (x.line:Nat),.int .i64 (x.col:Nat)]) rfl (by kernel_rfl) (by kernel_rfl) (by kernel_rfl) (fun _ _ _ h=>h) (Or.inl ⟨by kernel_rfl,fun wS hSw=>by (try dsimp only at hSw); go_simp⟩) hH0 ?_
    refine wpAnyH_take (i:=4) (v:=.iface 44 (.int .i64 5)) rfl (by kernel_rfl) (by kernel_rfl) (by kernel_rfl) (fun _ _ _ h=>h) (Or.inl ⟨by kernel_rfl,fun wS hSw=>by (try dsimp only at hSw); go_simp⟩) hH0 ?_
    refine wpAnyH_ready (rs:=[5]) (by kernel_rfl) (by simp) ?_
    refine AllReadyH.cons rfl (fun K hK=>?_) AllReadyH.nil
    rw [if_pos (by kernel_rfl)]
    go_simp
    refine (HF.out _ (HP2.out.below ((Below.refl _ _).drew))).mono ?_
    rintro e w4 ⟨rfl,k1,k2⟩
    have k3:Kp (K1 g) w2 w4:=(Kp.of_below ((Below.refl _ _).drew)).trans k2
    have HX4:Hid (Ho w4 w1.heap.size #[.int .i64 (x.k:Nat),.string ⟨x.t.toArray⟩,.int .i64 (x.line:Nat),.int .i64 (x.col:Nat)] 183):=Lib.hid ((k3.block _ HX2.out.lt (by show ¬ w1.heap.size=g; omega)).trans HX2.out)
    have HR4:Hid (Ho w4 w.heap.size #[.int .i64 0,.int .i64 0,.string ⟨#[]⟩,.bool false] 56):=Lib.hid ((k3.block _ HR2.out.lt (by show ¬ w.heap.size=g; omega)).trans HR2.out)
    have HP4:=Lib.hid k1
    have HK4:=Lib.hid (HK2.out.trans k3)
    clear k1 k2 k3
    refine hK.out _ _ (HXC.out _ HX4.out) (fun hH1=>?_)
    clear hK K
    refine wpAnyH_done (by kernel_rfl) ?_ _
    go_simp
    clear hH0 hH1
    have r0:w4.cell? ⟨w.heap.size,0,none⟩=some (.int .i64 0):=by rw [cell_of_row _ _ 0 _ _ _ HR4.out]; rfl
    have r1:w4.cell? ⟨w.heap.size,1,none⟩=some (.int .i64 0):=by rw [cell_of_row _ _ 1 _ _ _ HR4.out]; rfl
    have r2:w4.cell? ⟨w.heap.size,2,none⟩=some (.string ⟨#[]⟩):=by rw [cell_of_row _ _ 2 _ _ _ HR4.out]; rfl
    have r3:w4.cell? ⟨w.heap.size,3,none⟩=some (.bool false):=by rw [cell_of_row _ _ 3 _ _ _ HR4.out]; rfl
    have rf0:=frozen_of_row _ _ 0 _ _ HR4.out
    have rf1:=frozen_of_row _ _ 1 _ _ HR4.out
    have rf2:=frozen_of_row _ _ 2 _ _ HR4.out
    have rf3:=frozen_of_row _ _ 3 _ _ HR4.out
    go_wp2_with fail
    refine bodyPost_ret (v:=.agg #[.int .i64 1,.int .i64 n,.string ⟨#[]⟩,.bool false]) ?_ rfl ⟨by rw [HNE2.out]; rfl,?_,?_⟩
    ·refine cs_result1 rfl _ _ _ (a:=⟨w.heap.size,0,none⟩) (by rfl) ?_
     go_simp
    ·rw [HNE2.out]
     exact ((((HP4.out.setT HR4.out.cblk (by decide) (by decide) (by decide)).setT (Ho.set (o:=0) (v:=.int .i64 1) HR4.out rfl).cblk (by decide) (by decide) (by decide)).setT (Ho.set (o:=1) (v:=.int .i64 n) (Ho.set (o:=0) (v:=.int .i64 1) HR4.out rfl) rfl).cblk (by decide) (by decide) (by decide)).setT (Ho.set (o:=2) (v:=.string ⟨#[]⟩) (Ho.set (o:=1) (v:=.int .i64 n) (Ho.set (o:=0) (v:=.int .i64 1) HR4.out rfl) rfl) rfl).cblk (by decide) (by decide) (by decide))
    ·exact par_setNew (par_setNew (par_setNew (par_setNew HK4.out (Nat.le_refl _) _) (Nat.le_refl _) _) (Nat.le_refl _) _) (Nat.le_refl _) _
   case neg =>
    have HNE2:=HNE.out
    rw [HEN.out,if_neg (by omega)] at HNE2
    have HT5:Hid (((en:Int) == 5)=false):=Lib.hid (by rw [beq_eq_false_iff_ne]; omega)
    replace HNE2:=Lib.hid HNE2
    clear HNE hn htx hen hx HMT htk hv hp1 hp2 hk h hM h5
    go_enter Tryz.func231,Tryz.ntmps231
    go_wp2_with fail
    refine HT.out.mono ?_
    rintro e w1 ⟨rfl,k1,k2⟩
    have HR1:Hid (Ho w1 w.heap.size #[.int .i64 0,.int .i64 0,.string ⟨#[]⟩,.bool false] 56):=Lib.hid ((k2.block _ HR0.out.lt (by show ¬ w.heap.size=g; omega)).trans HR0.out)
    have HV1:=Lib.hid (errR_kp HV0.out hgl (by have:=HB0.out.size; omega) k2)
    have HK1:=Lib.hid ((Kp.of_below HB0.out).trans k2)
    have HP1:=Lib.hid k1
    have hw1:w.heap.size < w1.heap.size:=HR1.out.lt
    have hgw1:=k1.lt
    clear k1 k2
    unfold tkV
    go_wp2_with fail
    have hA1:Below w1.heap.size w1 (w1.alloc (.cells #[.int .i64 (x.k:Nat),.string ⟨x.t.toArray⟩,.int .i64 (x.line:Nat),.int .i64 (x.col:Nat)] 183)):=(Below.refl _ _).alloc (Nat.le_refl _) _
    have HA1:=Lib.hid hA1
    have HX1:Hid (Ho (w1.alloc (.cells #[.int .i64 (x.k:Nat),.string ⟨x.t.toArray⟩,.int .i64 (x.line:Nat),.int .i64 (x.col:Nat)] 183)) w1.heap.size #[.int .i64 (x.k:Nat),.string ⟨x.t.toArray⟩,.int .i64 (x.line:Nat),.int .i64 (x.col:Nat)] 183):=Lib.hid (Ho.new _ _ _ rfl)
    refine (HP.out _ (errR_below HV1.out HA1.out)).mono ?_
    rintro e w2 ⟨rfl,k1⟩
    have hB2:=HA1.out.trans (k1.mono HA1.out.size)
    have HB2:=Lib.hid hB2
    have HX2:Hid (Ho w2 w1.heap.size #[.int .i64 (x.k:Nat),.string ⟨x.t.toArray⟩,.int .i64 (x.line:Nat),.int .i64 (x.col:Nat)] 183):=Lib.hid ((k1.block _ HX1.out.lt).trans HX1.out)
    have HR2:Hid (Ho w2 w.heap.size #[.int .i64 0,.int .i64 0,.string ⟨#[]⟩,.bool false] 56):=Lib.hid ((hB2.block _ HR1.out.lt).trans HR1.out)
    have HP2:=Lib.hid (HP1.out.below hB2)
    have HK2:=Lib.hid (HK1.out.below hB2)
    clear k1 hA1 hB2
    go_wp2_with fail
    refine (HI.out false _ HT5.out).mono ?_
    rintro e w3 ⟨rfl,rfl⟩
    have r0:w2.cell? ⟨w.heap.size,0,none⟩=some (.int .i64 0):=by rw [cell_of_row _ _ 0 _ _ _ HR2.out]; rfl
    have r1:w2.cell? ⟨w.heap.size,1,none⟩=some (.int .i64 0):=by rw [cell_of_row _ _ 1 _ _ _ HR2.out]; rfl
    have r2:w2.cell? ⟨w.heap.size,2,none⟩=some (.string ⟨#[]⟩):=by rw [cell_of_row _ _ 2 _ _ _ HR2.out]; rfl
    have r3:w2.cell? ⟨w.heap.size,3,none⟩=some (.bool false):=by rw [cell_of_row _ _ 3 _ _ _ HR2.out]; rfl
    have rf0:=frozen_of_row _ _ 0 _ _ HR2.out
    have rf1:=frozen_of_row _ _ 1 _ _ HR2.out
    have rf2:=frozen_of_row _ _ 2 _ _ HR2.out
    have rf3:=frozen_of_row _ _ 3 _ _ HR2.out
    go_wp2_with fail
    refine bodyPost_ret (v:=.agg #[.int .i64 1,.int .i64 n,.string ⟨#[]⟩,.bool false]) ?_ rfl ⟨by rw [HNE2.out]; rfl,?_,?_⟩
    ·refine cs_result1 rfl _ _ _ (a:=⟨w.heap.size,0,none⟩) (by rfl) ?_
     go_simp
    ·rw [HNE2.out]
     exact ((((HP2.out.setT HR2.out.cblk (by decide) (by decide) (by decide)).setT (Ho.set (o:=0) (v:=.int .i64 1) HR2.out rfl).cblk (by decide) (by decide) (by decide)).setT (Ho.set (o:=1) (v:=.int .i64 n) (Ho.set (o:=0) (v:=.int .i64 1) HR2.out rfl) rfl).cblk (by decide) (by decide) (by decide)).setT (Ho.set (o:=2) (v:=.string ⟨#[]⟩) (Ho.set (o:=1) (v:=.int .i64 n) (Ho.set (o:=0) (v:=.int .i64 1) HR2.out rfl) rfl) rfl).cblk (by decide) (by decide) (by decide))
    ·exact par_setNew (par_setNew (par_setNew (par_setNew HK2.out (Nat.le_refl _) _) (Nat.le_refl _) _) (Nat.le_refl _) _) (Nat.le_refl _) _
theorem tk_field0 (k l c:Int) (s:ByteArray) (w:World):(Instr.field 183 (.agg #[.int .i64 k,.string s,.int .i64 l,.int .i64 c]) 0).run Tryz.prog w=.ok (.int .i64 k) w:=by kernel_rfl
theorem tk_field1 (k l c:Int) (s:ByteArray) (w:World):(Instr.field 183 (.agg #[.int .i64 k,.string s,.int .i64 l,.int .i64 c]) 1).run Tryz.prog w=.ok (.string s) w:=by kernel_rfl
set_option maxHeartbeats 4000000 in
set_option maxRecDepth 100000 in
theorem valueM_calls (g tl tc:Nat) (ta:Option Addr) (M:List Tk) (p:Pl) (a:Addr) (w:World) (h:PlAt w g ta tl tc M p) (hM:MOk M) (hv:ErrR w a) (hgl:7 < g) (hb:isP M p [45]=true) :
  Calls Tryz.prog 187 #[.pointer (some ⟨g,0,none⟩)] w fun e w'=>e=.returned (vdV (valueC1 M (skipP p) true).1) ∧ PlAt w' g ta tl tc M (valueC1 M (skipP p) true).2 ∧ Kp (K1 g) w w':=by
 have hB0:Below w.heap.size w (w.alloc (.cells #[.int .i64 0,.int .i64 0,.string ⟨#[]⟩,.bool false] 56)):=(Below.refl _ _).alloc (Nat.le_refl _) _
 have HT0:Hid (Calls Tryz.prog 117 #[.pointer (some ⟨g,0,none⟩),.string ⟨#[45]⟩] (w.alloc (.cells #[.int .i64 0,.int .i64 0,.string ⟨#[]⟩,.bool false] 56)) fun e w'=>e=.returned (.bool true) ∧ PlAt w' g ta tl tc M (skipP p) ∧ Kp (K1 g) (w.alloc (.cells #[.int .i64 0,.int .i64 0,.string ⟨#[]⟩,.bool false] 56)) w'):=Lib.hid (by
  have:=takes_calls g tl tc ta M p ⟨#[45]⟩ _ (h.below hB0) hM.len hM.kinds
  rw [show (⟨#[45]⟩:ByteArray).data.toList=[45] from rfl,hb] at this
  exact this)
 have HR0:Hid (Ho (w.alloc (.cells #[.int .i64 0,.int .i64 0,.string ⟨#[]⟩,.bool false] 56)) w.heap.size #[.int .i64 0,.int .i64 0,.string ⟨#[]⟩,.bool false] 56):=Lib.hid (Ho.new _ _ _ rfl)
 have HV0:=Lib.hid (errR_below hv hB0)
 have hg:=h.lt
 have HB0:=Lib.hid hB0
 clear hB0 hb h hv
 obtain ⟨q,hq⟩:∃ q,q=(skipP p):=⟨_,rfl⟩
 rw [← hq] at HT0
 have HQ:=Lib.hid hq
 rw [← HQ.out]
 clear hq
 have HPK:=Lib.hid (fun w1 h1=>peek_calls g tl tc ta M q w1 h1 hM.len)
 have HTK:=Lib.hid (fun w1 h1=>take_calls g tl tc ta M q w1 h1 hM.len)
 have HTS:=Lib.hid (fun s w1 h1=>takes_calls g tl tc ta M q s w1 h1 hM.len hM.kinds)
 have HST:=Lib.hid (fun w1 h1=>stray_calls g tl tc ta M q w1 h1 hM.len)
 have HNM:=Lib.hid (fun w1 h1 hv1 hk=>number_calls g tl tc ta M q true a w1 h1 hM hv1 hgl hk)
 have HTC:Hid ((peekC M q).k ≠ 0 → takeC M q=skipP q):=Lib.hid (fun k=>by unfold takeC; rw [if_neg k])
 have HVC:Hid (valueC1 M q true=if (peekC M q).k=3 then numberC M q true else if true=true then (v0,stopP M q 16) else if (peekC M q).k=4 then (vStr (peekC M q).t,skipP q) else if isP M q kwTrue=true then (vBool true,skipP q) else if isP M q kwFalse=true then (vBool false,skipP q) else (v0,stopP M q 16)):=Lib.hid rfl
 obtain ⟨x,hx⟩:∃ x,x=peekC M q:=⟨_,rfl⟩
 have HX:=Lib.hid hx
 rw [← hx] at HPK HTK HTC HVC
 clear hx
 by_cases h3:x.k=3
 case pos =>
  have t3:((x.k:Int) == 3)=true:=by rw [h3]; rfl
  have HVX:=HVC.out
  rw [if_pos h3] at HVX
  replace HVX:=Lib.hid HVX
  have H3:Hid ((peekC M q).k=3):=Lib.hid (by rw [← HX.out]; exact h3)
  clear h3 HVC
  obtain ⟨vn,hvn⟩:∃ vn,vn=(numberC M q true).1:=⟨_,rfl⟩
  rw [← hvn] at HNM
  have HVN:=Lib.hid hvn
  clear hvn
  unfold vdV at HNM
  go_enter Tryz.func187,Tryz.ntmps187
  go_wp2_with fail
  refine HT0.out.mono ?_
  rintro e w1 ⟨rfl,k1,k2⟩
  have HR1:Hid (Ho w1 w.heap.size #[.int .i64 0,.int .i64 0,.string ⟨#[]⟩,.bool false] 56):=Lib.hid ((k2.block _ HR0.out.lt (by show ¬ w.heap.size=g; omega)).trans HR0.out)
  have HV1:=Lib.hid (errR_kp HV0.out hgl (by have:=HB0.out.size; omega) k2)
  have HK1:=Lib.hid ((Kp.of_below HB0.out).trans k2)
  have HP1:=Lib.hid k1
  clear k1 k2
  go_wp2_with fail
  refine (HPK.out _ HP1.out).mono ?_
  rintro e w2 ⟨rfl,k1⟩
  have hB2:Below w1.heap.size w1 (w2.alloc (.cells #[.int .i64 (x.k:Nat),.string ⟨x.t.toArray⟩,.int .i64 (x.line:Nat),.int .i64 (x.col:Nat)] 183)):=k1.alloc k1.size _
  have HR2:Hid (Ho (w2.alloc (.cells #[.int .i64 (x.k:Nat),.string ⟨x.t.toArray⟩,.int .i64 (x.line:Nat),.int .i64 (x.col:Nat)] 183)) w.heap.size #[.int .i64 0,.int .i64 0,.string ⟨#[]⟩,.bool false] 56):=Lib.hid ((hB2.block _ HR1.out.lt).trans HR1.out)
  have HV2:=Lib.hid (errR_below HV1.out hB2)
  have HP2:=Lib.hid (HP1.out.below hB2)
  have HK2:=Lib.hid (HK1.out.below hB2)
  clear k1 hB2
  unfold tkV
  go_wp2_with fail
  refine (HNM.out _ HP2.out HV2.out H3.out).mono ?_
  rintro e w3 ⟨rfl,k1,k2⟩
  have HR3:Hid (Ho w3 w.heap.size #[.int .i64 0,.int .i64 0,.string ⟨#[]⟩,.bool false] 56):=Lib.hid ((k2.block _ HR2.out.lt (by show ¬ w.heap.size=g; omega)).trans HR2.out)
  have HP3:=Lib.hid k1
  have HK3:=Lib.hid (HK2.out.trans k2)
  clear k1 k2
  have r0:w3.cell? ⟨w.heap.size,0,none⟩=some (.int .i64 0):=by rw [cell_of_row _ _ 0 _ _ _ HR3.out]; rfl
  have r1:w3.cell? ⟨w.heap.size,1,none⟩=some (.int .i64 0):=by rw [cell_of_row _ _ 1 _ _ _ HR3.out]; rfl
  have r2:w3.cell? ⟨w.heap.size,2,none⟩=some (.string ⟨#[]⟩):=by rw [cell_of_row _ _ 2 _ _ _ HR3.out]; rfl
  have r3:w3.cell? ⟨w.heap.size,3,none⟩=some (.bool false):=by rw [cell_of_row _ _ 3 _ _ _ HR3.out]; rfl
  have rf0:=frozen_of_row _ _ 0 _ _ HR3.out
  have rf1:=frozen_of_row _ _ 1 _ _ HR3.out
  have rf2:=frozen_of_row _ _ 2 _ _ HR3.out
  have rf3:=frozen_of_row _ _ 3 _ _ HR3.out
  have hwl:w.heap.size < w3.heap.size:=HR3.out.lt
  go_wp2_with fail
  refine bodyPost_ret (v:=.agg #[.int .i64 vn.k,.int .i64 vn.i,.string vn.s,.bool vn.b]) ?_ rfl ⟨by rw [HVX.out,← HVN.out]; rfl,?_,?_⟩
  ·refine cs_result1 rfl _ _ _ (a:=⟨w.heap.size,0,none⟩) (by rfl) ?_
   go_simp
  ·rw [HVX.out]
   exact ((((HP3.out.setT HR3.out.cblk (by decide) (by decide) (by decide)).setT (Ho.set (o:=0) (v:=.int .i64 vn.k) HR3.out rfl).cblk (by decide) (by decide) (by decide)).setT (Ho.set (o:=1) (v:=.int .i64 vn.i) (Ho.set (o:=0) (v:=.int .i64 vn.k) HR3.out rfl) rfl).cblk (by decide) (by decide) (by decide)).setT (Ho.set (o:=2) (v:=.string vn.s) (Ho.set (o:=1) (v:=.int .i64 vn.i) (Ho.set (o:=0) (v:=.int .i64 vn.k) HR3.out rfl) rfl) rfl).cblk (by decide) (by decide) (by decide))
  ·exact par_setNew (par_setNew (par_setNew (par_setNew HK3.out (Nat.le_refl _) _) (Nat.le_refl _) _) (Nat.le_refl _) _) (Nat.le_refl _) _
 case neg =>
  have t3:((x.k:Int) == 3)=false:=by rw [beq_eq_false_iff_ne]; omega
  have HVX:=HVC.out
  rw [if_neg h3] at HVX
  replace HVX:=Lib.hid HVX
  clear HVC
  have HVX2:=HVX.out
  rw [if_pos rfl] at HVX2
  replace HVX:=Lib.hid HVX2
  clear HVX2 h3
  go_enter Tryz.func187,Tryz.ntmps187
  go_wp2_with fail
  refine HT0.out.mono ?_
  rintro e w1 ⟨rfl,k1,k2⟩
  have HR1:Hid (Ho w1 w.heap.size #[.int .i64 0,.int .i64 0,.string ⟨#[]⟩,.bool false] 56):=Lib.hid ((k2.block _ HR0.out.lt (by show ¬ w.heap.size=g; omega)).trans HR0.out)
  have HV1:=Lib.hid (errR_kp HV0.out hgl (by have:=HB0.out.size; omega) k2)
  have HK1:=Lib.hid ((Kp.of_below HB0.out).trans k2)
  have HP1:=Lib.hid k1
  clear k1 k2
  go_wp2_with fail
  refine (HPK.out _ HP1.out).mono ?_
  rintro e w2 ⟨rfl,k1⟩
  have hB2:Below w1.heap.size w1 (w2.alloc (.cells #[.int .i64 (x.k:Nat),.string ⟨x.t.toArray⟩,.int .i64 (x.line:Nat),.int .i64 (x.col:Nat)] 183)):=k1.alloc k1.size _
  have HR2:Hid (Ho (w2.alloc (.cells #[.int .i64 (x.k:Nat),.string ⟨x.t.toArray⟩,.int .i64 (x.line:Nat),.int .i64 (x.col:Nat)] 183)) w.heap.size #[.int .i64 0,.int .i64 0,.string ⟨#[]⟩,.bool false] 56):=Lib.hid ((hB2.block _ HR1.out.lt).trans HR1.out)
  have HV2:=Lib.hid (errR_below HV1.out hB2)
  have HP2:=Lib.hid (HP1.out.below hB2)
  have HK2:=Lib.hid (HK1.out.below hB2)
  clear k1 hB2
  unfold tkV
  go_wp2_with fail
  refine (HST.out _ HP2.out).mono ?_
  rintro e w3 ⟨rfl,k1,k2⟩
  have HR3:Hid (Ho w3 w.heap.size #[.int .i64 0,.int .i64 0,.string ⟨#[]⟩,.bool false] 56):=Lib.hid ((k2.block _ HR2.out.lt (by show ¬ w.heap.size=g; omega)).trans HR2.out)
  have HP3:=Lib.hid k1
  have HK3:=Lib.hid (HK2.out.trans k2)
  clear k1 k2
  have r0:w3.cell? ⟨w.heap.size,0,none⟩=some (.int .i64 0):=by rw [cell_of_row _ _ 0 _ _ _ HR3.out]; rfl
  have r1:w3.cell? ⟨w.heap.size,1,none⟩=some (.int .i64 0):=by rw [cell_of_row _ _ 1 _ _ _ HR3.out]; rfl
  have r2:w3.cell? ⟨w.heap.size,2,none⟩=some (.string ⟨#[]⟩):=by rw [cell_of_row _ _ 2 _ _ _ HR3.out]; rfl
  have r3:w3.cell? ⟨w.heap.size,3,none⟩=some (.bool false):=by rw [cell_of_row _ _ 3 _ _ _ HR3.out]; rfl
  have rf0:=frozen_of_row _ _ 0 _ _ HR3.out
  have rf1:=frozen_of_row _ _ 1 _ _ HR3.out
  have rf2:=frozen_of_row _ _ 2 _ _ HR3.out
  have rf3:=frozen_of_row _ _ 3 _ _ HR3.out
  have hwl:w.heap.size < w3.heap.size:=HR3.out.lt
  go_wp2_with fail
  refine bodyPost_ret (v:=.agg #[.int .i64 0,.int .i64 0,.string ⟨#[]⟩,.bool false]) ?_ rfl ⟨by rw [HVX.out]; rfl,?_,?_⟩
  ·refine cs_result1 rfl _ _ _ (a:=⟨w.heap.size,0,none⟩) (by rfl) ?_
   go_simp
  ·rw [HVX.out]
   exact ((((HP3.out.setT HR3.out.cblk (by decide) (by decide) (by decide)).setT (Ho.set (o:=0) (v:=.int .i64 0) HR3.out rfl).cblk (by decide) (by decide) (by decide)).setT (Ho.set (o:=1) (v:=.int .i64 0) (Ho.set (o:=0) (v:=.int .i64 0) HR3.out rfl) rfl).cblk (by decide) (by decide) (by decide)).setT (Ho.set (o:=2) (v:=.string ⟨#[]⟩) (Ho.set (o:=1) (v:=.int .i64 0) (Ho.set (o:=0) (v:=.int .i64 0) HR3.out rfl) rfl) rfl).cblk (by decide) (by decide) (by decide))
  ·exact par_setNew (par_setNew (par_setNew (par_setNew HK3.out (Nat.le_refl _) _) (Nat.le_refl _) _) (Nat.le_refl _) _) (Nat.le_refl _) _
set_option maxHeartbeats 4000000 in
set_option maxRecDepth 100000 in
theorem valueN_calls (g tl tc:Nat) (ta:Option Addr) (M:List Tk) (p:Pl) (a:Addr) (w:World) (h:PlAt w g ta tl tc M p) (hM:MOk M) (hv:ErrR w a) (hgl:7 < g) (hb:isP M p [45]=false) :
  Calls Tryz.prog 187 #[.pointer (some ⟨g,0,none⟩)] w fun e w'=>e=.returned (vdV (valueC1 M p false).1) ∧ PlAt w' g ta tl tc M (valueC1 M p false).2 ∧ Kp (K1 g) w w':=by
 have hB0:Below w.heap.size w (w.alloc (.cells #[.int .i64 0,.int .i64 0,.string ⟨#[]⟩,.bool false] 56)):=(Below.refl _ _).alloc (Nat.le_refl _) _
 have HT0:Hid (Calls Tryz.prog 117 #[.pointer (some ⟨g,0,none⟩),.string ⟨#[45]⟩] (w.alloc (.cells #[.int .i64 0,.int .i64 0,.string ⟨#[]⟩,.bool false] 56)) fun e w'=>e=.returned (.bool false) ∧ PlAt w' g ta tl tc M p ∧ Kp (K1 g) (w.alloc (.cells #[.int .i64 0,.int .i64 0,.string ⟨#[]⟩,.bool false] 56)) w'):=Lib.hid (by
  have:=takes_calls g tl tc ta M p ⟨#[45]⟩ _ (h.below hB0) hM.len hM.kinds
  rw [show (⟨#[45]⟩:ByteArray).data.toList=[45] from rfl,hb] at this
  exact this)
 have HR0:Hid (Ho (w.alloc (.cells #[.int .i64 0,.int .i64 0,.string ⟨#[]⟩,.bool false] 56)) w.heap.size #[.int .i64 0,.int .i64 0,.string ⟨#[]⟩,.bool false] 56):=Lib.hid (Ho.new _ _ _ rfl)
 have HV0:=Lib.hid (errR_below hv hB0)
 have hg:=h.lt
 have HB0:=Lib.hid hB0
 clear hB0 hb h hv
 obtain ⟨q,hq⟩:∃ q,q=p:=⟨_,rfl⟩
 rw [← hq] at HT0
 have HQ:=Lib.hid hq
 rw [← HQ.out]
 clear hq
 have HPK:=Lib.hid (fun w1 h1=>peek_calls g tl tc ta M q w1 h1 hM.len)
 have HTK:=Lib.hid (fun w1 h1=>take_calls g tl tc ta M q w1 h1 hM.len)
 have HTS:=Lib.hid (fun s w1 h1=>takes_calls g tl tc ta M q s w1 h1 hM.len hM.kinds)
 have HST:=Lib.hid (fun w1 h1=>stray_calls g tl tc ta M q w1 h1 hM.len)
 have HNM:=Lib.hid (fun w1 h1 hv1 hk=>number_calls g tl tc ta M q false a w1 h1 hM hv1 hgl hk)
 have HTC:Hid ((peekC M q).k ≠ 0 → takeC M q=skipP q):=Lib.hid (fun k=>by unfold takeC; rw [if_neg k])
 have HVC:Hid (valueC1 M q false=if (peekC M q).k=3 then numberC M q false else if false=true then (v0,stopP M q 16) else if (peekC M q).k=4 then (vStr (peekC M q).t,skipP q) else if isP M q kwTrue=true then (vBool true,skipP q) else if isP M q kwFalse=true then (vBool false,skipP q) else (v0,stopP M q 16)):=Lib.hid rfl
 obtain ⟨x,hx⟩:∃ x,x=peekC M q:=⟨_,rfl⟩
 have HX:=Lib.hid hx
 rw [← hx] at HPK HTK HTC HVC
 clear hx
 by_cases h3:x.k=3
 case pos =>
  have t3:((x.k:Int) == 3)=true:=by rw [h3]; rfl
  have HVX:=HVC.out
  rw [if_pos h3] at HVX
  replace HVX:=Lib.hid HVX
  have H3:Hid ((peekC M q).k=3):=Lib.hid (by rw [← HX.out]; exact h3)
  clear h3 HVC
  obtain ⟨vn,hvn⟩:∃ vn,vn=(numberC M q false).1:=⟨_,rfl⟩
  rw [← hvn] at HNM
  have HVN:=Lib.hid hvn
  clear hvn
  unfold vdV at HNM
  go_enter Tryz.func187,Tryz.ntmps187
  go_wp2_with fail
  refine HT0.out.mono ?_
  rintro e w1 ⟨rfl,k1,k2⟩
  have HR1:Hid (Ho w1 w.heap.size #[.int .i64 0,.int .i64 0,.string ⟨#[]⟩,.bool false] 56):=Lib.hid ((k2.block _ HR0.out.lt (by show ¬ w.heap.size=g; omega)).trans HR0.out)
  have HV1:=Lib.hid (errR_kp HV0.out hgl (by have:=HB0.out.size; omega) k2)
  have HK1:=Lib.hid ((Kp.of_below HB0.out).trans k2)
  have HP1:=Lib.hid k1
  clear k1 k2
  go_wp2_with fail
  refine (HPK.out _ HP1.out).mono ?_
  rintro e w2 ⟨rfl,k1⟩
  have hB2:Below w1.heap.size w1 (w2.alloc (.cells #[.int .i64 (x.k:Nat),.string ⟨x.t.toArray⟩,.int .i64 (x.line:Nat),.int .i64 (x.col:Nat)] 183)):=k1.alloc k1.size _
  have HR2:Hid (Ho (w2.alloc (.cells #[.int .i64 (x.k:Nat),.string ⟨x.t.toArray⟩,.int .i64 (x.line:Nat),.int .i64 (x.col:Nat)] 183)) w.heap.size #[.int .i64 0,.int .i64 0,.string ⟨#[]⟩,.bool false] 56):=Lib.hid ((hB2.block _ HR1.out.lt).trans HR1.out)
  have HV2:=Lib.hid (errR_below HV1.out hB2)
  have HP2:=Lib.hid (HP1.out.below hB2)
  have HK2:=Lib.hid (HK1.out.below hB2)
  clear k1 hB2
  unfold tkV
  go_wp2_with fail
  refine (HNM.out _ HP2.out HV2.out H3.out).mono ?_
  rintro e w3 ⟨rfl,k1,k2⟩
  have HR3:Hid (Ho w3 w.heap.size #[.int .i64 0,.int .i64 0,.string ⟨#[]⟩,.bool false] 56):=Lib.hid ((k2.block _ HR2.out.lt (by show ¬ w.heap.size=g; omega)).trans HR2.out)
  have HP3:=Lib.hid k1
  have HK3:=Lib.hid (HK2.out.trans k2)
  clear k1 k2
  have r0:w3.cell? ⟨w.heap.size,0,none⟩=some (.int .i64 0):=by rw [cell_of_row _ _ 0 _ _ _ HR3.out]; rfl
  have r1:w3.cell? ⟨w.heap.size,1,none⟩=some (.int .i64 0):=by rw [cell_of_row _ _ 1 _ _ _ HR3.out]; rfl
  have r2:w3.cell? ⟨w.heap.size,2,none⟩=some (.string ⟨#[]⟩):=by rw [cell_of_row _ _ 2 _ _ _ HR3.out]; rfl
  have r3:w3.cell? ⟨w.heap.size,3,none⟩=some (.bool false):=by rw [cell_of_row _ _ 3 _ _ _ HR3.out]; rfl
  have rf0:=frozen_of_row _ _ 0 _ _ HR3.out
  have rf1:=frozen_of_row _ _ 1 _ _ HR3.out
  have rf2:=frozen_of_row _ _ 2 _ _ HR3.out
  have rf3:=frozen_of_row _ _ 3 _ _ HR3.out
  have hwl:w.heap.size < w3.heap.size:=HR3.out.lt
  go_wp2_with fail
  refine bodyPost_ret (v:=.agg #[.int .i64 vn.k,.int .i64 vn.i,.string vn.s,.bool vn.b]) ?_ rfl ⟨by rw [HVX.out,← HVN.out]; rfl,?_,?_⟩
  ·refine cs_result1 rfl _ _ _ (a:=⟨w.heap.size,0,none⟩) (by rfl) ?_
   go_simp
  ·rw [HVX.out]
   exact ((((HP3.out.setT HR3.out.cblk (by decide) (by decide) (by decide)).setT (Ho.set (o:=0) (v:=.int .i64 vn.k) HR3.out rfl).cblk (by decide) (by decide) (by decide)).setT (Ho.set (o:=1) (v:=.int .i64 vn.i) (Ho.set (o:=0) (v:=.int .i64 vn.k) HR3.out rfl) rfl).cblk (by decide) (by decide) (by decide)).setT (Ho.set (o:=2) (v:=.string vn.s) (Ho.set (o:=1) (v:=.int .i64 vn.i) (Ho.set (o:=0) (v:=.int .i64 vn.k) HR3.out rfl) rfl) rfl).cblk (by decide) (by decide) (by decide))
  ·exact par_setNew (par_setNew (par_setNew (par_setNew HK3.out (Nat.le_refl _) _) (Nat.le_refl _) _) (Nat.le_refl _) _) (Nat.le_refl _) _
 case neg =>
  have t3:((x.k:Int) == 3)=false:=by rw [beq_eq_false_iff_ne]; omega
  have HVX:=HVC.out
  rw [if_neg h3] at HVX
  replace HVX:=Lib.hid HVX
  clear HVC
  have HVX2:=HVX.out
  rw [if_neg (by decide)] at HVX2
  clear h3
  by_cases h4:x.k=4
  case pos =>
   have t4:((x.k:Int) == 4)=true:=by rw [h4]; rfl
   rw [if_pos h4] at HVX2
   replace HVX:=Lib.hid HVX2
   have HTE:=HTC.out (by omega)
   rw [HTE] at HTK
   clear HVX2 h4 HTE HTC
   go_enter Tryz.func187,Tryz.ntmps187
   go_wp2_with fail
   refine HT0.out.mono ?_
   rintro e w1 ⟨rfl,k1,k2⟩
   have HR1:Hid (Ho w1 w.heap.size #[.int .i64 0,.int .i64 0,.string ⟨#[]⟩,.bool false] 56):=Lib.hid ((k2.block _ HR0.out.lt (by show ¬ w.heap.size=g; omega)).trans HR0.out)
   have HV1:=Lib.hid (errR_kp HV0.out hgl (by have:=HB0.out.size; omega) k2)
   have HK1:=Lib.hid ((Kp.of_below HB0.out).trans k2)
   have HP1:=Lib.hid k1
   clear k1 k2
   go_wp2_with fail
   refine (HPK.out _ HP1.out).mono ?_
   rintro e w2 ⟨rfl,k1⟩
   have hB2:Below w1.heap.size w1 (w2.alloc (.cells #[.int .i64 (x.k:Nat),.string ⟨x.t.toArray⟩,.int .i64 (x.line:Nat),.int .i64 (x.col:Nat)] 183)):=k1.alloc k1.size _
   have HR2:Hid (Ho (w2.alloc (.cells #[.int .i64 (x.k:Nat),.string ⟨x.t.toArray⟩,.int .i64 (x.line:Nat),.int .i64 (x.col:Nat)] 183)) w.heap.size #[.int .i64 0,.int .i64 0,.string ⟨#[]⟩,.bool false] 56):=Lib.hid ((hB2.block _ HR1.out.lt).trans HR1.out)
   have HV2:=Lib.hid (errR_below HV1.out hB2)
   have HP2:=Lib.hid (HP1.out.below hB2)
   have HK2:=Lib.hid (HK1.out.below hB2)
   clear k1 hB2
   unfold tkV
   go_wp2_with fail
   unfold tkV at HTK
   refine (HTK.out _ HP2.out).mono ?_
   rintro e w3 ⟨rfl,k1,k2⟩
   have HR3:Hid (Ho w3 w.heap.size #[.int .i64 0,.int .i64 0,.string ⟨#[]⟩,.bool false] 56):=Lib.hid ((k2.block _ HR2.out.lt (by show ¬ w.heap.size=g; omega)).trans HR2.out)
   have HP3:=Lib.hid k1
   have HK3:=Lib.hid (HK2.out.trans k2)
   clear k1 k2
   have r0:w3.cell? ⟨w.heap.size,0,none⟩=some (.int .i64 0):=by rw [cell_of_row _ _ 0 _ _ _ HR3.out]; rfl
   have r1:w3.cell? ⟨w.heap.size,1,none⟩=some (.int .i64 0):=by rw [cell_of_row _ _ 1 _ _ _ HR3.out]; rfl
   have r2:w3.cell? ⟨w.heap.size,2,none⟩=some (.string ⟨#[]⟩):=by rw [cell_of_row _ _ 2 _ _ _ HR3.out]; rfl
   have r3:w3.cell? ⟨w.heap.size,3,none⟩=some (.bool false):=by rw [cell_of_row _ _ 3 _ _ _ HR3.out]; rfl
   have rf0:=frozen_of_row _ _ 0 _ _ HR3.out
   have rf1:=frozen_of_row _ _ 1 _ _ HR3.out
   have rf2:=frozen_of_row _ _ 2 _ _ HR3.out
   have rf3:=frozen_of_row _ _ 3 _ _ HR3.out
   have hwl:w.heap.size < w3.heap.size:=HR3.out.lt
   clear t3 t4
   have q1:=fun w=>tk_field1 (x.k:Nat) (x.line:Nat) (x.col:Nat) ⟨x.t.toArray⟩ w
   go_wp2_with fail
   refine bodyPost_ret (v:=.agg #[.int .i64 2,.int .i64 0,.string ⟨x.t.toArray⟩,.bool false]) ?_ rfl ⟨by rw [HVX.out]; rfl,?_,?_⟩
   ·refine cs_result1 rfl _ _ _ (a:=⟨w.heap.size,0,none⟩) (by rfl) ?_
    go_simp
   ·rw [HVX.out]
    exact ((((HP3.out.setT HR3.out.cblk (by decide) (by decide) (by decide)).setT (Ho.set (o:=0) (v:=.int .i64 2) HR3.out rfl).cblk (by decide) (by decide) (by decide)).setT (Ho.set (o:=1) (v:=.int .i64 0) (Ho.set (o:=0) (v:=.int .i64 2) HR3.out rfl) rfl).cblk (by decide) (by decide) (by decide)).setT (Ho.set (o:=2) (v:=.string ⟨x.t.toArray⟩) (Ho.set (o:=1) (v:=.int .i64 0) (Ho.set (o:=0) (v:=.int .i64 2) HR3.out rfl) rfl) rfl).cblk (by decide) (by decide) (by decide))
   ·exact par_setNew (par_setNew (par_setNew (par_setNew HK3.out (Nat.le_refl _) _) (Nat.le_refl _) _) (Nat.le_refl _) _) (Nat.le_refl _) _
  case neg =>
   have t4:((x.k:Int) == 4)=false:=by rw [beq_eq_false_iff_ne]; omega
   rw [if_neg h4] at HVX2
   clear h4 HVX
   cases h5:isP M q kwTrue
   case true =>
    have HS5:Hid (∀ w1,PlAt w1 g ta tl tc M q → Calls Tryz.prog 117 #[.pointer (some ⟨g,0,none⟩),.string ⟨#[116,114,117,101]⟩] w1 fun e w'=>e=.returned (.bool true) ∧ PlAt w' g ta tl tc M (skipP q) ∧ Kp (K1 g) w1 w'):=Lib.hid (fun w1 hw=>by
     have:=HTS.out ⟨#[116,114,117,101]⟩ w1 hw
     rw [show (⟨#[116,114,117,101]⟩:ByteArray).data.toList=kwTrue from rfl,h5] at this
     exact this)
    rw [if_pos h5] at HVX2
    have HVX:=Lib.hid HVX2
    clear HVX2 h5
    go_enter Tryz.func187,Tryz.ntmps187
    go_wp2_with fail
    refine HT0.out.mono ?_
    rintro e w1 ⟨rfl,k1,k2⟩
    have HR1:Hid (Ho w1 w.heap.size #[.int .i64 0,.int .i64 0,.string ⟨#[]⟩,.bool false] 56):=Lib.hid ((k2.block _ HR0.out.lt (by show ¬ w.heap.size=g; omega)).trans HR0.out)
    have HV1:=Lib.hid (errR_kp HV0.out hgl (by have:=HB0.out.size; omega) k2)
    have HK1:=Lib.hid ((Kp.of_below HB0.out).trans k2)
    have HP1:=Lib.hid k1
    clear k1 k2
    go_wp2_with fail
    refine (HPK.out _ HP1.out).mono ?_
    rintro e w2 ⟨rfl,k1⟩
    have hB2:Below w1.heap.size w1 (w2.alloc (.cells #[.int .i64 (x.k:Nat),.string ⟨x.t.toArray⟩,.int .i64 (x.line:Nat),.int .i64 (x.col:Nat)] 183)):=k1.alloc k1.size _
    have HR2:Hid (Ho (w2.alloc (.cells #[.int .i64 (x.k:Nat),.string ⟨x.t.toArray⟩,.int .i64 (x.line:Nat),.int .i64 (x.col:Nat)] 183)) w.heap.size #[.int .i64 0,.int .i64 0,.string ⟨#[]⟩,.bool false] 56):=Lib.hid ((hB2.block _ HR1.out.lt).trans HR1.out)
    have HV2:=Lib.hid (errR_below HV1.out hB2)
    have HP2:=Lib.hid (HP1.out.below hB2)
    have HK2:=Lib.hid (HK1.out.below hB2)
    clear k1 hB2
    unfold tkV
    go_wp2_with fail
    refine (HS5.out _ HP2.out).mono ?_
    rintro e w3 ⟨rfl,k1,k2⟩
    have HR3:Hid (Ho w3 w.heap.size #[.int .i64 0,.int .i64 0,.string ⟨#[]⟩,.bool false] 56):=Lib.hid ((k2.block _ HR2.out.lt (by show ¬ w.heap.size=g; omega)).trans HR2.out)
    have HP3:=Lib.hid k1
    have HK3:=Lib.hid (HK2.out.trans k2)
    clear k1 k2
    have r0:w3.cell? ⟨w.heap.size,0,none⟩=some (.int .i64 0):=by rw [cell_of_row _ _ 0 _ _ _ HR3.out]; rfl
    have r1:w3.cell? ⟨w.heap.size,1,none⟩=some (.int .i64 0):=by rw [cell_of_row _ _ 1 _ _ _ HR3.out]; rfl
    have r2:w3.cell? ⟨w.heap.size,2,none⟩=some (.string ⟨#[]⟩):=by rw [cell_of_row _ _ 2 _ _ _ HR3.out]; rfl
    have r3:w3.cell? ⟨w.heap.size,3,none⟩=some (.bool false):=by rw [cell_of_row _ _ 3 _ _ _ HR3.out]; rfl
    have rf0:=frozen_of_row _ _ 0 _ _ HR3.out
    have rf1:=frozen_of_row _ _ 1 _ _ HR3.out
    have rf2:=frozen_of_row _ _ 2 _ _ HR3.out
    have rf3:=frozen_of_row _ _ 3 _ _ HR3.out
    have hwl:w.heap.size < w3.heap.size:=HR3.out.lt
    go_wp2_with fail
    refine bodyPost_ret (v:=.agg #[.int .i64 3,.int .i64 0,.string ⟨#[]⟩,.bool true]) ?_ rfl ⟨by rw [HVX.out]; rfl,?_,?_⟩
    ·refine cs_result1 rfl _ _ _ (a:=⟨w.heap.size,0,none⟩) (by rfl) ?_
     go_simp
    ·rw [HVX.out]
     exact ((((HP3.out.setT HR3.out.cblk (by decide) (by decide) (by decide)).setT (Ho.set (o:=0) (v:=.int .i64 3) HR3.out rfl).cblk (by decide) (by decide) (by decide)).setT (Ho.set (o:=1) (v:=.int .i64 0) (Ho.set (o:=0) (v:=.int .i64 3) HR3.out rfl) rfl).cblk (by decide) (by decide) (by decide)).setT (Ho.set (o:=2) (v:=.string ⟨#[]⟩) (Ho.set (o:=1) (v:=.int .i64 0) (Ho.set (o:=0) (v:=.int .i64 3) HR3.out rfl) rfl) rfl).cblk (by decide) (by decide) (by decide))
    ·exact par_setNew (par_setNew (par_setNew (par_setNew HK3.out (Nat.le_refl _) _) (Nat.le_refl _) _) (Nat.le_refl _) _) (Nat.le_refl _) _
   case false =>
    have HS5:Hid (∀ w1,PlAt w1 g ta tl tc M q → Calls Tryz.prog 117 #[.pointer (some ⟨g,0,none⟩),.string ⟨#[116,114,117,101]⟩] w1 fun e w'=>e=.returned (.bool false) ∧ PlAt w' g ta tl tc M q ∧ Kp (K1 g) w1 w'):=Lib.hid (fun w1 hw=>by
     have:=HTS.out ⟨#[116,114,117,101]⟩ w1 hw
     rw [show (⟨#[116,114,117,101]⟩:ByteArray).data.toList=kwTrue from rfl,h5] at this
     exact this)
    rw [if_neg (by rw [h5]; decide)] at HVX2
    clear h5
    cases h6:isP M q kwFalse
    case true =>
     have HS6:Hid (∀ w1,PlAt w1 g ta tl tc M q → Calls Tryz.prog 117 #[.pointer (some ⟨g,0,none⟩),.string ⟨#[102,97,108,115,101]⟩] w1 fun e w'=>e=.returned (.bool true) ∧ PlAt w' g ta tl tc M (skipP q) ∧ Kp (K1 g) w1 w'):=Lib.hid (fun w1 hw=>by
      have:=HTS.out ⟨#[102,97,108,115,101]⟩ w1 hw
      rw [show (⟨#[102,97,108,115,101]⟩:ByteArray).data.toList=kwFalse from rfl,h6] at this
      exact this)
     rw [if_pos h6] at HVX2
     have HVX:=Lib.hid HVX2
     clear HVX2 h6
     go_enter Tryz.func187,Tryz.ntmps187
     go_wp2_with fail
     refine HT0.out.mono ?_
     rintro e w1 ⟨rfl,k1,k2⟩
     have HR1:Hid (Ho w1 w.heap.size #[.int .i64 0,.int .i64 0,.string ⟨#[]⟩,.bool false] 56):=Lib.hid ((k2.block _ HR0.out.lt (by show ¬ w.heap.size=g; omega)).trans HR0.out)
     have HV1:=Lib.hid (errR_kp HV0.out hgl (by have:=HB0.out.size; omega) k2)
     have HK1:=Lib.hid ((Kp.of_below HB0.out).trans k2)
     have HP1:=Lib.hid k1
     clear k1 k2
     go_wp2_with fail
     refine (HPK.out _ HP1.out).mono ?_
     rintro e w2 ⟨rfl,k1⟩
     have hB2:Below w1.heap.size w1 (w2.alloc (.cells #[.int .i64 (x.k:Nat),.string ⟨x.t.toArray⟩,.int .i64 (x.line:Nat),.int .i64 (x.col:Nat)] 183)):=k1.alloc k1.size _
     have HR2:Hid (Ho (w2.alloc (.cells #[.int .i64 (x.k:Nat),.string ⟨x.t.toArray⟩,.int .i64 (x.line:Nat),.int .i64 (x.col:Nat)] 183)) w.heap.size #[.int .i64 0,.int .i64 0,.string ⟨#[]⟩,.bool false] 56):=Lib.hid ((hB2.block _ HR1.out.lt).trans HR1.out)
     have HV2:=Lib.hid (errR_below HV1.out hB2)
     have HP2:=Lib.hid (HP1.out.below hB2)
     have HK2:=Lib.hid (HK1.out.below hB2)
     clear k1 hB2
     unfold tkV
     go_wp2_with fail
     refine (HS5.out _ HP2.out).mono ?_
     rintro e w3 ⟨rfl,k1,k2⟩
     have HR3:Hid (Ho w3 w.heap.size #[.int .i64 0,.int .i64 0,.string ⟨#[]⟩,.bool false] 56):=Lib.hid ((k2.block _ HR2.out.lt (by show ¬ w.heap.size=g; omega)).trans HR2.out)
     have HP3:=Lib.hid k1
     have HK3:=Lib.hid (HK2.out.trans k2)
     clear k1 k2
     go_wp2_with fail
     refine (HS6.out _ HP3.out).mono ?_
     rintro e w4 ⟨rfl,k1,k2⟩
     have HR4:Hid (Ho w4 w.heap.size #[.int .i64 0,.int .i64 0,.string ⟨#[]⟩,.bool false] 56):=Lib.hid ((k2.block _ HR3.out.lt (by show ¬ w.heap.size=g; omega)).trans HR3.out)
     have HP4:=Lib.hid k1
     have HK4:=Lib.hid (HK3.out.trans k2)
     clear k1 k2
     have r0:w4.cell? ⟨w.heap.size,0,none⟩=some (.int .i64 0):=by rw [cell_of_row _ _ 0 _ _ _ HR4.out]; rfl
     have r1:w4.cell? ⟨w.heap.size,1,none⟩=some (.int .i64 0):=by rw [cell_of_row _ _ 1 _ _ _ HR4.out]; rfl
     have r2:w4.cell? ⟨w.heap.size,2,none⟩=some (.string ⟨#[]⟩):=by rw [cell_of_row _ _ 2 _ _ _ HR4.out]; rfl
     have r3:w4.cell? ⟨w.heap.size,3,none⟩=some (.bool false):=by rw [cell_of_row _ _ 3 _ _ _ HR4.out]; rfl
     have rf0:=frozen_of_row _ _ 0 _ _ HR4.out
     have rf1:=frozen_of_row _ _ 1 _ _ HR4.out
     have rf2:=frozen_of_row _ _ 2 _ _ HR4.out
     have rf3:=frozen_of_row _ _ 3 _ _ HR4.out
     have hwl:w.heap.size < w4.heap.size:=HR4.out.lt
     go_wp2_with fail
     refine bodyPost_ret (v:=.agg #[.int .i64 3,.int .i64 0,.string ⟨#[]⟩,.bool false]) ?_ rfl ⟨by rw [HVX.out]; rfl,?_,?_⟩
     ·refine cs_result1 rfl _ _ _ (a:=⟨w.heap.size,0,none⟩) (by rfl) ?_
      go_simp
     ·rw [HVX.out]
      exact ((((HP4.out.setT HR4.out.cblk (by decide) (by decide) (by decide)).setT (Ho.set (o:=0) (v:=.int .i64 3) HR4.out rfl).cblk (by decide) (by decide) (by decide)).setT (Ho.set (o:=1) (v:=.int .i64 0) (Ho.set (o:=0) (v:=.int .i64 3) HR4.out rfl) rfl).cblk (by decide) (by decide) (by decide)).setT (Ho.set (o:=2) (v:=.string ⟨#[]⟩) (Ho.set (o:=1) (v:=.int .i64 0) (Ho.set (o:=0) (v:=.int .i64 3) HR4.out rfl) rfl) rfl).cblk (by decide) (by decide) (by decide))
     ·exact par_setNew (par_setNew (par_setNew (par_setNew HK4.out (Nat.le_refl _) _) (Nat.le_refl _) _) (Nat.le_refl _) _) (Nat.le_refl _) _
    case false =>
     have HS6:Hid (∀ w1,PlAt w1 g ta tl tc M q → Calls Tryz.prog 117 #[.pointer (some ⟨g,0,none⟩),.string ⟨#[102,97,108,115,101]⟩] w1 fun e w'=>e=.returned (.bool false) ∧ PlAt w' g ta tl tc M q ∧ Kp (K1 g) w1 w'):=Lib.hid (fun w1 hw=>by
      have:=HTS.out ⟨#[102,97,108,115,101]⟩ w1 hw
      rw [show (⟨#[102,97,108,115,101]⟩:ByteArray).data.toList=kwFalse from rfl,h6] at this
      exact this)
     rw [if_neg (by rw [h6]; decide)] at HVX2
     have HVX:=Lib.hid HVX2
     clear HVX2 h6
     go_enter Tryz.func187,Tryz.ntmps187
     go_wp2_with fail
     refine HT0.out.mono ?_
     rintro e w1 ⟨rfl,k1,k2⟩
     have HR1:Hid (Ho w1 w.heap.size #[.int .i64 0,.int .i64 0,.string ⟨#[]⟩,.bool false] 56):=Lib.hid ((k2.block _ HR0.out.lt (by show ¬ w.heap.size=g; omega)).trans HR0.out)
     have HV1:=Lib.hid (errR_kp HV0.out hgl (by have:=HB0.out.size; omega) k2)
     have HK1:=Lib.hid ((Kp.of_below HB0.out).trans k2)
     have HP1:=Lib.hid k1
     clear k1 k2
     go_wp2_with fail
     refine (HPK.out _ HP1.out).mono ?_
     rintro e w2 ⟨rfl,k1⟩
     have hB2:Below w1.heap.size w1 (w2.alloc (.cells #[.int .i64 (x.k:Nat),.string ⟨x.t.toArray⟩,.int .i64 (x.line:Nat),.int .i64 (x.col:Nat)] 183)):=k1.alloc k1.size _
     have HR2:Hid (Ho (w2.alloc (.cells #[.int .i64 (x.k:Nat),.string ⟨x.t.toArray⟩,.int .i64 (x.line:Nat),.int .i64 (x.col:Nat)] 183)) w.heap.size #[.int .i64 0,.int .i64 0,.string ⟨#[]⟩,.bool false] 56):=Lib.hid ((hB2.block _ HR1.out.lt).trans HR1.out)
     have HV2:=Lib.hid (errR_below HV1.out hB2)
     have HP2:=Lib.hid (HP1.out.below hB2)
     have HK2:=Lib.hid (HK1.out.below hB2)
     clear k1 hB2
     unfold tkV
     go_wp2_with fail
     refine (HS5.out _ HP2.out).mono ?_
     rintro e w3 ⟨rfl,k1,k2⟩
     have HR3:Hid (Ho w3 w.heap.size #[.int .i64 0,.int .i64 0,.string ⟨#[]⟩,.bool false] 56):=Lib.hid ((k2.block _ HR2.out.lt (by show ¬ w.heap.size=g; omega)).trans HR2.out)
     have HP3:=Lib.hid k1
     have HK3:=Lib.hid (HK2.out.trans k2)
     clear k1 k2
     go_wp2_with fail
     refine (HS6.out _ HP3.out).mono ?_
     rintro e w4 ⟨rfl,k1,k2⟩
     have HR4:Hid (Ho w4 w.heap.size #[.int .i64 0,.int .i64 0,.string ⟨#[]⟩,.bool false] 56):=Lib.hid ((k2.block _ HR3.out.lt (by show ¬ w.heap.size=g; omega)).trans HR3.out)
     have HP4:=Lib.hid k1
     have HK4:=Lib.hid (HK3.out.trans k2)
     clear k1 k2
     go_wp2_with fail
     refine (HST.out _ HP4.out).mono ?_
     rintro e w5 ⟨rfl,k1,k2⟩
     have HR5:Hid (Ho w5 w.heap.size #[.int .i64 0,.int .i64 0,.string ⟨#[]⟩,.bool false] 56):=Lib.hid ((k2.block _ HR4.out.lt (by show ¬ w.heap.size=g; omega)).trans HR4.out)
     have HP5:=Lib.hid k1
     have HK5:=Lib.hid (HK4.out.trans k2)
     clear k1 k2
     have r0:w5.cell? ⟨w.heap.size,0,none⟩=some (.int .i64 0):=by rw [cell_of_row _ _ 0 _ _ _ HR5.out]; rfl
     have r1:w5.cell? ⟨w.heap.size,1,none⟩=some (.int .i64 0):=by rw [cell_of_row _ _ 1 _ _ _ HR5.out]; rfl
     have r2:w5.cell? ⟨w.heap.size,2,none⟩=some (.string ⟨#[]⟩):=by rw [cell_of_row _ _ 2 _ _ _ HR5.out]; rfl
     have r3:w5.cell? ⟨w.heap.size,3,none⟩=some (.bool false):=by rw [cell_of_row _ _ 3 _ _ _ HR5.out]; rfl
     have rf0:=frozen_of_row _ _ 0 _ _ HR5.out
     have rf1:=frozen_of_row _ _ 1 _ _ HR5.out
     have rf2:=frozen_of_row _ _ 2 _ _ HR5.out
     have rf3:=frozen_of_row _ _ 3 _ _ HR5.out
     have hwl:w.heap.size < w5.heap.size:=HR5.out.lt
     go_wp2_with fail
     refine bodyPost_ret (v:=.agg #[.int .i64 0,.int .i64 0,.string ⟨#[]⟩,.bool false]) ?_ rfl ⟨by rw [HVX.out]; rfl,?_,?_⟩
     ·refine cs_result1 rfl _ _ _ (a:=⟨w.heap.size,0,none⟩) (by rfl) ?_
      go_simp
     ·rw [HVX.out]
      exact ((((HP5.out.setT HR5.out.cblk (by decide) (by decide) (by decide)).setT (Ho.set (o:=0) (v:=.int .i64 0) HR5.out rfl).cblk (by decide) (by decide) (by decide)).setT (Ho.set (o:=1) (v:=.int .i64 0) (Ho.set (o:=0) (v:=.int .i64 0) HR5.out rfl) rfl).cblk (by decide) (by decide) (by decide)).setT (Ho.set (o:=2) (v:=.string ⟨#[]⟩) (Ho.set (o:=1) (v:=.int .i64 0) (Ho.set (o:=0) (v:=.int .i64 0) HR5.out rfl) rfl) rfl).cblk (by decide) (by decide) (by decide))
     ·exact par_setNew (par_setNew (par_setNew (par_setNew HK5.out (Nat.le_refl _) _) (Nat.le_refl _) _) (Nat.le_refl _) _) (Nat.le_refl _) _
theorem value_calls (g tl tc:Nat) (ta:Option Addr) (M:List Tk) (p:Pl) (a:Addr) (w:World) (h:PlAt w g ta tl tc M p) (hM:MOk M) (hv:ErrR w a) (hgl:7 < g) :
  Calls Tryz.prog 187 #[.pointer (some ⟨g,0,none⟩)] w fun e w'=>e=.returned (vdV (valueC M p).1) ∧ PlAt w' g ta tl tc M (valueC M p).2 ∧ Kp (K1 g) w w':=by
 unfold valueC
 cases hb:isP M p [45]
 ·rw [if_neg (by decide)]
  exact valueN_calls g tl tc ta M p a w h hM hv hgl hb
 ·rw [if_pos rfl]
  exact valueM_calls g tl tc ta M p a w h hM hv hgl hb
end Go.Proofs.YtiafhfchjhffhaaGreatDoor
