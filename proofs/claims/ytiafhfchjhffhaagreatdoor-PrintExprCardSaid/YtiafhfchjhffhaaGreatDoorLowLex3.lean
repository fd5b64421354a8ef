/- paclaim: LexCut LexTk LexRead -/
import Derived.Test.YtiafhfchjhffhaaGreatDoorLowLex2
import Derived.Test.YtiafhfchjhffhaaGreatDoorLowQuo
import Derived.Test.YtiafhfchjhffhaaGreatDoorLowMem
import Derived.WalkMore
namespace Go.Proofs.YtiafhfchjhffhaaGreatDoor
open Go.RowKit
set_option linter.unusedVariables false
theorem in_names:inSet ⟨#[65,66,67,68,69,70,71,72,73,74,75,76,77,78,79,80,81,82,83,84,85,86,87,88,89,90,97,98,99,100,101,102,103,104,105,106,107,108,109,110,111,112,113,114,115,116,117,118,119,120,121,122,48,49,50,51,52,53,54,55,56,57,95]⟩=nameC:=by
 funext c
 exact (all8 (P:=fun c=>(inSet ⟨#[65,66,67,68,69,70,71,72,73,74,75,76,77,78,79,80,81,82,83,84,85,86,87,88,89,90,97,98,99,100,101,102,103,104,105,106,107,108,109,110,111,112,113,114,115,116,117,118,119,120,121,122,48,49,50,51,52,53,54,55,56,57,95]⟩ c=nameC c)) (by decide +kernel)) c
theorem run_len (l:List UInt8):twN nameC l=(runL l).length:=rfl
theorem run_take_list (s:ByteArray):(s.extract 0 (runL s.data.toList).length).data.toList=runL s.data.toList:=by
 rw [cs_take]
 obtain ⟨y,hy⟩:=run_pre s.data.toList
 have h:=congrArg (List.take (runL s.data.toList).length) hy
 rw [h]
 exact List.take_left' rfl
structure TkBox (N:Nat) (w W:World):Prop where
 below:Below N w W
 tok:W.heap[N]? = some (.cells #[.int .i64 0,.string ⟨#[]⟩,.int .i64 0,.int .i64 0] 183 (0,0))
theorem TkBox.new (w:World):TkBox w.heap.size w (w.alloc (.cells #[.int .i64 0,.string ⟨#[]⟩,.int .i64 0,.int .i64 0] 183)) :=
 ⟨(Below.refl _ _).alloc (Nat.le_refl _) _,heap_alloc_new _ _⟩
theorem TkBox.lt {N:Nat} {w W:World} (h:TkBox N w W):N < W.heap.size:=(Array.getElem?_eq_some_iff.1 h.tok).1
theorem TkBox.step {N:Nat} {w W W':World} (h:TkBox N w W) (k:Below W.heap.size W W'):TkBox N w W':=by
 have:=h.lt
 exact ⟨h.below.trans (k.mono (by omega)),(k.block _ h.lt).trans h.tok⟩
theorem TkBox.cells {N:Nat} {w W:World} (h:TkBox N w W):(W.cell? ⟨N,0,none⟩=some (.int .i64 0) ∧ W.cell? ⟨N,1,none⟩=some (.string ⟨#[]⟩) ∧ W.cell? ⟨N,2,none⟩=some (.int .i64 0) ∧ W.cell? ⟨N,3,none⟩=some (.int .i64 0)) ∧ W.frozen? ⟨N,0,none⟩=false ∧ W.frozen? ⟨N,1,none⟩=false ∧ W.frozen? ⟨N,2,none⟩=false ∧ W.frozen? ⟨N,3,none⟩=false :=
 ⟨⟨by rw [cell_of_row W _ 0 _ _ _ h.tok]; rfl,by rw [cell_of_row W _ 1 _ _ _ h.tok]; rfl,by rw [cell_of_row W _ 2 _ _ _ h.tok]; rfl,by rw [cell_of_row W _ 3 _ _ _ h.tok]; rfl⟩,frozen_of_row W _ 0 _ _ h.tok,frozen_of_row W _ 1 _ _ h.tok,frozen_of_row W _ 2 _ _ h.tok,frozen_of_row W _ 3 _ _ h.tok⟩
theorem tk_set4 {B g:Nat} {a w:World} (h:Below B a w) (hg:B ≤ g) (x y z u:Value):Below B a ((((w.setCell ⟨g,0,none⟩ x).setCell ⟨g,1,none⟩ y).setCell ⟨g,2,none⟩ z).setCell ⟨g,3,none⟩ u) :=
 (((h.setCell hg _).setCell hg _).setCell hg _).setCell hg _
def runK (l:List UInt8):Nat × Nat:=if runL l=[] then (0,0) else kindE ⟨(runL l).toArray⟩
set_option maxHeartbeats 2000000 in
theorem cutRun_calls (s:ByteArray) (w:World) (hs:s.size ≤ 4611686018427387903) (hw:Wds w) :
  Calls Tryz.prog 223 #[.string s] w fun e w'=>e=.returned (cutV (runK s.data.toList).1 (runL s.data.toList) (runL s.data.toList).length (runK s.data.toList).2) ∧ Below w.heap.size w w':=by
 have HA:=Lib.hid (fun w1=>among_calls ⟨#[65,66,67,68,69,70,71,72,73,74,75,76,77,78,79,80,81,82,83,84,85,86,87,88,89,90,97,98,99,100,101,102,103,104,105,106,107,108,109,110,111,112,113,114,115,116,117,118,119,120,121,122,48,49,50,51,52,53,54,55,56,57,95]⟩ w1)
 have HR:=Lib.hid (fun w1 B (hB:w1.cell? ⟨B,0,none⟩=some (.string ⟨#[65,66,67,68,69,70,71,72,73,74,75,76,77,78,79,80,81,82,83,84,85,86,87,88,89,90,97,98,99,100,101,102,103,104,105,106,107,108,109,110,111,112,113,114,115,116,117,118,119,120,121,122,48,49,50,51,52,53,54,55,56,57,95]⟩))=>runIn_calls s ⟨#[65,66,67,68,69,70,71,72,73,74,75,76,77,78,79,80,81,82,83,84,85,86,87,88,89,90,97,98,99,100,101,102,103,104,105,106,107,108,109,110,111,112,113,114,115,116,117,118,119,120,121,122,48,49,50,51,52,53,54,55,56,57,95]⟩ B w1 (by omega) hB)
 rw [in_names,run_len] at HR
 have HO:=Lib.hid (TkBox.new w)
 have hO2:=(TkBox.new w).step ((Below.refl _ _).alloc (Nat.le_refl _) (.cells #[.string ⟨#[65,66,67,68,69,70,71,72,73,74,75,76,77,78,79,80,81,82,83,84,85,86,87,88,89,90,97,98,99,100,101,102,103,104,105,106,107,108,109,110,111,112,113,114,115,116,117,118,119,120,121,122,48,49,50,51,52,53,54,55,56,57,95]⟩] 9))
 have HC:=Lib.hid (alloc_cell (w.alloc (.cells #[.int .i64 0,.string ⟨#[]⟩,.int .i64 0,.int .i64 0] 183)) (.string ⟨#[65,66,67,68,69,70,71,72,73,74,75,76,77,78,79,80,81,82,83,84,85,86,87,88,89,90,97,98,99,100,101,102,103,104,105,106,107,108,109,110,111,112,113,114,115,116,117,118,119,120,121,122,48,49,50,51,52,53,54,55,56,57,95]⟩) 9)
 have hsz:(w.alloc (.cells #[.int .i64 0,.string ⟨#[]⟩,.int .i64 0,.int .i64 0] 183)).heap.size=w.heap.size + 1:=by simp
 rw [hsz] at HC
 have HO2:=Lib.hid hO2
 have HRL:=Lib.hid (run_take_list s)
 have HV:Hid (runK s.data.toList=if runL s.data.toList=[] then (0,0) else kindE ⟨(runL s.data.toList).toArray⟩):=Lib.hid rfl
 generalize runK s.data.toList=K at HV ⊢
 have HLe:Hid ((runL s.data.toList).length ≤ s.size):=Lib.hid (by rw [cs_size,← run_len]; exact tw_le _ _)
 clear hO2 hsz
 by_cases h0:runL s.data.toList=[]
 case pos =>
  have HE:Hid (runL s.data.toList=[]):=Lib.hid h0
  have HK:Hid (K=(0,0)):=Lib.hid (by rw [HV.out,if_pos h0])
  rw [h0] at HR HRL ⊢
  rw [HK.out]
  clear HV h0
  go_enter Tryz.func223,Tryz.ntmps223
  go_wp2_with fail
  refine (HA.out _).mono ?_
  rintro e w1 ⟨rfl,hw1⟩
  subst hw1
  go_wp2_with fail
  refine (HR.out _ _ HC.out).mono ?_
  rintro e w1 ⟨rfl,hw1⟩
  subst hw1
  go_wp2_with fail
  refine bodyPost_ret (v:=cutV 0 [] 0 0) ?_ rfl ⟨rfl,?_⟩
  ·refine lx_result3 rfl _ _ _ (a:=⟨w.heap.size,0,none⟩) (by rfl) ?_ (by rfl) (by rfl)
   go_simp
  ·exact ((Below.refl w.heap.size w).alloc (Nat.le_refl _) _).alloc (by simp) _
 case neg =>
  have hx:(⟨(runL s.data.toList).toArray⟩:ByteArray)=s.extract 0 (runL s.data.toList).length:=(sc_eq HRL.out).symm
  have hn0:0 < (runL s.data.toList).length:=List.length_pos_iff.2 h0
  have hxs:(s.extract 0 (runL s.data.toList).length).size=(runL s.data.toList).length:=by rw [cs_size,HRL.out]
  have HK:Hid (K=kindE (s.extract 0 (runL s.data.toList).length)):=Lib.hid (by rw [HV.out,if_neg h0,hx])
  have HX:=Lib.hid (fun w1 (hb:Below w.heap.size w w1)=>kind_calls (s.extract 0 (runL s.data.toList).length) w1 (by rw [hxs]; have:=HLe.out; omega) (by rw [hxs]; exact hn0) (hw.below hb))
  have HVV:Hid (cutV K.1 (runL s.data.toList) (runL s.data.toList).length K.2=.tuple #[.agg #[.int .i64 (K.1:Nat),.string (s.extract 0 (runL s.data.toList).length),.int .i64 0,.int .i64 0],.int .i64 ((runL s.data.toList).length:Nat),errV K.2]):=Lib.hid (by unfold cutV; rw [hx])
  rw [← HK.out] at HX
  obtain ⟨n,hn⟩:∃ n,n=(runL s.data.toList).length:=⟨_,rfl⟩
  rw [← hn] at HR HX HVV HLe ⊢
  have hn0:0 < n:=by rw [hn]; exact hn0
  have hnl:=HLe.out
  clear HV HK hx hxs h0 hw HRL hn
  generalize errV K.2=EV at HX HVV
  generalize K.1=k1 at HX HVV
  generalize runL s.data.toList=RL at HVV ⊢
  go_enter Tryz.func223,Tryz.ntmps223
  go_wp2_with fail
  refine (HA.out _).mono ?_
  rintro e w1 ⟨rfl,hw1⟩
  subst hw1
  go_wp2_with fail
  refine (HR.out _ _ HC.out).mono ?_
  rintro e w1 ⟨rfl,hw1⟩
  subst hw1
  go_wp2_with fail
  refine (HX.out _ HO2.out.below).mono ?_
  rintro e w2 ⟨rfl,k2⟩
  have hO3:=HO2.out.step k2
  have HO3:=Lib.hid hO3
  have hlt:=hO3.lt
  obtain ⟨⟨c0,c1,c2,c3⟩,f0,f1,f2,f3⟩:=hO3.cells
  clear k2 hO3 HC HO HO2 HX HR HA
  go_wp2_with fail
  refine bodyPost_ret (v:=.tuple #[.agg #[.int .i64 (k1:Nat),.string (s.extract 0 n),.int .i64 0,.int .i64 0],.int .i64 (n:Nat),EV]) ?_ rfl ⟨by rw [HVV.out],?_⟩
  ·refine lx_result3 rfl _ _ _ (a:=⟨w.heap.size,0,none⟩) (by rfl) ?_ (by rfl) (by rfl)
   go_simp
  ·exact tk_set4 HO3.out.below (Nat.le_refl _) _ _ _ _
theorem cutYes_calls (s:ByteArray) (w:World) (hs:s.size ≤ 4294967296) (hE:Esc w) {t:List UInt8} (h:cutL s.data.toList=some t) :
  Calls Tryz.prog 252 #[.string s] w fun e w'=>e=.returned (.tuple #[.string ⟨t.toArray⟩,.int .i64 ((quoteL t).length:Nat),.bool true]) ∧ Below w.heap.size w w':=by
 refine (cut_calls s w hs hE).mono ?_
 rintro e w' ⟨t',n,ok,ht,rfl,hb⟩
 obtain ⟨y,hy⟩:=cut_some h
 obtain ⟨rfl,rfl,rfl⟩:=CutTold.same ht (.inl ⟨rfl,rfl,y,hy⟩:CutTold s.data.toList t (quoteL t).length true)
 exact ⟨rfl,hb⟩
theorem cutNo_calls (s:ByteArray) (w:World) (hs:s.size ≤ 4294967296) (hE:Esc w) (h:cutL s.data.toList=none) :
  Calls Tryz.prog 252 #[.string s] w fun e w'=>e=.returned (.tuple #[.string ⟨#[]⟩,.int .i64 0,.bool false]) ∧ Below w.heap.size w w':=by
 refine (cut_calls s w hs hE).mono ?_
 rintro e w' ⟨t',n,ok,ht,rfl,hb⟩
 obtain ⟨rfl,rfl,rfl⟩:=CutTold.same ht (.inr ⟨rfl,rfl,rfl,fun u y e=>by have:=cut_yes u y; rw [← e,h] at this; cases this⟩:CutTold s.data.toList [] 0 false)
 exact ⟨rfl,hb⟩
noncomputable def quoT (l:List UInt8):Nat × List UInt8 × Nat × Nat :=
 if l.head? = some 34 then match cutL l with | none=>(0,[],0,17) | some t=>if 4096 < t.length then (0,[],0,3) else (4,t,(quoteL t).length,0)
 else (0,[],0,0)
set_option maxHeartbeats 2000000 in
theorem cutQuo_calls (s:ByteArray) (w:World) (hs:s.size ≤ 4294967296) (hE:Esc w) :
  Calls Tryz.prog 224 #[.string s] w fun e w'=>e=.returned (cutV (quoT s.data.toList).1 (quoT s.data.toList).2.1 (quoT s.data.toList).2.2.1 (quoT s.data.toList).2.2.2) ∧ Below w.heap.size w w':=by
 have HP:=Lib.hid (fun w1=>pre_calls1 s 34 w1)
 have HO:=Lib.hid (TkBox.new w)
 by_cases hh:s.data.toList.head? = some 34
 case neg =>
  have HK:Hid (quoT s.data.toList=(0,[],0,0)):=Lib.hid (if_neg hh)
  rw [show (s.data.toList.head? == some 34)=false by simpa using hh] at HP
  rw [HK.out]
  clear hh hE
  go_enter Tryz.func224,Tryz.ntmps224
  go_wp2_with fail
  refine (HP.out _).mono ?_
  rintro e w1 ⟨rfl,hw1⟩
  subst hw1
  go_wp2_with fail
  refine bodyPost_ret (v:=cutV 0 [] 0 0) ?_ rfl ⟨rfl,?_⟩
  ·refine lx_result3 rfl _ _ _ (a:=⟨w.heap.size,0,none⟩) (by rfl) ?_ (by rfl) (by rfl)
   go_simp
  ·exact (Below.refl w.heap.size w).alloc (Nat.le_refl _) _
 case pos =>
 rw [show (s.data.toList.head? == some 34)=true by simpa using hh] at HP
 cases hc:cutL s.data.toList with
 | none =>
  have HK:Hid (quoT s.data.toList=(0,[],0,17)):=Lib.hid (by unfold quoT; rw [if_pos hh,hc])
  have HX:=Lib.hid (fun w1 (hb:Below w.heap.size w w1)=>cutNo_calls s w1 hs (esc_below hE (var_lt gEsc hE) hb) hc)
  rw [HK.out]
  clear hh hE hc
  go_enter Tryz.func224,Tryz.ntmps224
  go_wp2_with fail
  refine (HP.out _).mono ?_
  rintro e w1 ⟨rfl,hw1⟩
  subst hw1
  go_wp2_with fail
  refine (HX.out _ HO.out.below).mono ?_
  rintro e w2 ⟨rfl,k2⟩
  have hO3:=HO.out.step k2
  have HO3:=Lib.hid hO3
  have hlt:=hO3.lt
  obtain ⟨⟨c0,c1,c2,c3⟩,f0,f1,f2,f3⟩:=hO3.cells
  clear k2 hO3 HO HX HP
  go_wp2_with fail
  refine bodyPost_ret (v:=cutV 0 [] 0 17) ?_ rfl ⟨rfl,?_⟩
  ·refine lx_result3 rfl _ _ _ (a:=⟨w.heap.size,0,none⟩) (by rfl) ?_ (by rfl) (by rfl)
   go_simp
  ·exact tk_set4 HO3.out.below (Nat.le_refl _) _ _ _ _
 | some t =>
  have HX:=Lib.hid (fun w1 (hb:Below w.heap.size w w1)=>cutYes_calls s w1 hs (esc_below hE (var_lt gEsc hE) hb) hc)
  have hts:(⟨t.toArray⟩:ByteArray).size=t.length:=lx_size t
  obtain ⟨n,hn⟩:∃ n,n=(quoteL t).length:=⟨_,rfl⟩
  rw [← hn] at HX
  by_cases hl:4096 < t.length
  ·have HK:Hid (quoT s.data.toList=(0,[],0,3)):=Lib.hid (by unfold quoT; rw [if_pos hh,hc]; exact if_pos hl)
   rw [HK.out]
   clear hh hE hc
   obtain ⟨x,hx⟩:∃ x:ByteArray,x=⟨t.toArray⟩:=⟨_,rfl⟩
   rw [← hx] at HX hts
   have t1:decide ((4096:Int) < (x.size:Int))=true:=by rw [decide_eq_true_eq,hts]; omega
   clear hts hx hl hn
   go_enter Tryz.func224,Tryz.ntmps224
   go_wp2_with fail
   refine (HP.out _).mono ?_
   rintro e w1 ⟨rfl,hw1⟩
   subst hw1
   go_wp2_with fail
   refine (HX.out _ HO.out.below).mono ?_
   rintro e w2 ⟨rfl,k2⟩
   have hO3:=HO.out.step k2
   have HO3:=Lib.hid hO3
   have hlt:=hO3.lt
   obtain ⟨⟨c0,c1,c2,c3⟩,f0,f1,f2,f3⟩:=hO3.cells
   clear k2 hO3 HO HX HP
   go_wp2_with fail
   refine bodyPost_ret (v:=cutV 0 [] 0 3) ?_ rfl ⟨rfl,?_⟩
   ·refine lx_result3 rfl _ _ _ (a:=⟨w.heap.size,0,none⟩) (by rfl) ?_ (by rfl) (by rfl)
    go_simp
   ·exact tk_set4 HO3.out.below (Nat.le_refl _) _ _ _ _
  ·have HK:Hid (quoT s.data.toList=(4,t,(quoteL t).length,0)):=Lib.hid (by unfold quoT; rw [if_pos hh,hc]; exact if_neg hl)
   have HV:Hid (cutV (quoT s.data.toList).1 (quoT s.data.toList).2.1 (quoT s.data.toList).2.2.1 (quoT s.data.toList).2.2.2=.tuple #[.agg #[.int .i64 4,.string ⟨t.toArray⟩,.int .i64 0,.int .i64 0],.int .i64 (n:Nat),.nilIface]):=Lib.hid (by rw [HK.out,hn]; rfl)
   generalize cutV (quoT s.data.toList).1 (quoT s.data.toList).2.1 (quoT s.data.toList).2.2.1 (quoT s.data.toList).2.2.2=V at HV ⊢
   clear hh hE hc HK
   obtain ⟨x,hx⟩:∃ x:ByteArray,x=⟨t.toArray⟩:=⟨_,rfl⟩
   rw [← hx] at HX hts HV
   have t1:decide ((4096:Int) < (x.size:Int))=false:=by rw [decide_eq_false_iff_not,hts]; omega
   clear hts hx hl hn
   go_enter Tryz.func224,Tryz.ntmps224
   go_wp2_with fail
   refine (HP.out _).mono ?_
   rintro e w1 ⟨rfl,hw1⟩
   subst hw1
   go_wp2_with fail
   refine (HX.out _ HO.out.below).mono ?_
   rintro e w2 ⟨rfl,k2⟩
   have hO3:=HO.out.step k2
   have HO3:=Lib.hid hO3
   have hlt:=hO3.lt
   obtain ⟨⟨c0,c1,c2,c3⟩,f0,f1,f2,f3⟩:=hO3.cells
   clear k2 hO3 HO HX HP
   go_wp2_with fail
   refine bodyPost_ret (v:=.tuple #[.agg #[.int .i64 4,.string x,.int .i64 0,.int .i64 0],.int .i64 (n:Nat),.nilIface]) ?_ rfl ⟨by rw [HV.out],?_⟩
   ·refine lx_result3 rfl _ _ _ (a:=⟨w.heap.size,0,none⟩) (by rfl) ?_ (by rfl) (by rfl)
    go_simp
   ·exact tk_set4 HO3.out.below (Nat.le_refl _) _ _ _ _
theorem infoTk:(Tryz.prog.info? 183).map (fun i=>(i.zero,i.size,i.bytes))=some (some (.agg #[.int .i64 0,.string ⟨#[]⟩,.int .i64 0,.int .i64 0]),4,40):=by kernel_rfl
theorem tk_new (w:World) (x:Tk) (T:TypeId):∀ j u,(tkC x)[j]? = some u → (w.alloc (.cells #[.int .i64 (x.k:Nat),.string ⟨x.t.toArray⟩,.int .i64 (x.line:Nat),.int .i64 (x.col:Nat)] T)).cell? ((⟨w.heap.size,0,none⟩:Addr).add j)=some u:=by
 intro j u hj
 have hadd:(⟨w.heap.size,0,none⟩:Addr).add j=⟨w.heap.size,j,none⟩:=by unfold Addr.add; split <;> simp_all
 rw [hadd,World.cell?_alloc_at (hn:=rfl)]
 simpa [tkC] using hj
noncomputable def cutAt:Nat → List UInt8 → Nat × List UInt8 × Nat × Nat
 | 0,l=>((runK l).1,runL l,(runL l).length,(runK l).2)
 | 1,l=>quoT l
 | _,l=>(signK l,l.take (signN l),signN l,0)
def noneTo' (l:List UInt8) (j:Nat):Prop:=∀ i,i < j → (cutAt i l).2.2.1=0 ∧ (cutAt i l).2.2.2=0
theorem none_zero (l:List UInt8):noneTo' l 0:=fun i h=>by omega
theorem none_more {l:List UInt8} {j:Nat} (h:noneTo' l j) (h1:(cutAt j l).2.2.1=0) (h2:(cutAt j l).2.2.2=0):noneTo' l (j + 1):=fun i hi=>by
 by_cases e:i=j
 ·subst e; exact ⟨h1,h2⟩
 ·exact h i (by omega)
theorem run_kind {l:List UInt8} (h:runL l ≠ []):firstT l=if (runK l).2=0 then .ok ((runK l).1,runL l,(runL l).length) else .error (runK l).2:=by
 have hne:(runL l).isEmpty=false:=by cases e:runL l with | nil=>exact absurd e h | cons c x=>rfl
 rw [first_run hne,runK,if_neg h]
 exact kind_word (s:=⟨(runL l).toArray⟩) (by rw [lx_size]; exact List.length_pos_iff.2 h) (run_all l)
theorem none_run {l:List UInt8} {j:Nat} (h:noneTo' l j) (hj:0 < j):runL l=[]:=List.length_eq_zero_iff.1 (h 0 hj).1
theorem none_quo {l:List UInt8} {j:Nat} (h:noneTo' l j) (hj:1 < j):l.head? ≠ some 34:=by
 intro e
 obtain ⟨h1,h2⟩:=h 1 hj
 simp only [cutAt,quoT,if_pos e] at h1 h2
 split at h1
 ·rename_i hc; rw [hc] at h2; exact absurd h2 (by decide)
 ·rename_i t hc
  rw [hc] at h2
  by_cases hl:4096 < t.length
  ·simp only [if_pos hl] at h2; exact absurd h2 (by decide)
  ·simp only [if_neg hl] at h1
   rw [quote_len] at h1; omega
theorem firstT_at {l:List UInt8} {j:Nat} (hj:j < 3) (h:noneTo' l j) (hc:(cutAt j l).2.2.1 ≠ 0 ∨ (cutAt j l).2.2.2 ≠ 0) :
  firstT l=if (cutAt j l).2.2.2=0 then .ok ((cutAt j l).1,(cutAt j l).2.1,(cutAt j l).2.2.1) else .error (cutAt j l).2.2.2:=by
 match j,hj with
 | 0,_ =>
  have hr:runL l ≠ []:=by
   intro e
   simp only [cutAt] at hc
   rw [runK,if_pos e,e] at hc
   simp at hc
  exact run_kind hr
 | 1,_ =>
  have h34:l.head? = some 34:=by
   by_cases e:l.head? = some 34
   ·exact e
   ·simp only [cutAt,quoT,if_neg e] at hc
    simp at hc
  simp only [cutAt,quoT,if_pos h34]
  rw [firstT,if_pos h34]
  cases hcl:cutL l with
  | none=>rfl
  | some t =>
   simp only
   by_cases hl:4096 < t.length
   ·simp only [if_pos hl]; rfl
   ·simp only [if_neg hl]; rfl
 | 2,_ =>
  have h34:=none_quo h (by omega)
  have hr:=none_run h (by omega)
  simp only [cutAt] at hc ⊢
  have hs:signN l ≠ 0:=by rcases hc with h | h; exact h; exact absurd rfl h
  rw [firstT,if_neg h34,if_pos hr,if_neg hs,if_pos trivial,signK,if_neg hs]
theorem firstT_none {l:List UInt8} (h:noneTo' l 3):firstT l=.error 15:=by
 rw [firstT,if_neg (none_quo h (by omega)),if_pos (none_run h (by omega)),if_pos (show signN l=0 from (h 2 (by omega)).1)]
theorem stepT_none {l:List UInt8} {p:Nat × Nat} (h:l.drop (blankN l false)=[]):stepT l p=.ok none:=if_pos h
theorem stepT_err {l:List UInt8} {p:Nat × Nat} {e:Nat} (h:l.drop (blankN l false) ≠ []) (hf:firstT (l.drop (blankN l false))=.error e):stepT l p=.error (e,adv (l.take (blankN l false)) p):=by
 rw [stepT,if_neg h,hf]
theorem stepT_ok {l:List UInt8} {p:Nat × Nat} {k n:Nat} {t:List UInt8} (h:l.drop (blankN l false) ≠ []) (hf:firstT (l.drop (blankN l false))=.ok (k,t,n)) :
  stepT l p=.ok (some (⟨k,t,(adv (l.take (blankN l false)) p).1,(adv (l.take (blankN l false)) p).2⟩,(l.drop (blankN l false)).drop n,((adv (l.take (blankN l false)) p).1,(adv (l.take (blankN l false)) p).2 + n))):=by
 rw [stepT,if_neg h,hf]
theorem tok_adv {l:List UInt8} {k n:Nat} {t:List UInt8} (hf:firstT l=.ok (k,t,n)) (p:Nat × Nat):adv (l.take n) p=(p.1,p.2 + n) ∧ 0 < n ∧ n ≤ l.length:=by
 have ht:=told_first hf
 obtain ⟨y,hy⟩:=ht.pre
 have h1:l.take n=tkL k t:=by rw [hy,ht.len,List.take_left]
 refine ⟨?_,ht.pos,?_⟩
 ·rw [h1,adv_line10 _ _ ht.no10,ht.len]
 ·rw [hy,List.length_append,← ht.len]; omega
theorem adv_le:∀ (l:List UInt8) (p:Nat × Nat),1 ≤ p.2 → (adv l p).1 ≤ p.1 + l.length ∧ (adv l p).2 ≤ p.2 + l.length ∧ 1 ≤ (adv l p).2
 | [],p,h=>⟨Nat.le_refl _,Nat.le_refl _,h⟩
 | c :: r,p,h=>by
  rw [adv,List.length_cons]
  by_cases e:c=10
  ·rw [if_pos e]
   have:=adv_le r (p.1 + 1,1) (Nat.le_refl _)
   simp only at this
   omega
  ·rw [if_neg e]
   have:=adv_le r (p.1,p.2 + 1) (by show 1 ≤ p.2 + 1; omega)
   simp only at this
   omega
structure LexT (w:World):Prop where
 esc:Esc w
 wds:Wds w
 sgn:Sgn w
theorem LexT.below {w w':World} (h:LexT w) (k:Below w.heap.size w w'):LexT w':=⟨esc_below h.esc (var_lt gEsc h.esc) k,h.wds.below k,h.sgn.below k⟩
def PErr (w:World) (g er line col:Nat):Prop:=w.heap[g]? = some (.cells #[.int .i64 (line:Nat),.int .i64 (col:Nat),.iface 44 (.int .i64 (er:Nat))] 228 (0,0))
def ReadPost (x:Except (Nat × Nat × Nat) (List Tk)) (w:World) (e:Ending) (w':World):Prop :=
 (match x with
 | .ok M=>∃ a cap,e=.returned (.tuple #[.slice a M.length cap,.nilIface]) ∧ TkIn w' 183 a M.length M
 | .error (er,l,c)=>er ≠ 0 ∧ ∃ g,e=.returned (.tuple #[.slice none 0 0,.iface 222 (.pointer (some ⟨g,0,none⟩))]) ∧ w.heap.size ≤ g ∧ PErr w' g er l c) ∧ Below w.heap.size w w'
theorem readT_ok {x:Except (Nat × Nat × Nat) (List Tk)} {M:List Tk} {w w':World} {e:Ending} (hx:x=.ok M) (h:∃ a cap,e=.returned (.tuple #[.slice a M.length cap,.nilIface]) ∧ TkIn w' 183 a M.length M) (hb:Below w.heap.size w w'):ReadPost x w e w':=by
 subst hx; exact ⟨h,hb⟩
theorem readT_no {x:Except (Nat × Nat × Nat) (List Tk)} {er l c:Nat} {w w':World} {e:Ending} (hx:x=.error (er,l,c)) (h0:er ≠ 0) {g:Nat} (he:e=.returned (.tuple #[.slice none 0 0,.iface 222 (.pointer (some ⟨g,0,none⟩))])) (hg:w.heap.size ≤ g) (hp:PErr w' g er l c) (hb:Below w.heap.size w w'):ReadPost x w e w':=by
 subst hx; exact ⟨⟨h0,g,he,hg,hp⟩,hb⟩
theorem tk_2cells {w:World} {g:Nat} {u v:Value} {t:TypeId} {f:Nat × Nat} (h:w.heap[g]? = some (.cells #[u,v] t f)):w.cell? ⟨g,0,none⟩=some u ∧ w.cell? ⟨g,1,none⟩=some v :=
 ⟨by rw [cell_of_row w g 0 _ _ _ h]; rfl,by rw [cell_of_row w g 1 _ _ _ h]; rfl⟩
theorem pl_set {w:World} {g:Nat} {a b x y:Value} {t:TypeId} (h:w.heap[g]? = some (.cells #[a,b] t (0,0))):((w.setCell ⟨g,0,none⟩ x).setCell ⟨g,1,none⟩ y).heap[g]? = some (.cells #[x,y] t (0,0)):=by
 have h1:=heap_setCell_same w g 0 _ _ x h
 have h2:=heap_setCell_same _ g 1 _ _ y h1
 rw [h2]; rfl
theorem pl_grown {w:World} {g:Nat} (x y:Value):w.grownBy ((w.setCell ⟨g,0,none⟩ x).setCell ⟨g,1,none⟩ y) (some g) :=
 cs_gtrans (cs_set (a:=⟨g,0,none⟩)) (cs_set (a:=⟨g,1,none⟩))
theorem perr_new {W:World} {N er line col:Nat} (h:W.heap.size=N):PErr (W.alloc (.cells #[.int .i64 (line:Nat),.int .i64 (col:Nat),.iface 44 (.int .i64 (er:Nat))] 228)) N er line col:=by
 subst h
 exact heap_alloc_new _ _
theorem tk_set23 {w:World} {g:Nat} {a b c d x y:Value} {t:TypeId} (h:w.heap[g]? = some (.cells #[a,b,c,d] t (0,0))):((w.setCell ⟨g,2,none⟩ x).setCell ⟨g,3,none⟩ y).drew.heap[g]? = some (.cells #[a,b,x,y] t (0,0)):=by
 have h1:=heap_setCell_same w g 2 _ _ x h
 have h2:=heap_setCell_same _ g 3 _ _ y h1
 show ((w.setCell ⟨g,2,none⟩ x).setCell ⟨g,3,none⟩ y).heap[g]? = _
 rw [h2]; rfl
def strLen:Value → Nat
 | .string s=>s.size
 | _=>0
def cutF:Nat → FuncId
 | 0=>223
 | 1=>224
 | _=>225
theorem cutAt_calls:∀ (j:Nat) (x:ByteArray) (w:World),j < 3 → x.size ≤ 65536 → LexT w → Calls Tryz.prog (cutF j) #[.string x] w fun e w'=>e=.returned (.tuple #[.agg #[.int .i64 ((cutAt j x.data.toList).1:Nat),.string ⟨(cutAt j x.data.toList).2.1.toArray⟩,.int .i64 0,.int .i64 0],.int .i64 ((cutAt j x.data.toList).2.2.1:Nat),errV (cutAt j x.data.toList).2.2.2]) ∧ Below w.heap.size w w'
 | 0,x,w,_,hx,hT=>cutRun_calls x w (by omega) hT.wds
 | 1,x,w,_,hx,hT=>cutQuo_calls x w (by omega) hT.esc
 | 2,x,w,_,hx,hT=>cutSign_calls x w hT.sgn
 | j + 3,x,w,h,_,_=>by omega
set_option maxHeartbeats 8000000 in
set_option maxRecDepth 100000 in
theorem read_calls (s:ByteArray) (w:World) (hs:s.size ≤ 4294967296) (hT:LexT w) :
  Calls Tryz.prog 177 #[.string s] w (ReadPost (tokL s.data.toList) w):=by
 have hb0:=(Below.refl w.heap.size w).alloc (Nat.le_refl _) (.cells #[.int .i64 1,.int .i64 1] 226)
 obtain ⟨l0,hl0⟩:∃ l0,l0=s.data.toList:=⟨_,rfl⟩
 have hlen:s.size=l0.length:=by rw [hl0,cs_size]
 rw [← hl0]
 have HL0:=Lib.hid hl0
 by_cases hbig:65536 < s.size
 case pos =>
  have t1:decide ((65536:Int) < (s.size:Int))=true:=by rw [decide_eq_true_eq]; omega
  have HV:Hid (tokL l0=.error (3,1,1)):=Lib.hid (by rw [tokL,if_pos (by omega)])
  clear hl0 hlen hbig hT hb0
  go_enter Tryz.func177,Tryz.ntmps177
  go_wp2_with fail
  go_step3
  go_wp2_with fail
  refine wp_region_held_drew (S:=(fun W=>W.cell? ⟨w.heap.size,0,none⟩=some (.int .i64 1) ∧ W.cell? ⟨w.heap.size,1,none⟩=some (.int .i64 1))) (by kernel_rfl) (by constructor <;> go_simp) (fun hH0=>?_)
  refine wpAnyH_take (i:=0) (v:=.agg #[.int .i64 1,.int .i64 1]) rfl (by kernel_rfl) (by kernel_rfl) (by kernel_rfl) (fun _ _ _ h=>h) (Or.inl ⟨by kernel_rfl,fun wS hSw=>by (try dsimp only at hSw); (first | go_simp | (obtain ⟨hS1,hS2⟩:=hSw; go_simp))⟩) hH0 ?_
  refine wpAnyH_take (i:=1) (v:=.iface 44 (.int .i64 3)) rfl (by kernel_rfl) (by kernel_rfl) (by kernel_rfl) (fun _ _ _ h=>h) (Or.inl ⟨by kernel_rfl,fun wS hSw=>by (try dsimp only at hSw); go_simp⟩) hH0 ?_
  refine wpAnyH_take (i:=2) (v:=.agg #[.int .i64 1,.int .i64 1,.iface 44 (.int .i64 3)]) rfl (by kernel_rfl) (by kernel_rfl) (by kernel_rfl) (fun _ _ _ h=>h) (Or.inl ⟨by kernel_rfl,fun wS hSw=>by (try dsimp only at hSw); go_simp⟩) hH0 ?_
  refine wpAnyH_take (i:=5) (v:=.slice none 0 0) rfl (by kernel_rfl) (by kernel_rfl) (by kernel_rfl) (fun _ _ _ h=>h) (Or.inl ⟨by kernel_rfl,fun wS hSw=>by (try dsimp only at hSw); go_simp⟩) hH0 ?_
  refine wpAnyH_ready (rs:=[3]) (by kernel_rfl) (by simp) ?_
  refine AllReadyH.cons rfl (fun K hK=>?_) AllReadyH.nil
  rw [if_pos (by kernel_rfl)]
  go_simp
  refine hK.out _ _ (by constructor <;> go_simp) (fun hH1=>?_)
  clear hK K
  refine wpAnyH_take (i:=4) (v:=.iface 222 (.pointer (some ⟨w.heap.size + 1,0,none⟩))) rfl (by kernel_rfl) (by kernel_rfl) (by kernel_rfl) (fun _ _ _ h=>h) (Or.inl ⟨by kernel_rfl,fun wS hSw=>by (try dsimp only at hSw); go_simp⟩) hH1 ?_
  refine wpAnyH_take (i:=6) (v:=.iface 222 (.pointer (some ⟨w.heap.size + 1,0,none⟩))) rfl (by kernel_rfl) (by kernel_rfl) (by kernel_rfl) (fun _ _ _ h=>h) (Or.inl ⟨by kernel_rfl,fun wS hSw=>by (try dsimp only at hSw); go_simp⟩) hH1 ?_
  refine wpAnyH_done (by kernel_rfl) ?_ _
  go_simp
  go_wp2_with fail
  rw [Exit.noGoto_ret]
  go_ret2
  refine readT_no HV.out (by decide) (g:=w.heap.size + 1) rfl (by omega) (perr_new (by simp)) ?_
  exact (((Below.refl w.heap.size w).alloc (Nat.le_refl _) _).drew).alloc (by simp) _
 case neg =>
  have t1:decide ((65536:Int) < (s.size:Int))=false:=by rw [decide_eq_false_iff_not]; omega
  have HV:Hid (tokL l0=tokT l0 (1,1)):=Lib.hid (by rw [tokL,if_neg (by omega)])
  have HX0:Hid (tokX l0 [] s.data.toList (1,1)):=Lib.hid (by rw [← hl0]; exact tokX_zero _)
  have HP0:=Lib.hid (heap_alloc_new w (.cells #[.int .i64 1,.int .i64 1] 226))
  have HB0:=Lib.hid hb0
  have HTl:=Lib.hid (fun w1 (hb:Below w.heap.size w w1)=>hT.below hb)
  have HG:=Lib.hid (fun (x:ByteArray) w1 (hx:x.size ≤ 65536)=>gap_calls x w1 (by omega))
  obtain ⟨i0,hi,hz0,hz1,hz2⟩:=cs_parts infoTk
  have HI:=Lib.hid hi
  have HZ0:=Lib.hid hz0
  have HZ1:=Lib.hid hz1
  have HZ2:=Lib.hid hz2
  have hs6:s.size ≤ 65536:=by omega
  clear hl0 hlen hT hb0 hi hz0 hz1 hz2 hbig hs
  go_enter Tryz.func177,Tryz.ntmps177
  go_wp2_with fail
  go_step3
  go_wp2_with fail
  go_step3
  go_wp2_with fail
  go_loopw [0,5] (fun vs vt wr=>∃ (M:List Tk) (x:ByteArray) (pl pc:Nat),vs=.string x ∧ x.size ≤ 65536 ∧ M.length + x.size ≤ 65536 ∧ pl + x.size ≤ 65537 ∧ pc + x.size ≤ 65537 ∧ 1 ≤ pc ∧ Hid (tokX l0 M x.data.toList (pl,pc)) ∧ Hid (wr.ownsRow w.heap.size 183 4 vt M.length (tkCs M)) ∧ Hid (wr.heap[w.heap.size]? = some (.cells #[.int .i64 (pl:Nat),.int .i64 (pc:Nat)] 226 (0,0))) ∧ Hid (Below w.heap.size w wr)) (fun vs _ _=>strLen vs)
  case atStart=>exact ⟨[],s,1,1,rfl,hs6,by simpa using hs6,by omega,by omega,Nat.le_refl _,HX0,Lib.hid (World.ownsRow_nil _ _ _ _),HP0,HB0⟩
  case round =>
   clear HX0 HP0 HB0 t1
   obtain ⟨M,x,pl,pc,rfl,hx,hMx,hpl,hpc,hpc1,HX,HO,HP,HB⟩:=hrel
   obtain ⟨oa,oc,rfl⟩:=cs_own HO.out
   obtain ⟨m,hm⟩:∃ m,m=M.length:=⟨_,rfl⟩
   rw [← hm] at HO hMx ⊢
   have HM:=Lib.hid hm
   obtain ⟨k,hk⟩:∃ k,k=blankN x.data.toList false:=⟨_,rfl⟩
   have hkx:k ≤ x.size:=by rw [hk,cs_size]; exact blank_le _ _
   have HG1:=Lib.hid (HG.out x wr hx)
   rw [← hk] at HG1
   obtain ⟨x1,hx1⟩:∃ x1,x1=x.extract 0 k:=⟨_,rfl⟩
   obtain ⟨x2,hx2⟩:∃ x2,x2=x.extract k x.size:=⟨_,rfl⟩
   have hl1:x1.data.toList=x.data.toList.take k:=by rw [hx1,cs_take]
   have hl2:x2.data.toList=x.data.toList.drop k:=by rw [hx2,cs_drop]
   have hs1:x1.size=k:=by rw [cs_size,hl1,List.length_take,← cs_size]; omega
   have hs2:x2.size=x.size - k:=by rw [cs_size,hl2,List.length_drop,← cs_size]
   obtain ⟨⟨ql,qc⟩,hq⟩:∃ q,q=adv (x.data.toList.take k) (pl,pc):=⟨_,rfl⟩
   obtain ⟨hq1,hq2,hq3⟩:=adv_le (x.data.toList.take k) (pl,pc) hpc1
   rw [← hq] at hq1 hq2 hq3
   rw [← hl1,← cs_size,hs1] at hq1 hq2
   simp only at hq1 hq2 hq3
   have HBh:Hid (∀ w1,Calls Tryz.prog 222 #[.agg #[.int .i64 (pl:Nat),.int .i64 (pc:Nat)],.string x1] w1 fun e w'=>e=.returned (.agg #[.int .i64 (ql:Nat),.int .i64 (qc:Nat)]) ∧ Below w1.heap.size w1 w'):=Lib.hid (fun w1=>by
    have h:=behind_calls pl pc x1 w1 (by omega) (by omega)
    rw [hl1,← hq] at h
    exact h)
   have hql:ql + x2.size ≤ 65537:=by omega
   have hqc:qc + x2.size ≤ 65537:=by omega
   have hx26:x2.size ≤ 65536:=by omega
   have hMx2:m + x2.size ≤ 65536:=by omega
   have hxx:x2.size ≤ x.size:=by omega
   have HX1:=Lib.hid hx1
   have HX2:=Lib.hid hx2
   have HQ:=Lib.hid hq
   have HL2:=Lib.hid hl2
   have HK:=Lib.hid hk
   obtain ⟨l2,hll⟩:∃ l2,l2=x2.data.toList:=⟨_,rfl⟩
   have HLL:=Lib.hid hll
   have hl2s:x2.size=l2.length:=by rw [cs_size,hll]
   clear hk hx1 hx2 hl1 hl2 hs1 hs2 hq hq1 hq2 hm hll HG
   go_wp2_with fail
   refine HG1.out.mono ?_
   rintro e w1 ⟨rfl,k1⟩
   have hP1:=(k1.block _ (Array.getElem?_eq_some_iff.1 HP.out).1).trans HP.out
   obtain ⟨d0,d1⟩:=tk_2cells hP1
   have HP1:=Lib.hid hP1
   have HO1:=Lib.hid (cs_ownBelow HO.out k1)
   have HB1:=Lib.hid (HB.out.trans (k1.mono HB.out.size))
   clear hP1 k1 HP HO HB HG1
   go_wp2_with fail
   refine wp_region_held_drew (S:=(fun _=>True)) (by kernel_rfl) (trivial) (fun hH0=>?_)
   refine wpAnyH_take (i:=1) (v:=.string x) rfl (by kernel_rfl) (by kernel_rfl) (by kernel_rfl) (fun _ _ _ h=>h) (Or.inl ⟨by kernel_rfl,fun wS hSw=>by (try dsimp only at hSw); go_simp⟩) hH0 ?_
   refine wpAnyH_take (i:=2) (v:=.int .i64 k) rfl (by kernel_rfl) (by kernel_rfl) (by kernel_rfl) (fun _ _ _ h=>h) (Or.inl ⟨by kernel_rfl,fun wS hSw=>by (try dsimp only at hSw); go_simp⟩) hH0 ?_
   refine wpAnyH_take (i:=3) (v:=.string x1) rfl (by kernel_rfl) (by kernel_rfl) (by kernel_rfl) (fun _ _ _ h=>h) (Or.inl ⟨by kernel_rfl,fun wS hSw=>by (try dsimp only at hSw); rw [HX1.out]; go_simp⟩) hH0 ?_
   refine wpAnyH_take (i:=5) (v:=.string x) rfl (by kernel_rfl) (by kernel_rfl) (by kernel_rfl) (fun _ _ _ h=>h) (Or.inl ⟨by kernel_rfl,fun wS hSw=>by (try dsimp only at hSw); go_simp⟩) hH0 ?_
   refine wpAnyH_take (i:=6) (v:=.int .i64 k) rfl (by kernel_rfl) (by kernel_rfl) (by kernel_rfl) (fun _ _ _ h=>h) (Or.inl ⟨by kernel_rfl,fun wS hSw=>by (try dsimp only at hSw); go_simp⟩) hH0 ?_
   refine wpAnyH_take (i:=7) (v:=.string x2) rfl (by kernel_rfl) (by kernel_rfl) (by kernel_rfl) (fun _ _ _ h=>h) (Or.inl ⟨by kernel_rfl,fun wS hSw=>by (try dsimp only at hSw); rw [HX2.out]; go_simp⟩) hH0 ?_
   refine wpAnyH_ready (rs:=[0]) (by kernel_rfl) (by simp) ?_
   refine AllReadyH.cons rfl (fun K hK=>?_) AllReadyH.nil
   rw [if_pos (by kernel_rfl)]
   go_simp
   refine hK.out _ _ (trivial) (fun hH1=>?_)
   clear hK K
   refine wpAnyH_ready (rs:=[4]) (by kernel_rfl) (by simp) ?_
   refine AllReadyH.cons rfl (fun K hK=>?_) AllReadyH.nil
   rw [if_pos (by kernel_rfl)]
   go_simp
   refine (HBh.out _).mono ?_
   rintro e w2 ⟨rfl,k2⟩
   refine hK.out _ _ (trivial) (fun hH2=>?_)
   clear hK K
   obtain ⟨hP2,hO2,hB2⟩:w2.heap[w.heap.size]? = _ ∧ w2.ownsRow _ _ _ _ _ _ ∧ Below w.heap.size w w2:=⟨(k2.block _ (Array.getElem?_eq_some_iff.1 HP1.out).1).trans HP1.out,cs_ownBelow (show w1.drew.ownsRow _ _ _ _ _ _ from HO1.out) k2,HB1.out.drew.trans (k2.mono HB1.out.drew.size)⟩
   obtain ⟨c0,c1⟩:=tk_2cells hP2
   have f0:=frozen_of_row w2 _ 0 _ _ hP2
   have f1:=frozen_of_row w2 _ 1 _ _ hP2
   have HP2:=Lib.hid hP2
   have HO2:=Lib.hid hO2
   have HB2:=Lib.hid hB2
   clear hP2 hO2 hB2 k2
   refine wpAnyH_ready (rs:=[8]) (by kernel_rfl) (by simp) ?_
   refine AllReadyH.cons rfl (fun K hK=>?_) AllReadyH.nil
   rw [if_pos (by kernel_rfl)]
   go_simp
   refine hK.out _ _ (trivial) (fun hH3=>?_)
   clear hK K
   refine wpAnyH_take (i:=9) (v:=.string x2) rfl (by kernel_rfl) (by kernel_rfl) (by kernel_rfl) (fun _ _ _ h=>h) (Or.inl ⟨by kernel_rfl,fun wS hSw=>by (try dsimp only at hSw); go_simp⟩) hH3 ?_
   refine wpAnyH_done (by kernel_rfl) ?_ _
   go_simp
   generalize hW3:(w2.setCell ⟨w.heap.size,0,none⟩ (.int .i64 (ql:Nat))).setCell ⟨w.heap.size,1,none⟩ (.int .i64 (qc:Nat))=w3
   have hP3:w3.heap[w.heap.size]? = some (.cells #[.int .i64 (ql:Nat),.int .i64 (qc:Nat)] 226 (0,0)):=by rw [← hW3]; exact pl_set HP2.out
   have hg3:w2.grownBy w3 (some w.heap.size):=by rw [← hW3]; exact pl_grown _ _
   have HO3:=Lib.hid (cs_ownKept HO2.out (show CBlk w2 w.heap.size 226 from ⟨_,_,HP2.out⟩) (by decide) hg3)
   have HB3:Hid (Below w.heap.size w w3):=Lib.hid (by rw [← hW3]; exact place_set HB2.out (Nat.le_refl _) _ _)
   have HP3:=Lib.hid hP3
   clear hW3 hP3 hg3 HP2 HO2 HB2 HP1 HO1 HB1 c0 c1 f0 f1 d0 d1
   by_cases h0:x2.size=0
   case pos =>
    have hem:x2.toList.isEmpty=true:=by rw [cs_tl,← HLL.out]; rw [hl2s] at h0; rw [List.length_eq_zero_iff.1 h0]; rfl
    have HR:Hid (tokL l0=.ok M):=Lib.hid (by
     rw [HV.out]
     refine tokX_end HX.out (stepT_none ?_)
     rw [← HK.out,← HL2.out,← HLL.out]
     exact List.length_eq_zero_iff.1 (by rw [← hl2s]; exact h0))
    go_wp2_with fail
    rw [Exit.noGoto_ret]
    go_ret2
    obtain ⟨a2,c2,e2,hin⟩:=own_tkin (by rw [← HM.out]; exact HO3.out)
    rw [← HM.out] at e2
    cases e2
    exact readT_ok HR.out ⟨oa,oc,by rw [← HM.out]; rfl,hin⟩ HB3.out
   case neg =>
    have hem:x2.toList.isEmpty=false:=by
     rw [cs_tl,← HLL.out]
     cases e:l2 with
     | nil=>rw [hl2s,e] at h0; exact absurd rfl h0
     | cons c r=>rfl
    have HD:Hid (x.data.toList.drop (blankN x.data.toList false) ≠ []):=Lib.hid (by
     rw [← HK.out,← HL2.out,← HLL.out]
     intro e; rw [hl2s,e] at h0; exact h0 rfl)
    have HD2:Hid (x.data.toList.drop (blankN x.data.toList false)=l2 ∧ adv (x.data.toList.take (blankN x.data.toList false)) (pl,pc)=(ql,qc)):=Lib.hid ⟨by rw [← HK.out,← HL2.out,← HLL.out],by rw [← HK.out]; exact HQ.out.symm⟩
    have HFs:Hid (∀ w4,(w3.alloc (.cells #[.func (.func 223) #[] #[],.func (.func 224) #[] #[],.func (.func 225) #[] #[]] 273))=w4 → w4.heap[w3.heap.size]? = some (.cells #[.func (.func 223) #[] #[],.func (.func 224) #[] #[],.func (.func 225) #[] #[]] 273 (0,0)) ∧ w4.ownsRow w.heap.size 183 4 (.slice oa m oc) m (tkCs M) ∧ w4.heap[w.heap.size]? = some (.cells #[.int .i64 (ql:Nat),.int .i64 (qc:Nat)] 226 (0,0)) ∧ Below w.heap.size w w4):=Lib.hid (fun w4 h=>by
     subst h
     exact ⟨heap_alloc_new _ _,HO3.out.alloc _,by rw [heap_alloc_old _ _ (Array.getElem?_eq_some_iff.1 HP3.out).1]; exact HP3.out,HB3.out.alloc HB3.out.size _⟩)
    obtain ⟨F,hF⟩:∃ F,F=w3.heap.size:=⟨_,rfl⟩
    rw [← hF] at HFs
    have HF:=Lib.hid hF
    have HC:Hid (∀ j w1,j < 3 → Below w.heap.size w w1 → Calls Tryz.prog (cutF j) #[.string x2] w1 fun e w'=>e=.returned (.tuple #[.agg #[.int .i64 ((cutAt j l2).1:Nat),.string ⟨(cutAt j l2).2.1.toArray⟩,.int .i64 0,.int .i64 0],.int .i64 ((cutAt j l2).2.2.1:Nat),errV (cutAt j l2).2.2.2]) ∧ Below w1.heap.size w1 w'):=Lib.hid (fun j w1 hj hb=>by
     rw [HLL.out]
     exact cutAt_calls j x2 w1 hj hx26 (HTl.out w1 hb))
    clear h0 HO3 HP3 HB3 HK HQ HL2 hF
    go_wp2_with fail
    rw [← HF.out]
    generalize hW4:(w3.alloc (.cells #[.func (.func 223) #[] #[],.func (.func 224) #[] #[],.func (.func 225) #[] #[]] 273))=w4
    obtain ⟨hF4,hO4,hP4,hB4⟩:=HFs.out w4 hW4
    have HF4:=Lib.hid hF4
    have HO4:=Lib.hid hO4
    have HP4:=Lib.hid hP4
    have HB4:=Lib.hid hB4
    have HN0:=Lib.hid (none_zero l2)
    clear hW4 HFs hF4 hO4 hP4 hB4 HF hem
    go_loopw [0,5,36] (fun vs vt i wr=>vs=.string x2 ∧ vt=.slice oa m oc ∧ ∃ (j:Nat),j ≤ 3 ∧ i=.int .i64 j ∧ Hid (noneTo' l2 j) ∧ Hid (wr.heap[F]? = some (.cells #[.func (.func 223) #[] #[],.func (.func 224) #[] #[],.func (.func 225) #[] #[]] 273 (0,0))) ∧ Hid (wr.ownsRow w.heap.size 183 4 (.slice oa m oc) m (tkCs M)) ∧ Hid (wr.heap[w.heap.size]? = some (.cells #[.int .i64 (ql:Nat),.int .i64 (qc:Nat)] 226 (0,0))) ∧ Hid (Below w.heap.size w wr)) (fun _ _ i _=>3 - (intOf i).toNat)
    case atStart=>exact ⟨rfl,rfl,0,by omega,rfl,HN0,HF4,HO4,HP4,HB4⟩
    case round =>
     clear HN0 HF4 HO4 HP4 HB4
     obtain ⟨rfl,rfl,j,hj,rfl,HN,HF4,HO4,HP4,HB4⟩:=hrel
     by_cases hj3:j < 3
     case neg =>
      have hf:=firstT_none (l:=l2) (by rw [← show j=3 by omega]; exact HN.out)
      have HE:Hid (tokL l0=.error (15,ql,qc)):=Lib.hid (by
       rw [HV.out]
       have h:=tokX_bad HX.out (stepT_err (p:=(pl,pc)) HD.out (by rw [HD2.out.1]; exact hf))
       rw [HD2.out.2] at h
       exact h)
      clear hf
      obtain ⟨d0,d1⟩:=tk_2cells HP4.out
      have hlt:w.heap.size < wr.heap.size:=(Array.getElem?_eq_some_iff.1 HP4.out).1
      go_wp2_with fail
      refine wp_region_held_drew (S:=(fun W=>W.cell? ⟨w.heap.size,0,none⟩=some (.int .i64 (ql:Nat)) ∧ W.cell? ⟨w.heap.size,1,none⟩=some (.int .i64 (qc:Nat)))) (by kernel_rfl) (tk_2cells (w:=wr.drew) HP4.out) (fun hH0=>?_)
      refine wpAnyH_take (i:=0) (v:=.agg #[.int .i64 (ql:Nat),.int .i64 (qc:Nat)]) rfl (by kernel_rfl) (by kernel_rfl) (by kernel_rfl) (fun _ _ _ h=>h) (Or.inl ⟨by kernel_rfl,fun wS hSw=>by (try dsimp only at hSw); (first | go_simp | (obtain ⟨hS1,hS2⟩:=hSw; go_simp))⟩) hH0 ?_
      refine wpAnyH_take (i:=1) (v:=.iface 44 (.int .i64 15)) rfl (by kernel_rfl) (by kernel_rfl) (by kernel_rfl) (fun _ _ _ h=>h) (Or.inl ⟨by kernel_rfl,fun wS hSw=>by (try dsimp only at hSw); go_simp⟩) hH0 ?_
      refine wpAnyH_take (i:=2) (v:=.agg #[.int .i64 (ql:Nat),.int .i64 (qc:Nat),.iface 44 (.int .i64 15)]) rfl (by kernel_rfl) (by kernel_rfl) (by kernel_rfl) (fun _ _ _ h=>h) (Or.inl ⟨by kernel_rfl,fun wS hSw=>by (try dsimp only at hSw); go_simp⟩) hH0 ?_
      refine wpAnyH_take (i:=5) (v:=.slice none 0 0) rfl (by kernel_rfl) (by kernel_rfl) (by kernel_rfl) (fun _ _ _ h=>h) (Or.inl ⟨by kernel_rfl,fun wS hSw=>by (try dsimp only at hSw); go_simp⟩) hH0 ?_
      refine wpAnyH_ready (rs:=[3]) (by kernel_rfl) (by simp) ?_
      refine AllReadyH.cons rfl (fun K hK=>?_) AllReadyH.nil
      rw [if_pos (by kernel_rfl)]
      go_simp
      refine hK.out _ _ (tk_2cells (w:=wr.drew.alloc _) (by rw [heap_alloc_old _ _ (show w.heap.size < wr.drew.heap.size from (Array.getElem?_eq_some_iff.1 HP4.out).1)]; exact HP4.out)) (fun hH1=>?_)
      clear hK K
      refine wpAnyH_take (i:=4) (v:=.iface 222 (.pointer (some ⟨wr.heap.size,0,none⟩))) rfl (by kernel_rfl) (by kernel_rfl) (by kernel_rfl) (fun _ _ _ h=>h) (Or.inl ⟨by kernel_rfl,fun wS hSw=>by (try dsimp only at hSw); go_simp⟩) hH1 ?_
      refine wpAnyH_take (i:=6) (v:=.iface 222 (.pointer (some ⟨wr.heap.size,0,none⟩))) rfl (by kernel_rfl) (by kernel_rfl) (by kernel_rfl) (fun _ _ _ h=>h) (Or.inl ⟨by kernel_rfl,fun wS hSw=>by (try dsimp only at hSw); go_simp⟩) hH1 ?_
      refine wpAnyH_done (by kernel_rfl) ?_ _
      go_simp
      go_wp2_with fail
      rw [Exit.noGoto_ret]
      go_ret2
      exact readT_no HE.out (by decide) (g:=wr.heap.size) rfl HB4.out.size (perr_new rfl) ((HB4.out.drew).alloc (by have:=HB4.out.size; exact this) _)
     case pos =>
      obtain ⟨⟨kk,t,n,er⟩,hz⟩:∃ z,z=cutAt j l2:=⟨_,rfl⟩
      have HCj:=Lib.hid (fun w1 (hb:Below w.heap.size w w1)=>HC.out j w1 hj3 hb)
      rw [← hz] at HCj
      simp only at HCj
      have hFirst:=fun hc=>firstT_at hj3 HN.out hc
      have hNone:=fun h1 h2=>none_more HN.out h1 h2
      rw [← hz] at hFirst hNone
      simp only at hFirst hNone
      have hg:∀ i,i < 3 → wr.cell? ⟨F,i,none⟩=some (.func (.func (cutF i)) #[] #[]):=fun i hi=>by
       rw [cell_of_row wr F i _ _ _ HF4.out]
       match i,hi with
       | 0,_=>rfl
       | 1,_=>rfl
       | 2,_=>rfl
      have g0:=hg 0 (by omega)
      have g1:=hg 1 (by omega)
      have g2:=hg 2 (by omega)
      simp only [cutF] at g0 g1 g2
      have hlt:w.heap.size < wr.heap.size:=(Array.getElem?_eq_some_iff.1 HP4.out).1
      have hjs:j=0 ∨ j=1 ∨ j=2:=by omega
      clear hg hz hj3
      by_cases he:er=0
      case neg =>
       have hf:=hFirst (.inr he)
       rw [if_neg he] at hf
       have HE:Hid (tokL l0=.error (er,ql,qc)):=Lib.hid (by
        rw [HV.out]
        have h:=tokX_bad HX.out (stepT_err (p:=(pl,pc)) HD.out (by rw [HD2.out.1]; exact hf))
        rw [HD2.out.2] at h
        exact h)
       rw [errV_pos he] at HCj
       have HNe:=Lib.hid he
       clear hf hFirst hNone he HN
       rcases hjs with rfl | rfl | rfl
       all_goals
        simp only [cutF] at HCj
        go_wp2_with fail
        refine (HCj.out _ HB4.out).mono ?_
        rintro e w5 ⟨rfl,k5⟩
        have hP5:=(k5.block _ hlt).trans HP4.out
        have hB5:=HB4.out.trans (k5.mono HB4.out.size)
        have hlt5:w.heap.size < w5.heap.size:=(Array.getElem?_eq_some_iff.1 hP5).1
        have HP6:Hid ((w5.alloc (.cells #[.int .i64 (kk:Nat),.string ⟨t.toArray⟩,.int .i64 0,.int .i64 0] 183)).heap[w.heap.size]? = some (.cells #[.int .i64 (ql:Nat),.int .i64 (qc:Nat)] 226 (0,0))):=Lib.hid (by rw [heap_alloc_old _ _ hlt5]; exact hP5)
        have HB6:=Lib.hid (hB5.alloc hB5.size (.cells #[.int .i64 (kk:Nat),.string ⟨t.toArray⟩,.int .i64 0,.int .i64 0] 183))
        clear hP5 hB5 k5 g0 g1 g2 HCj HF4 HO4 HP4 HB4
        go_wp2_with fail
        generalize hW6:w5.alloc (.cells #[.int .i64 (kk:Nat),.string ⟨t.toArray⟩,.int .i64 0,.int .i64 0] 183)=w6 at HP6 HB6 ⊢
        obtain ⟨d0,d1⟩:=tk_2cells HP6.out
        have hlt6:w.heap.size < w6.heap.size:=(Array.getElem?_eq_some_iff.1 HP6.out).1
        clear hW6
        refine wp_region_held_drew (S:=(fun W=>W.cell? ⟨w.heap.size,0,none⟩=some (.int .i64 (ql:Nat)) ∧ W.cell? ⟨w.heap.size,1,none⟩=some (.int .i64 (qc:Nat)))) (by kernel_rfl) (tk_2cells (w:=w6.drew) HP6.out) (fun hH0=>?_)
        refine wpAnyH_take (i:=0) (v:=.agg #[.int .i64 (ql:Nat),.int .i64 (qc:Nat)]) rfl (by kernel_rfl) (by kernel_rfl) (by kernel_rfl) (fun _ _ _ h=>h) (Or.inl ⟨by kernel_rfl,fun wS hSw=>by (try dsimp only at hSw); (first | go_simp | (obtain ⟨hS1,hS2⟩:=hSw; go_simp))⟩) hH0 ?_
        refine wpAnyH_take (i:=1) (v:=.iface 44 (.int .i64 (er:Nat))) rfl (by kernel_rfl) (by kernel_rfl) (by kernel_rfl) (fun _ _ _ h=>h) (Or.inl ⟨by kernel_rfl,fun wS hSw=>by (try dsimp only at hSw); go_simp⟩) hH0 ?_
        refine wpAnyH_take (i:=2) (v:=.agg #[.int .i64 (ql:Nat),.int .i64 (qc:Nat),.iface 44 (.int .i64 (er:Nat))]) rfl (by kernel_rfl) (by kernel_rfl) (by kernel_rfl) (fun _ _ _ h=>h) (Or.inl ⟨by kernel_rfl,fun wS hSw=>by (try dsimp only at hSw); go_simp⟩) hH0 ?_
        refine wpAnyH_take (i:=5) (v:=.slice none 0 0) rfl (by kernel_rfl) (by kernel_rfl) (by kernel_rfl) (fun _ _ _ h=>h) (Or.inl ⟨by kernel_rfl,fun wS hSw=>by (try dsimp only at hSw); go_simp⟩) hH0 ?_
        refine wpAnyH_ready (rs:=[3]) (by kernel_rfl) (by simp) ?_
        refine AllReadyH.cons rfl (fun K hK=>?_) AllReadyH.nil
        rw [if_pos (by kernel_rfl)]
        go_simp
        refine hK.out _ _ (tk_2cells (w:=w6.drew.alloc _) (by rw [heap_alloc_old _ _ (show w.heap.size < w6.drew.heap.size from (Array.getElem?_eq_some_iff.1 HP6.out).1)]; exact HP6.out)) (fun hH1=>?_)
        clear hK K
        refine wpAnyH_take (i:=4) (v:=.iface 222 (.pointer (some ⟨w6.heap.size,0,none⟩))) rfl (by kernel_rfl) (by kernel_rfl) (by kernel_rfl) (fun _ _ _ h=>h) (Or.inl ⟨by kernel_rfl,fun wS hSw=>by (try dsimp only at hSw); go_simp⟩) hH1 ?_
        refine wpAnyH_take (i:=6) (v:=.iface 222 (.pointer (some ⟨w6.heap.size,0,none⟩))) rfl (by kernel_rfl) (by kernel_rfl) (by kernel_rfl) (fun _ _ _ h=>h) (Or.inl ⟨by kernel_rfl,fun wS hSw=>by (try dsimp only at hSw); go_simp⟩) hH1 ?_
        refine wpAnyH_done (by kernel_rfl) ?_ _
        go_simp
        go_wp2_with fail
        rw [Exit.noGoto_ret]
        go_ret2
        exact readT_no HE.out HNe.out (g:=w6.heap.size) rfl HB6.out.size (perr_new rfl) ((HB6.out.drew).alloc (by have:=HB6.out.size; exact this) _)
      case pos =>
       subst he
       by_cases hn:n=0
       case pos =>
        subst hn
        have HN2:=Lib.hid (hNone rfl rfl)
        have hj2:j + 1 ≤ 3:=by omega
        rw [errV_zero] at HCj
        clear hFirst hNone HN
        rcases hjs with rfl | rfl | rfl
        all_goals
         simp only [cutF] at HCj
         go_wp2_with fail
         refine (HCj.out _ HB4.out).mono ?_
         rintro e w5 ⟨rfl,k5⟩
         have HF5:=Lib.hid ((k5.block _ (Array.getElem?_eq_some_iff.1 HF4.out).1).trans HF4.out)
         have HP5:=Lib.hid ((k5.block _ hlt).trans HP4.out)
         have HO5:=Lib.hid (cs_ownBelow HO4.out k5)
         have HB5:=Lib.hid (HB4.out.trans (k5.mono HB4.out.size))
         clear k5 g0 g1 g2 HCj HF4 HO4 HP4 HB4 hlt
         go_wp2_with fail
         go_roundw
         case rel=>exact ⟨rfl,rfl,_,hj2,rfl,HN2,Lib.hid (by rw [heap_alloc_old _ _ (Array.getElem?_eq_some_iff.1 HF5.out).1]; exact HF5.out),Lib.hid (HO5.out.alloc _),Lib.hid (by rw [heap_alloc_old _ _ (Array.getElem?_eq_some_iff.1 HP5.out).1]; exact HP5.out),Lib.hid (HB5.out.alloc HB5.out.size _)⟩
         case measure=>simp [intOf]
       case neg =>
        have hf:=hFirst (.inl hn)
        rw [if_pos rfl] at hf
        obtain ⟨hta,htp,htl⟩:=tok_adv hf (ql,qc)
        simp only at hta
        have HXn:Hid (tokX l0 (M ++ [⟨kk,t,ql,qc⟩]) (l2.drop n) (ql,qc + n)):=Lib.hid (by
         have h:=tokX_more HX.out (stepT_ok (p:=(pl,pc)) HD.out (by rw [HD2.out.1]; exact hf))
         rw [HD2.out.1,HD2.out.2] at h
         exact h)
        have hnx:n ≤ x2.size:=by rw [hl2s]; exact htl
        obtain ⟨y1,hy1⟩:∃ y1,y1=x2.extract 0 n:=⟨_,rfl⟩
        obtain ⟨y2,hy2⟩:∃ y2,y2=x2.extract n x2.size:=⟨_,rfl⟩
        have hyl1:y1.data.toList=l2.take n:=by rw [hy1,cs_take,← HLL.out]
        have hyl2:y2.data.toList=l2.drop n:=by rw [hy2,cs_drop,← HLL.out]
        have hys1:y1.size=n:=by rw [cs_size,hyl1,List.length_take,← hl2s]; omega
        have hys2:y2.size=x2.size - n:=by rw [cs_size,hyl2,List.length_drop,← hl2s]
        have HBh2:Hid (∀ w1,Calls Tryz.prog 222 #[.agg #[.int .i64 (ql:Nat),.int .i64 (qc:Nat)],.string y1] w1 fun e w'=>e=.returned (.agg #[.int .i64 (ql:Nat),.int .i64 ((qc + n:Nat):Int)]) ∧ Below w1.heap.size w1 w'):=Lib.hid (fun w1=>by
         have h:=behind_calls ql qc y1 w1 (by omega) (by omega)
         rw [hyl1,hta] at h
         exact h)
        rw [← hyl2] at HXn
        obtain ⟨qd,hqd⟩:∃ qd,qd=qc + n:=⟨_,rfl⟩
        rw [← hqd] at HBh2 HXn
        have HY1:=Lib.hid hy1
        have HY2:=Lib.hid hy2
        have r1:y2.size ≤ 65536:=by omega
        have r2:m + 1 + y2.size ≤ 65536:=by omega
        have r3:ql + y2.size ≤ 65537:=by omega
        have r4:qd + y2.size ≤ 65537:=by omega
        have r5:1 ≤ qd:=by omega
        have r6:y2.size < x.size:=by omega
        have t9:decide ((0:Int) < (n:Int))=true:=by rw [decide_eq_true_eq]; omega
        rw [errV_zero] at HCj
        clear hFirst hNone HN hf hta htl hy1 hy2 hyl1 hyl2 hys1 hys2 hqd hl2s
        rcases hjs with rfl | rfl | rfl
        all_goals
         simp only [cutF] at HCj
         go_wp2_with fail
         refine (HCj.out _ HB4.out).mono ?_
         rintro e w5 ⟨rfl,k5⟩
         have hP5:=(k5.block _ hlt).trans HP4.out
         have hO5:=cs_ownBelow HO4.out k5
         have hB5:=HB4.out.trans (k5.mono HB4.out.size)
         have hlt5:w.heap.size < w5.heap.size:=(Array.getElem?_eq_some_iff.1 hP5).1
         obtain ⟨Tn,hTn⟩:∃ Tn,Tn=w5.heap.size:=⟨_,rfl⟩
         have HT6:Hid ((w5.alloc (.cells #[.int .i64 (kk:Nat),.string ⟨t.toArray⟩,.int .i64 0,.int .i64 0] 183)).heap[Tn]? = some (.cells #[.int .i64 (kk:Nat),.string ⟨t.toArray⟩,.int .i64 0,.int .i64 0] 183 (0,0))):=Lib.hid (by rw [hTn]; exact heap_alloc_new _ _)
         have HP6:Hid ((w5.alloc (.cells #[.int .i64 (kk:Nat),.string ⟨t.toArray⟩,.int .i64 0,.int .i64 0] 183)).heap[w.heap.size]? = some (.cells #[.int .i64 (ql:Nat),.int .i64 (qc:Nat)] 226 (0,0))):=Lib.hid (by rw [heap_alloc_old _ _ hlt5]; exact hP5)
         have HB6:=Lib.hid (hB5.alloc hB5.size (.cells #[.int .i64 (kk:Nat),.string ⟨t.toArray⟩,.int .i64 0,.int .i64 0] 183))
         have HO6:=Lib.hid (hO5.alloc (.cells #[.int .i64 (kk:Nat),.string ⟨t.toArray⟩,.int .i64 0,.int .i64 0] 183))
         have HOT:Hid (some Tn ≠ (Value.slice oa m oc).ownBlock):=Lib.hid (fun e=>by have:=(hO5.lt Tn e.symm).2; omega)
         have hNT:w.heap.size ≠ Tn:=by omega
         have HNT:Hid (w.heap.size ≤ Tn):=Lib.hid (by omega)
         have HTn:=Lib.hid hTn
         clear hP5 hB5 hO5 k5 g0 g1 g2 HCj HF4 HO4 HP4 HB4 hlt hlt5 hTn
         go_wp2_with fail
         rw [← HTn.out]
         generalize hW6:w5.alloc (.cells #[.int .i64 (kk:Nat),.string ⟨t.toArray⟩,.int .i64 0,.int .i64 0] 183)=w6 at HT6 HP6 HB6 HO6 ⊢
         obtain ⟨d0,d1⟩:=tk_2cells HP6.out
         have hlt6:w.heap.size < w6.heap.size:=(Array.getElem?_eq_some_iff.1 HP6.out).1
         have hltT:Tn < w6.heap.size:=(Array.getElem?_eq_some_iff.1 HT6.out).1
         have z2:w6.cell? ⟨Tn,2,none⟩=some (.int .i64 0):=by rw [cell_of_row w6 Tn 2 _ _ _ HT6.out]; rfl
         have z3:w6.cell? ⟨Tn,3,none⟩=some (.int .i64 0):=by rw [cell_of_row w6 Tn 3 _ _ _ HT6.out]; rfl
         have y2f:w6.frozen? ⟨Tn,2,none⟩=false:=frozen_of_row w6 _ 2 _ _ HT6.out
         have y3f:w6.frozen? ⟨Tn,3,none⟩=false:=frozen_of_row w6 _ 3 _ _ HT6.out
         clear hW6 HTn
         refine wp_region_held_drew (S:=(fun W=>W.cell? ⟨w.heap.size,0,none⟩=some (.int .i64 (ql:Nat)) ∧ W.cell? ⟨w.heap.size,1,none⟩=some (.int .i64 (qc:Nat)))) (by kernel_rfl) (tk_2cells (w:=w6.drew) HP6.out) (fun hH0=>?_)
         refine wpAnyH_take (i:=0) (v:=.pointer (some ⟨w.heap.size,0,none⟩)) rfl (by kernel_rfl) (by kernel_rfl) (by kernel_rfl) (fun _ _ _ h=>h) (Or.inl ⟨by kernel_rfl,fun wS hSw=>by (try dsimp only at hSw); go_simp⟩) hH0 ?_
         refine wpAnyH_take (i:=1) (v:=.int .i64 (ql:Nat)) rfl (by kernel_rfl) (by kernel_rfl) (by kernel_rfl) (fun _ _ _ h=>h) (Or.inl ⟨by kernel_rfl,fun wS hSw=>by (try dsimp only at hSw); (obtain ⟨hS1,hS2⟩:=hSw; go_simp)⟩) hH0 ?_
         refine wpAnyH_take (i:=2) (v:=.pointer (some ⟨w.heap.size,1,none⟩)) rfl (by kernel_rfl) (by kernel_rfl) (by kernel_rfl) (fun _ _ _ h=>h) (Or.inl ⟨by kernel_rfl,fun wS hSw=>by (try dsimp only at hSw); go_simp⟩) hH0 ?_
         refine wpAnyH_take (i:=3) (v:=.int .i64 (qc:Nat)) rfl (by kernel_rfl) (by kernel_rfl) (by kernel_rfl) (fun _ _ _ h=>h) (Or.inl ⟨by kernel_rfl,fun wS hSw=>by (try dsimp only at hSw); (obtain ⟨hS1,hS2⟩:=hSw; go_simp)⟩) hH0 ?_
         refine wpAnyH_take (i:=4) (v:=.pointer (some ⟨Tn,2,none⟩)) rfl (by kernel_rfl) (by kernel_rfl) (by kernel_rfl) (fun _ _ _ h=>h) (Or.inl ⟨by kernel_rfl,fun wS hSw=>by (try dsimp only at hSw); go_simp⟩) hH0 ?_
         refine wpAnyH_ready (rs:=[5]) (by kernel_rfl) (by simp) ?_
         refine AllReadyH.cons rfl (fun K hK=>?_) AllReadyH.nil
         rw [if_pos (by kernel_rfl)]
         go_simp
         refine hK.out _ _ (tk_2cells ((heap_setCell_other w6 _ _ _ (by simpa using hNT)).trans HP6.out)) (fun hH1=>?_)
         clear hK K
         refine wpAnyH_take (i:=6) (v:=.pointer (some ⟨Tn,3,none⟩)) rfl (by kernel_rfl) (by kernel_rfl) (by kernel_rfl) (fun _ _ _ h=>h) (Or.inl ⟨by kernel_rfl,fun wS hSw=>by (try dsimp only at hSw); go_simp⟩) hH1 ?_
         refine wpAnyH_ready (rs:=[7]) (by kernel_rfl) (by simp) ?_
         refine AllReadyH.cons rfl (fun K hK=>?_) AllReadyH.nil
         rw [if_pos (by kernel_rfl)]
         go_simp
         refine hK.out _ _ (tk_2cells ((heap_setCell_other (w6.setCell ⟨Tn,2,none⟩ (.int .i64 (ql:Nat))) _ _ _ (by simpa using hNT)).trans ((heap_setCell_other w6 _ _ _ (by simpa using hNT)).trans HP6.out))) (fun hH2=>?_)
         clear hK K
         refine wpAnyH_done (by kernel_rfl) ?_ _
         go_simp
         generalize hW7:((w6.setCell ⟨Tn,2,none⟩ (.int .i64 (ql:Nat))).setCell ⟨Tn,3,none⟩ (.int .i64 (qc:Nat))).drew=w7
         have hg7:w6.grownBy w7 (some Tn):=by rw [← hW7]; exact cs_gdrew (cs_gtrans (cs_set (a:=⟨Tn,2,none⟩)) (cs_set (a:=⟨Tn,3,none⟩)))
         have HT7:Hid (w7.heap[Tn]? = some (.cells #[.int .i64 (kk:Nat),.string ⟨t.toArray⟩,.int .i64 (ql:Nat),.int .i64 (qc:Nat)] 183 (0,0))):=Lib.hid (by rw [← hW7]; exact tk_set23 HT6.out)
         have HP7:=Lib.hid ((hg7.block w.heap.size hlt6 (fun e=>hNT (Option.some.inj e))).trans HP6.out)
         have HO7:=Lib.hid (HO6.out.kept hg7 (.inr (fun e=>HOT.out e.symm)))
         have HB7:Hid (Below w.heap.size w w7):=Lib.hid (HB6.out.grown hg7 HB6.out.size (fun k hk=>by cases hk; exact HNT.out))
         have q0:w7.cell? ⟨Tn,0,none⟩=some (.int .i64 (kk:Nat)):=by rw [cell_of_row w7 Tn 0 _ _ _ HT7.out]; rfl
         have q1:w7.cell? ⟨Tn,1,none⟩=some (.string ⟨t.toArray⟩):=by rw [cell_of_row w7 Tn 1 _ _ _ HT7.out]; rfl
         have q2:w7.cell? ⟨Tn,2,none⟩=some (.int .i64 (ql:Nat)):=by rw [cell_of_row w7 Tn 2 _ _ _ HT7.out]; rfl
         have q3:w7.cell? ⟨Tn,3,none⟩=some (.int .i64 (qc:Nat)):=by rw [cell_of_row w7 Tn 3 _ _ _ HT7.out]; rfl
         clear hW7 hg7 HT6 HP6 HB6 HO6 d0 d1 z2 z3 y2f y3f hH0 hH1 hH2 hlt6 hltT hNT HOT HNT
         go_wp2_with (at_builtin; refine wpList_append_own _ rfl _ _ 161 rfl w.heap.size 183 i0 (.agg #[.int .i64 0,.string ⟨#[]⟩,.int .i64 0,.int .i64 0]) 4 40 Tryz.underlying161 HI.out HZ0.out HZ1.out HZ2.out rfl (by decide) _ _ _ rfl (HO7.out.alloc _) _ 1 1 (tkC ⟨kk,t,ql,qc⟩) rfl rfl ?c1 ?c2 ?c3 ?c4 ?c5 ?_)
         case c1=>exact tk_new w7 ⟨kk,t,ql,qc⟩ _
         case c2=>intro u hu; simp [tkC] at hu; rcases hu with rfl | rfl | rfl | rfl <;> rfl
         case c3=>unfold maxLen; omega
         case c4=>omega
         case c5=>have:=HB7.out.size; simp; omega
         intro v' w8 hown' hgrow _
         have hO7a:=HO7.out.alloc (.cells #[.int .i64 (kk:Nat),.string ⟨t.toArray⟩,.int .i64 (ql:Nat),.int .i64 (qc:Nat)] 183)
         have hW8:w.heap.size ≤ (w7.alloc (.cells #[.int .i64 (kk:Nat),.string ⟨t.toArray⟩,.int .i64 (ql:Nat),.int .i64 (qc:Nat)] 183)).heap.size:=by have:=HB7.out.size; simp; omega
         have hP7a:(w7.alloc (.cells #[.int .i64 (kk:Nat),.string ⟨t.toArray⟩,.int .i64 (ql:Nat),.int .i64 (qc:Nat)] 183)).heap[w.heap.size]? = _:=(heap_alloc_old _ _ (Array.getElem?_eq_some_iff.1 HP7.out).1).trans HP7.out
         have hB8:=(HB7.out.alloc HB7.out.size (.cells #[.int .i64 (kk:Nat),.string ⟨t.toArray⟩,.int .i64 (ql:Nat),.int .i64 (qc:Nat)] 183)).grown hgrow hW8 (fun k hk=>(HO7.out.lt k hk).1)
         have hO8:w8.ownsRow w.heap.size 183 4 v' (m + 1) (tkCs (M ++ [⟨kk,t,ql,qc⟩])):=by rw [tkCs_snoc]; exact hown'
         have hP8:=(hgrow.block w.heap.size (Array.getElem?_eq_some_iff.1 hP7a).1 ((show CBlk _ w.heap.size 226 from ⟨_,_,hP7a⟩).far hO7a (by decide))).trans hP7a
         obtain ⟨va,vc,rfl⟩:=cs_own hO8
         obtain ⟨d0,d1⟩:=tk_2cells hP8
         have HO8:=Lib.hid hO8
         have HP8:=Lib.hid hP8
         have HB8:=Lib.hid hB8
         clear hO7a hW8 hP7a hB8 hO8 hP8 hown' hgrow HT7 HP7 HO7 HB7 q0 q1 q2 q3
         go_wp2_with fail
         refine wp_region_held_drew (S:=(fun _=>True)) (by kernel_rfl) (trivial) (fun hH0=>?_)
         refine wpAnyH_take (i:=1) (v:=.string x2) rfl (by kernel_rfl) (by kernel_rfl) (by kernel_rfl) (fun _ _ _ h=>h) (Or.inl ⟨by kernel_rfl,fun wS hSw=>by (try dsimp only at hSw); go_simp⟩) hH0 ?_
         refine wpAnyH_take (i:=2) (v:=.int .i64 n) rfl (by kernel_rfl) (by kernel_rfl) (by kernel_rfl) (fun _ _ _ h=>h) (Or.inl ⟨by kernel_rfl,fun wS hSw=>by (try dsimp only at hSw); go_simp⟩) hH0 ?_
         refine wpAnyH_take (i:=3) (v:=.string y1) rfl (by kernel_rfl) (by kernel_rfl) (by kernel_rfl) (fun _ _ _ h=>h) (Or.inl ⟨by kernel_rfl,fun wS hSw=>by (try dsimp only at hSw); rw [HY1.out]; go_simp⟩) hH0 ?_
         refine wpAnyH_take (i:=5) (v:=.string x2) rfl (by kernel_rfl) (by kernel_rfl) (by kernel_rfl) (fun _ _ _ h=>h) (Or.inl ⟨by kernel_rfl,fun wS hSw=>by (try dsimp only at hSw); go_simp⟩) hH0 ?_
         refine wpAnyH_take (i:=6) (v:=.int .i64 n) rfl (by kernel_rfl) (by kernel_rfl) (by kernel_rfl) (fun _ _ _ h=>h) (Or.inl ⟨by kernel_rfl,fun wS hSw=>by (try dsimp only at hSw); go_simp⟩) hH0 ?_
         refine wpAnyH_take (i:=7) (v:=.string y2) rfl (by kernel_rfl) (by kernel_rfl) (by kernel_rfl) (fun _ _ _ h=>h) (Or.inl ⟨by kernel_rfl,fun wS hSw=>by (try dsimp only at hSw); rw [HY2.out]; go_simp⟩) hH0 ?_
         refine wpAnyH_ready (rs:=[0]) (by kernel_rfl) (by simp) ?_
         refine AllReadyH.cons rfl (fun K hK=>?_) AllReadyH.nil
         rw [if_pos (by kernel_rfl)]
         go_simp
         refine hK.out _ _ (trivial) (fun hH1=>?_)
         clear hK K
         refine wpAnyH_ready (rs:=[4]) (by kernel_rfl) (by simp) ?_
         refine AllReadyH.cons rfl (fun K hK=>?_) AllReadyH.nil
         rw [if_pos (by kernel_rfl)]
         go_simp
         refine (HBh2.out _).mono ?_
         rintro e w2b ⟨rfl,k2⟩
         refine hK.out _ _ (trivial) (fun hH2=>?_)
         clear hK K
         obtain ⟨hP2,hO2,hB2⟩:w2b.heap[w.heap.size]? = _ ∧ w2b.ownsRow _ _ _ _ _ _ ∧ Below w.heap.size w w2b:=⟨(k2.block _ (Array.getElem?_eq_some_iff.1 HP8.out).1).trans HP8.out,cs_ownBelow (show w8.drew.ownsRow _ _ _ _ _ _ from HO8.out) k2,HB8.out.drew.trans (k2.mono HB8.out.drew.size)⟩
         obtain ⟨c0,c1⟩:=tk_2cells hP2
         have f0:=frozen_of_row w2b _ 0 _ _ hP2
         have f1:=frozen_of_row w2b _ 1 _ _ hP2
         have HP2:=Lib.hid hP2
         have HO2:=Lib.hid hO2
         have HB2:=Lib.hid hB2
         clear hP2 hO2 hB2 k2
         refine wpAnyH_ready (rs:=[8]) (by kernel_rfl) (by simp) ?_
         refine AllReadyH.cons rfl (fun K hK=>?_) AllReadyH.nil
         rw [if_pos (by kernel_rfl)]
         go_simp
         refine hK.out _ _ (trivial) (fun hH3=>?_)
         clear hK K
         refine wpAnyH_take (i:=9) (v:=.string y2) rfl (by kernel_rfl) (by kernel_rfl) (by kernel_rfl) (fun _ _ _ h=>h) (Or.inl ⟨by kernel_rfl,fun wS hSw=>by (try dsimp only at hSw); go_simp⟩) hH3 ?_
         refine wpAnyH_done (by kernel_rfl) ?_ _
         go_simp
         generalize hW9:(w2b.setCell ⟨w.heap.size,0,none⟩ (.int .i64 (ql:Nat))).setCell ⟨w.heap.size,1,none⟩ (.int .i64 (qd:Nat))=w9
         have HP9:Hid (w9.heap[w.heap.size]? = some (.cells #[.int .i64 (ql:Nat),.int .i64 (qd:Nat)] 226 (0,0))):=Lib.hid (by rw [← hW9]; exact pl_set HP2.out)
         have hg9:w2b.grownBy w9 (some w.heap.size):=by rw [← hW9]; exact pl_grown _ _
         have HO9:=Lib.hid (cs_ownKept HO2.out (show CBlk w2b w.heap.size 226 from ⟨_,_,HP2.out⟩) (by decide) hg9)
         have HB9:Hid (Below w.heap.size w w9):=Lib.hid (by rw [← hW9]; exact place_set HB2.out (Nat.le_refl _) _ _)
         have HM9:Hid ((M ++ [(⟨kk,t,ql,qc⟩:Tk)]).length=m + 1):=Lib.hid (by rw [List.length_append,← HM.out]; rfl)
         clear hW9 hg9 HP2 HO2 HB2 c0 c1 f0 f1 d0 d1
         go_wp2_with fail
         go_roundw
         case rel=>exact ⟨M ++ [⟨kk,t,ql,qc⟩],y2,ql,qd,rfl,r1,by rw [HM9.out]; exact r2,r3,r4,r5,HXn,Lib.hid (by rw [HM9.out]; exact HO9.out),HP9,HB9⟩
         case measure=>simp [strLen]; exact r6
end Go.Proofs.YtiafhfchjhffhaaGreatDoor
