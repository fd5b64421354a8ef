/- paclaim: PrAwake -/
import Derived.Test.YtiafhfchjhffhaaGreatDoorParTop
import Derived.Test.YtiafhfchjhffhaaGreatDoorLowPr2
import Derived.Test.YtiafhfchjhffhaaGreatDoorLowCsv
namespace Go.Proofs.YtiafhfchjhffhaaGreatDoor
open Go.RowKit
set_option linter.unusedVariables false
theorem ns_gin {B:Nat} {w:World} {v:Value} {L:List Ex} (h:NsAt B w v L) (hk:∀ x ∈ L,okE x):∃ a cap,v=.slice a L.length cap ∧ GIn rEx 58 True 10 w a L.length L:=by
 obtain ⟨a,cap,e,hg,_⟩:=own_gin (R:=rEx) (L:=L) (css:=L.map exC) h ⟨by rw [List.length_map],fun cs hc=>by obtain ⟨x,_,rfl⟩:=List.mem_map.1 hc; rfl,fun n x hx=>⟨exC x,by rw [List.getElem?_map,hx]; rfl,rfl,hk x (List.mem_of_getElem? hx)⟩⟩
 exact ⟨a,cap,e,hg⟩
def prEx:List UInt8:=[40,97,43,50,41,32,42,32,45,40,51,41]
def prExT:List Tk:=[⟨5,[40],1,1⟩,⟨1,[97],1,2⟩,⟨5,[43],1,3⟩,⟨3,[50],1,4⟩,⟨5,[41],1,5⟩,⟨5,[42],1,7⟩,⟨5,[45],1,9⟩,⟨5,[40],1,10⟩,⟨3,[51],1,11⟩,⟨5,[41],1,12⟩]
def prExL:List Ex:=[⟨17,0,0,⟨#[97]⟩,v0,1,2⟩,⟨1,0,0,⟨#[]⟩,vInt 2,1,4⟩,⟨8,0,1,⟨#[]⟩,v0,1,3⟩,⟨1,0,0,⟨#[]⟩,vInt 3,1,11⟩,⟨5,3,0,⟨#[]⟩,v0,1,9⟩,⟨10,2,4,⟨#[]⟩,v0,1,7⟩]
def prExE:Et:=.bin 10 (.bin 8 (.nam ⟨#[97]⟩) (.val (vInt 2))) (.un 5 (.val (vInt 3)))
theorem pr_wa:wordT [97]=.ok (1,[97],1):=by
 unfold wordT
 rw [if_neg (by decide),if_neg (by decide),if_pos (by decide +kernel)]; rfl
theorem pr_w2:wordT [50]=.ok (3,[50],1):=by
 unfold wordT
 rw [if_pos (by decide),if_neg (by decide),if_neg (by decide),if_neg (by decide)]; rfl
theorem pr_w3:wordT [51]=.ok (3,[51],1):=by
 unfold wordT
 rw [if_pos (by decide),if_neg (by decide),if_neg (by decide),if_neg (by decide)]; rfl
theorem pr_f0:firstT [40,97,43,50,41,32,42,32,45,40,51,41]=.ok (5,[40],1):=by
 rw [firstT,if_neg (by decide),if_pos (by decide),if_neg (by decide)]; rfl
theorem pr_f1:firstT [97,43,50,41,32,42,32,45,40,51,41]=.ok (1,[97],1):=by
 rw [firstT,if_neg (by decide),if_neg (by decide)]; exact pr_wa
theorem pr_f2:firstT [43,50,41,32,42,32,45,40,51,41]=.ok (5,[43],1):=by
 rw [firstT,if_neg (by decide),if_pos (by decide),if_neg (by decide)]; rfl
theorem pr_f3:firstT [50,41,32,42,32,45,40,51,41]=.ok (3,[50],1):=by
 rw [firstT,if_neg (by decide),if_neg (by decide)]; exact pr_w2
theorem pr_f4:firstT [41,32,42,32,45,40,51,41]=.ok (5,[41],1):=by
 rw [firstT,if_neg (by decide),if_pos (by decide),if_neg (by decide)]; rfl
theorem pr_f5:firstT [42,32,45,40,51,41]=.ok (5,[42],1):=by
 rw [firstT,if_neg (by decide),if_pos (by decide),if_neg (by decide)]; rfl
theorem pr_f6:firstT [45,40,51,41]=.ok (5,[45],1):=by
 rw [firstT,if_neg (by decide),if_pos (by decide),if_neg (by decide)]; rfl
theorem pr_f7:firstT [40,51,41]=.ok (5,[40],1):=by
 rw [firstT,if_neg (by decide),if_pos (by decide),if_neg (by decide)]; rfl
theorem pr_f8:firstT [51,41]=.ok (3,[51],1):=by
 rw [firstT,if_neg (by decide),if_neg (by decide)]; exact pr_w3
theorem pr_f9:firstT [41]=.ok (5,[41],1):=by
 rw [firstT,if_neg (by decide),if_pos (by decide),if_neg (by decide)]; rfl
theorem pr_tok:tokL prEx=.ok prExT:=by
 have s0:stepT [40,97,43,50,41,32,42,32,45,40,51,41] (1,1)=.ok (some (⟨5,[40],1,1⟩,[97,43,50,41,32,42,32,45,40,51,41],(1,2))):=stepT_ok (l:=[40,97,43,50,41,32,42,32,45,40,51,41]) (p:=(1,1)) (by decide) pr_f0
 have s1:stepT [97,43,50,41,32,42,32,45,40,51,41] (1,2)=.ok (some (⟨1,[97],1,2⟩,[43,50,41,32,42,32,45,40,51,41],(1,3))):=stepT_ok (l:=[97,43,50,41,32,42,32,45,40,51,41]) (p:=(1,2)) (by decide) pr_f1
 have s2:stepT [43,50,41,32,42,32,45,40,51,41] (1,3)=.ok (some (⟨5,[43],1,3⟩,[50,41,32,42,32,45,40,51,41],(1,4))):=stepT_ok (l:=[43,50,41,32,42,32,45,40,51,41]) (p:=(1,3)) (by decide) pr_f2
 have s3:stepT [50,41,32,42,32,45,40,51,41] (1,4)=.ok (some (⟨3,[50],1,4⟩,[41,32,42,32,45,40,51,41],(1,5))):=stepT_ok (l:=[50,41,32,42,32,45,40,51,41]) (p:=(1,4)) (by decide) pr_f3
 have s4:stepT [41,32,42,32,45,40,51,41] (1,5)=.ok (some (⟨5,[41],1,5⟩,[32,42,32,45,40,51,41],(1,6))):=stepT_ok (l:=[41,32,42,32,45,40,51,41]) (p:=(1,5)) (by decide) pr_f4
 have s5:stepT [32,42,32,45,40,51,41] (1,6)=.ok (some (⟨5,[42],1,7⟩,[32,45,40,51,41],(1,8))):=stepT_ok (l:=[32,42,32,45,40,51,41]) (p:=(1,6)) (by decide) pr_f5
 have s6:stepT [32,45,40,51,41] (1,8)=.ok (some (⟨5,[45],1,9⟩,[40,51,41],(1,10))):=stepT_ok (l:=[32,45,40,51,41]) (p:=(1,8)) (by decide) pr_f6
 have s7:stepT [40,51,41] (1,10)=.ok (some (⟨5,[40],1,10⟩,[51,41],(1,11))):=stepT_ok (l:=[40,51,41]) (p:=(1,10)) (by decide) pr_f7
 have s8:stepT [51,41] (1,11)=.ok (some (⟨3,[51],1,11⟩,[41],(1,12))):=stepT_ok (l:=[51,41]) (p:=(1,11)) (by decide) pr_f8
 have s9:stepT [41] (1,12)=.ok (some (⟨5,[41],1,12⟩,[],(1,13))):=stepT_ok (l:=[41]) (p:=(1,12)) (by decide) pr_f9
 rw [tokL,if_neg (by decide),prEx,tok_more s0,tok_more s1,tok_more s2,tok_more s3,tok_more s4,tok_more s5,tok_more s6,tok_more s7,tok_more s8,tok_more s9,tok_end (step_none _)]
 rfl
theorem pr_x:exprX prExT=.ok prExL:=by kernel_rfl
theorem pr_tells:exprL prEx=.ok prExL:=by unfold exprL; rw [pr_tok]; exact pr_x
theorem pr_is:IsE prExL 5 prExE:=⟨_,4,2,rfl,rfl,rfl,rfl,⟨_,1,0,rfl,rfl,rfl,rfl,⟨_,rfl,rfl⟩,⟨_,rfl,rfl⟩⟩,⟨_,3,rfl,rfl,rfl,⟨_,rfl,rfl⟩⟩⟩
theorem pr_right (n:Int):rightB (vInt n).k (vInt n).i (vInt n).s (vInt n).b=true:=by
 show rightB 1 n ⟨#[]⟩ false=true
 unfold rightB
 rw [if_pos rfl,none_list]; rfl
theorem pr_vok (n:Int) (h:-9223372036854775808 ≤ n ∧ n ≤ 9223372036854775807):vOk (vInt n):=⟨pr_right n,h⟩
theorem pr_ok:prExE.ok:=⟨by decide,by decide,⟨by decide,by decide,show nameB ⟨#[97]⟩=true by decide +kernel,pr_vok 2 (by decide)⟩,.inr rfl,pr_vok 3 (by decide)⟩
theorem pr_tx:prExE.tx=[40,97,32,43,32,50,41,32,42,32,45,40,51,41]:=by
 have h2:valTx (vInt 2)=[50]:=by
  show (if _ then (if _ then Lib.itoa 2 else _) else _)=_
  rw [if_pos (pr_right _),if_pos (by rfl)]
  unfold Lib.itoa
  rw [if_neg (by decide),show (2:Int).toNat=2 from rfl,Lib.decDigits_one (by decide)]; rfl
 have h3:valTx (vInt 3)=[51]:=by
  show (if _ then (if _ then Lib.itoa 3 else _) else _)=_
  rw [if_pos (pr_right _),if_pos (by rfl)]
  unfold Lib.itoa
  rw [if_neg (by decide),show (3:Int).toNat=3 from rfl,Lib.decDigits_one (by decide)]; rfl
 show brkL true ([97] ++ 32 :: ([43] ++ 32 :: valTx (vInt 2))) ++ 32 :: ([42] ++ 32 :: (45 :: brkL true (valTx (vInt 3))))=_
 rw [h2,h3]; rfl
set_option maxHeartbeats 4000000 in
set_option maxRecDepth 100000 in
theorem prAwake_calls (w:World) (hT:LexT w) (het:ErrT w) (hL:Laid w) (hK:Toks w) :
  Calls Tryz.prog 8 #[] w fun e w'=>e=.returned (.bool true) ∧ Below w.heap.size w w':=by
 obtain ⟨a,hv⟩:=hL.1.2
 have H1:Hid (Calls Tryz.prog 20 #[.string ⟨#[40,97,43,50,41,32,42,32,45,40,51,41]⟩] w fun e w'=>∃ v,e=.returned (.tuple #[v,failV 0 0 0]) ∧ NsAt w.heap.size w' v prExL ∧ Below w.heap.size w w'):=Lib.hid ((exprF_calls ⟨#[40,97,43,50,41,32,42,32,45,40,51,41]⟩ a w (by decide) hT het hv).mono (by
  intro e w' h
  rw [show (⟨#[40,97,43,50,41,32,42,32,45,40,51,41]⟩:ByteArray).data.toList=prEx from rfl,pr_tells] at h
  obtain ⟨⟨v,he,ht⟩,hb⟩:=h
  exact ⟨v,he,ht,hb⟩))
 have HE:=Lib.hid (fun (g cap:Nat) (w1:World) (hg:GIn rEx 58 True 10 w1 (some ⟨g,0,none⟩) 6 prExL) (hb:Below w.heap.size w w1)=>printExpr_calls (some ⟨g,0,none⟩) 6 cap prExL 5 prExE w1 hg (Wds.below hT.wds hb) (by decide) (hK.below hb) (hL.below hb) pr_is pr_ok (by decide) (by rw [pr_tx]; decide))
 rw [pr_tx] at HE
 have HLv:Hid (∀ w,Calls Tryz.prog 22 #[.int .i64 8] w fun e w'=>e=.returned (.int .i64 5) ∧ w=w'):=Lib.hid (fun w=>level_calls 8 w)
 have q1:∀ w1,(Op.equalIn 10000 46 (.agg #[.int .i64 0,.int .i64 0,.int .i64 0]) (.agg #[.int .i64 0,.int .i64 0,.int .i64 0])).run Tryz.prog w1=.ok true w1:=fun w1=>failEq 0 0 0 0 0 0 w1
 have q2:=failGuard
 have n1:(⟨#[40,97,32,43,32,50,41,32,42,32,45,40,51,41]⟩:ByteArray).toList=[40,97,32,43,32,50,41,32,42,32,45,40,51,41]:=by rw [cs_tl]
 clear hT het hv hL hK
 go_enter Tryz.func8,Tryz.ntmps8
 go_wp2_with fail
 refine H1.out.mono ?_
 rintro e w1 ⟨v,rfl,hR,k1⟩
 have hA:=(Below.refl w1.heap.size w1).alloc (Nat.le_refl _) (.cells #[.int .i64 0,.int .i64 0,.int .i64 0] 46)
 have hR2:=hR.below hA
 obtain ⟨g,c,rfl,_,hc,hcell⟩:=hR2.block (by simp [prExL])
 have hgin:GIn rEx 58 True 10 (w1.alloc (.cells #[.int .i64 0,.int .i64 0,.int .i64 0] 46)) (some ⟨g,0,none⟩) 6 prExL:=by
  obtain ⟨a',cap',e,hg⟩:=ns_gin hR2 (by
   intro x hx
   simp only [prExL,List.mem_cons,List.not_mem_nil,or_false] at hx
   rcases hx with rfl | rfl | rfl | rfl | rfl | rfl <;> exact ⟨by unfold okS; decide,by unfold okS; decide,by decide,by decide⟩)
  cases e
  exact hg
 have HB:=Lib.hid (k1.trans (hA.mono k1.size))
 have HX:=Lib.hid (HE.out g c _ hgin HB.out)
 have hlen:prExL.length=6:=rfl
 rw [hlen]
 clear hR hR2 hA k1 hcell hc hlen hgin HE
 unfold failV
 go_wp2_with fail
 refine HX.out.mono ?_
 rintro e w2 ⟨rfl,k1⟩
 have HB2:=Lib.hid (HB.out.trans (k1.mono HB.out.size))
 clear k1
 go_wp2_with fail
 refine (HLv.out _).mono ?_
 rintro e w3 ⟨rfl,rfl⟩
 go_wp2_with fail
 go_ret
 exact ⟨by rfl,HB2.out⟩
end Go.Proofs.YtiafhfchjhffhaaGreatDoor
