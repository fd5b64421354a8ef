/- paclaim: ParAwake -/
import Derived.Test.YtmknmmbfaljkbaaGreatDoorParTop
import Derived.Test.YtmknmmbfaljkbaaGreatDoorLowCsv
namespace Go.Proofs.YtmknmmbfaljkbaaGreatDoor
open Go.RowKit
set_option linter.unusedVariables false
def paEx:List UInt8:=[97,32,43,32,50,32,62,32,45,98]
def paExT:List Tk:=[⟨1,[97],1,1⟩,⟨5,[43],1,3⟩,⟨3,[50],1,5⟩,⟨5,[62],1,7⟩,⟨5,[45],1,9⟩,⟨1,[98],1,10⟩]
def paExL:List Ex:=[⟨17,0,0,⟨#[98]⟩,v0,1,10⟩,⟨5,0,0,⟨#[]⟩,v0,1,9⟩,⟨17,0,0,⟨#[97]⟩,v0,1,1⟩,⟨1,0,0,⟨#[]⟩,vInt 2,1,5⟩,⟨8,2,3,⟨#[]⟩,v0,1,3⟩,⟨15,1,4,⟨#[]⟩,v0,1,7⟩]
theorem pa_wa:wordT [97]=.ok (1,[97],1):=by
 unfold wordT
 rw [if_neg (by decide),if_neg (by decide),if_pos (by decide +kernel)]; rfl
theorem pa_wb:wordT [98]=.ok (1,[98],1):=by
 unfold wordT
 rw [if_neg (by decide),if_neg (by decide),if_pos (by decide +kernel)]; rfl
theorem pa_w2:wordT [50]=.ok (3,[50],1):=by
 unfold wordT
 rw [if_pos (by decide),if_neg (by decide),if_neg (by decide),if_neg (by decide)]; rfl
theorem pa_f1:firstT [97,32,43,32,50,32,62,32,45,98]=.ok (1,[97],1):=by
 rw [firstT,if_neg (by decide),if_neg (by decide)]; exact pa_wa
theorem pa_f2:firstT [43,32,50,32,62,32,45,98]=.ok (5,[43],1):=by
 rw [firstT,if_neg (by decide),if_pos (by decide),if_neg (by decide)]; rfl
theorem pa_f3:firstT [50,32,62,32,45,98]=.ok (3,[50],1):=by
 rw [firstT,if_neg (by decide),if_neg (by decide)]; exact pa_w2
theorem pa_f4:firstT [62,32,45,98]=.ok (5,[62],1):=by
 rw [firstT,if_neg (by decide),if_pos (by decide),if_neg (by decide)]; rfl
theorem pa_f5:firstT [45,98]=.ok (5,[45],1):=by
 rw [firstT,if_neg (by decide),if_pos (by decide),if_neg (by decide)]; rfl
theorem pa_f6:firstT [98]=.ok (1,[98],1):=by
 rw [firstT,if_neg (by decide),if_neg (by decide)]; exact pa_wb
theorem pa_tok:tokL paEx=.ok paExT:=by
 have s1:stepT [97,32,43,32,50,32,62,32,45,98] (1,1)=.ok (some (⟨1,[97],1,1⟩,[32,43,32,50,32,62,32,45,98],(1,2))):=stepT_ok (l:=[97,32,43,32,50,32,62,32,45,98]) (p:=(1,1)) (by decide) pa_f1
 have s2:stepT [32,43,32,50,32,62,32,45,98] (1,2)=.ok (some (⟨5,[43],1,3⟩,[32,50,32,62,32,45,98],(1,4))):=stepT_ok (l:=[32,43,32,50,32,62,32,45,98]) (p:=(1,2)) (by decide) pa_f2
 have s3:stepT [32,50,32,62,32,45,98] (1,4)=.ok (some (⟨3,[50],1,5⟩,[32,62,32,45,98],(1,6))):=stepT_ok (l:=[32,50,32,62,32,45,98]) (p:=(1,4)) (by decide) pa_f3
 have s4:stepT [32,62,32,45,98] (1,6)=.ok (some (⟨5,[62],1,7⟩,[32,45,98],(1,8))):=stepT_ok (l:=[32,62,32,45,98]) (p:=(1,6)) (by decide) pa_f4
 have s5:stepT [32,45,98] (1,8)=.ok (some (⟨5,[45],1,9⟩,[98],(1,10))):=stepT_ok (l:=[32,45,98]) (p:=(1,8)) (by decide) pa_f5
 have s6:stepT [98] (1,10)=.ok (some (⟨1,[98],1,10⟩,[],(1,11))):=stepT_ok (l:=[98]) (p:=(1,10)) (by decide) pa_f6
 rw [tokL,if_neg (by decide),paEx,tok_more s1,tok_more s2,tok_more s3,tok_more s4,tok_more s5,tok_more s6,tok_end (step_none _)]
 rfl
theorem pa_x:exprX paExT=.ok paExL:=by kernel_rfl
theorem pa_tells:exprL paEx=.ok paExL:=by unfold exprL; rw [pa_tok]; exact pa_x
set_option maxHeartbeats 4000000 in
set_option maxRecDepth 100000 in
theorem paAwake_calls (a:Addr) (w:World) (hT:LexT w) (het:ErrT w) (hv:ErrR w a) :
  Calls Tryz.prog 5 #[] w fun e w'=>e=.returned (.bool true) ∧ Below w.heap.size w w':=by
 have H1:Hid (Calls Tryz.prog 6 #[.string ⟨#[97,32,43,32,50,32,62,32,45,98]⟩] w fun e w'=>∃ v,e=.returned (.tuple #[v,failV 0 0 0]) ∧ NsAt w.heap.size w' v paExL ∧ Below w.heap.size w w'):=Lib.hid ((exprF_calls ⟨#[97,32,43,32,50,32,62,32,45,98]⟩ a w (by decide) hT het hv).mono (by
  intro e w' h
  rw [show (⟨#[97,32,43,32,50,32,62,32,45,98]⟩:ByteArray).data.toList=paEx from rfl,pa_tells] at h
  obtain ⟨⟨v,he,ht⟩,hb⟩:=h
  exact ⟨v,he,ht,hb⟩))
 have q1:∀ w1,(Op.equalIn 10000 26 (.agg #[.int .i64 0,.int .i64 0,.int .i64 0]) (.agg #[.int .i64 0,.int .i64 0,.int .i64 0])).run Tryz.prog w1=.ok true w1:=fun w1=>failEq 0 0 0 0 0 0 w1
 have q2:=failGuard
 have n1:(⟨#[98]⟩:ByteArray).toList=[98]:=by rw [cs_tl]
 clear hT het hv
 go_enter Tryz.func5,Tryz.ntmps5
 go_wp2_with fail
 refine H1.out.mono ?_
 rintro e w1 ⟨v,rfl,hR,k1⟩
 have hA:=(Below.refl w1.heap.size w1).alloc (Nat.le_refl _) (.cells #[.int .i64 0,.int .i64 0,.int .i64 0] 26)
 have hR2:=hR.below hA
 obtain ⟨g,c,rfl,_,hc,hcell⟩:=hR2.block (by simp [paExL])
 have hg:=hc.lt
 have z0:(w1.alloc (.cells #[.int .i64 0,.int .i64 0,.int .i64 0] 26)).cell? ⟨g,3,none⟩=some (.string ⟨#[98]⟩):=hcell 3 _ rfl
 have z1:(w1.alloc (.cells #[.int .i64 0,.int .i64 0,.int .i64 0] 26)).cell? ⟨g,10,none⟩=some (.int .i64 5):=hcell 10 _ rfl
 have z2:(w1.alloc (.cells #[.int .i64 0,.int .i64 0,.int .i64 0] 26)).cell? ⟨g,40,none⟩=some (.int .i64 8):=hcell 40 _ rfl
 have z3:(w1.alloc (.cells #[.int .i64 0,.int .i64 0,.int .i64 0] 26)).cell? ⟨g,50,none⟩=some (.int .i64 15):=hcell 50 _ rfl
 have z4:(w1.alloc (.cells #[.int .i64 0,.int .i64 0,.int .i64 0] 26)).cell? ⟨g,50 + 1,none⟩=some (.int .i64 1):=hcell 51 _ rfl
 have z5:(w1.alloc (.cells #[.int .i64 0,.int .i64 0,.int .i64 0] 26)).cell? ⟨g,50 + 2,none⟩=some (.int .i64 4):=hcell 52 _ rfl
 have hlen:paExL.length=6:=rfl
 rw [hlen]
 have HB:=Lib.hid (k1.trans (hA.mono k1.size))
 clear hR hR2 hA k1 hcell hc hlen
 unfold failV
 go_wp2_with fail
 go_ret
 exact ⟨by rfl,HB.out⟩
end Go.Proofs.YtmknmmbfaljkbaaGreatDoor
