/- paclaim: PrRefSm -/
import Derived.Test.YtiafhfchjhffhaaGreatDoorLowPr2
namespace Go.Proofs.YtiafhfchjhffhaaGreatDoor
open Go.RowKit
set_option linter.unusedVariables false
set_option maxHeartbeats 4000000 in
theorem refLevel_calls (x:Ex) (w:World) (hop:x.op=1 ∨ (4 ≤ x.op ∧ x.op ≤ 17)):Calls Tryz.prog 82 #[.agg (exA x)] w fun e w'=>e=.returned (.int .i64 (lvO x.op:Nat)) ∧ Below w.heap.size w w':=by
 have HB:=Lib.hid ((Below.refl w.heap.size w).alloc (Nat.le_refl _) (.cells (exA x) 58))
 obtain ⟨op,a,b,n,v,l,c⟩:=x
 simp only at hop HB ⊢
 have h2:op=1 ∨ op=4 ∨ op=5 ∨ op=6 ∨ op=7 ∨ op=8 ∨ op=9 ∨ op=10 ∨ op=11 ∨ op=12 ∨ op=13 ∨ op=14 ∨ op=15 ∨ op=16 ∨ op=17:=by omega
 clear hop
 rcases h2 with rfl | rfl | rfl | rfl | rfl | rfl | rfl | rfl | rfl | rfl | rfl | rfl | rfl | rfl | rfl
 all_goals
  go_enter Tryz.func82,Tryz.ntmps82
  go_wp2_with fail
  go_ret
  exact ⟨rfl,HB.out⟩
set_option maxHeartbeats 4000000 in
theorem refSignT_calls (op:Nat) (w:World) (h1:6 ≤ op) (h2:op ≤ 16):Calls Tryz.prog 83 #[.int .i64 op] w fun e w'=>e=.returned (.string (tokA op)) ∧ Below w.heap.size w w':=by
 have HB:=Lib.hid ((Below.refl w.heap.size w).alloc (Nat.le_refl _) (.cells #[.string ⟨#[97,110,100]⟩,.string ⟨#[111,114]⟩,.string ⟨#[43]⟩,.string ⟨#[45]⟩,.string ⟨#[42]⟩,.string ⟨#[47]⟩,.string ⟨#[37]⟩,.string ⟨#[61,61]⟩,.string ⟨#[33,61]⟩,.string ⟨#[60]⟩,.string ⟨#[60,61]⟩] 9))
 have hc:op=6 ∨ op=7 ∨ op=8 ∨ op=9 ∨ op=10 ∨ op=11 ∨ op=12 ∨ op=13 ∨ op=14 ∨ op=15 ∨ op=16:=by omega
 clear h1 h2
 rcases hc with rfl | rfl | rfl | rfl | rfl | rfl | rfl | rfl | rfl | rfl | rfl
 all_goals
  go_enter Tryz.func83,Tryz.ntmps83
  go_wp2_with fail
  go_ret
  exact ⟨rfl,HB.out⟩
def RxC (w0:World) (a:Option Addr) (len cap n:Nat) (t:List UInt8):Prop :=
 ∀ (w:World),Below w0.heap.size w0 w → Calls Tryz.prog 21 #[.slice a len cap,.int .i64 n] w fun e w'=>e=.returned (.string ⟨t.toArray⟩) ∧ Below w.heap.size w w'
def RwC (w0:World) (a:Option Addr) (len cap n k:Nat) (t:List UInt8):Prop :=
 ∀ (w:World),Below w0.heap.size w0 w → Calls Tryz.prog 81 #[.slice a len cap,.int .i64 n,.int .i64 k] w fun e w'=>e=.returned (.string ⟨t.toArray⟩) ∧ Below w.heap.size w w'
theorem cat_at (x y z:List UInt8) (h:z=x ++ y) (hz:z.length ≤ 1000000000000):∀ w,(Op.stringOp .add ⟨x.toArray⟩ ⟨y.toArray⟩).run Tryz.prog w=.ok (.string ⟨z.toArray⟩) w:=fun w=>by
 have e:(⟨z.toArray⟩:ByteArray)=⟨x.toArray⟩ ++ ⟨y.toArray⟩:=by
  apply ByteArray.ext
  rw [h,ByteArray.data_append]; simp
 rw [e]
 refine run_string_add_sum w _ _ ?_
 rw [pr_size,pr_size]
 show x.length + y.length ≤ _
 rw [h,List.length_append] at hz
 omega
set_option maxHeartbeats 2000000 in
theorem refWithin_calls {T:TypeId} {O:Prop} (w0:World) (a:Option Addr) (len cap n k:Nat) (L:List Ex) (x:Ex) (t:List UInt8) (h0:GIn rEx T O 10 w0 a len L) (hx:L[n]? = some x) (hop:x.op=1 ∨ (4 ≤ x.op ∧ x.op ≤ 17)) (hk:k ≤ 9) (ht:t.length ≤ 100000000000) (hE:RxC w0 a len cap n t) :
  RwC w0 a len cap n k (brkL (decide (lvO x.op < k)) t):=by
 intro w hb
 have HG:=Lib.hid (fun w2 (h2:Below w0.heap.size w0 w2)=>ex_gin h0 hx h2)
 have HE:=Lib.hid (hE w hb)
 have HL:=Lib.hid (fun w=>refLevel_calls x w hop)
 have HB:=Lib.hid hb
 have q1:=cat_at [40] t (40 :: t) rfl (by rw [List.length_cons]; omega)
 have q2:=cat_at (40 :: t) [41] (40 :: (t ++ [41])) rfl (by simp; omega)
 obtain ⟨s,hs⟩:∃ s:ByteArray,s=⟨t.toArray⟩:=⟨_,rfl⟩
 obtain ⟨s1,hs1⟩:∃ s:ByteArray,s=⟨(40 :: t).toArray⟩:=⟨_,rfl⟩
 obtain ⟨s2,hs2⟩:∃ s:ByteArray,s=⟨(40 :: (t ++ [41])).toArray⟩:=⟨_,rfl⟩
 rw [← hs] at HE
 rw [← hs,← hs1] at q1
 rw [← hs1,← hs2] at q2
 have q1:∀ w,(Op.stringOp .add ⟨#[40]⟩ s).run Tryz.prog w=.ok (.string s1) w:=q1
 have q2:∀ w,(Op.stringOp .add s1 ⟨#[41]⟩).run Tryz.prog w=.ok (.string s2) w:=q2
 have HV:Hid ((⟨(brkL (decide (lvO x.op < k)) t).toArray⟩:ByteArray)=if lvO x.op < k then s2 else s):=Lib.hid (by rw [hs,hs2]; unfold brkL; by_cases h:lvO x.op < k <;> simp [h])
 rw [HV.out]
 clear hE hs hs1 hs2 h0 hx hop hb ht HV
 generalize lvO x.op=lv at HL ⊢
 have hd:decide ((lv:Int) < (k:Int))=decide (lv < k):=by rw [decide_eq_decide]; omega
 by_cases hlt:lv < k
 all_goals
  first | rw [if_pos hlt] | rw [if_neg hlt]
  first | have hd2:decide (lv < k)=true:=decide_eq_true hlt | have hd2:decide (lv < k)=false:=decide_eq_false hlt
  rw [hd2] at hd
  clear hlt
  go_enter Tryz.func81,Tryz.ntmps81
  go_wp2_with fail
  refine HE.out.mono ?_
  rintro e w1 ⟨rfl,k1⟩
  have HB1:=Lib.hid (HB.out.trans (k1.mono HB.out.size))
  have HW1:=Lib.hid k1
  clear k1
  obtain ⟨g,off,rfl,hg,hnl,hsm,hok,c0,c1,c2,c3,c4,c5,c6,c7,c8,c9⟩:=HG.out w1 HB1.out
  clear hok
  go_wp2_with fail
  refine (HL.out _).mono ?_
  rintro e w2 ⟨rfl,k1⟩
  have HW2:=Lib.hid (HW1.out.trans (k1.mono HW1.out.size))
  clear k1
  go_wp2_with fail
  go_ret
  exact ⟨rfl,HW2.out⟩
end Go.Proofs.YtiafhfchjhffhaaGreatDoor
