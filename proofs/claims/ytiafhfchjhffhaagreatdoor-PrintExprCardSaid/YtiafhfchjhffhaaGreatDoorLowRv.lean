/- paclaim: NumRefText QuoteRefQ ValRefText -/
import Derived.Test.YtiafhfchjhffhaaGreatDoorLowMath
import Derived.Test.YtiafhfchjhffhaaGreatDoorBase
import Derived.RegionTactic
import Derived.Deep.QuietTactic
import Derived.BigQuiet
import Derived.IntWalk
import Derived.Lib.ItoaLen
import Derived.Test.YtiafhfchjhffhaaGreatDoorLowR9
import Derived.Test.YtiafhfchjhffhaaGreatDoorLowVal2
namespace Go.Proofs.YtiafhfchjhffhaaGreatDoor
open Go.RowKit
theorem itoa_small (k:Nat) (h:k < 10):Lib.itoa (k:Int)=[UInt8.ofNat (48 + k)]:=by
 rw [Lib.itoa_nonneg,Lib.decDigits_one h]
theorem itoa_big (u:Nat) (h:¬ u < 10):Lib.itoa (u:Int)=Lib.itoa ((u / 10:Nat):Int) ++ [UInt8.ofNat (48 + u % 10)]:=by
 rw [Lib.itoa_nonneg,Lib.itoa_nonneg,dec_big h]
theorem itoa_negSmall (k:Nat) (h1:1 ≤ k) (h:k < 10):Lib.itoa (-(k:Int))=[45,UInt8.ofNat (48 + k)]:=by
 rw [Lib.itoa_neg k h1,Lib.decDigits_one h]
theorem itoa_negBig (u:Nat) (h:¬ u < 10):Lib.itoa (-(u:Int))=Lib.itoa (-((u / 10:Nat):Int)) ++ [UInt8.ofNat (48 + u % 10)]:=by
 rw [Lib.itoa_neg u (by omega),Lib.itoa_neg (u / 10) (by omega),dec_big h]; rfl
theorem digit_at (k:Nat) (h:k < 10):(⟨#[48,49,50,51,52,53,54,55,56,57]⟩:ByteArray).extract k (k + 1)=⟨#[UInt8.ofNat (48 + k)]⟩:=by
 rcases (show k=0 ∨ k=1 ∨ k=2 ∨ k=3 ∨ k=4 ∨ k=5 ∨ k=6 ∨ k=7 ∨ k=8 ∨ k=9 by omega) with h | h | h | h | h | h | h | h | h | h <;> subst h <;> decide +kernel
set_option maxHeartbeats 400000 in
theorem refTextSmall (k:Nat) (h:k < 10) (w:World) :
  Calls Tryz.prog 109 #[.int .i64 k] w fun e w'=>e=.returned (.string ⟨(Lib.itoa k).toArray⟩) ∧ ∃ n,w'=w.drewN n:=by
 rw [itoa_small k h]
 have HD:=Lib.hid (digit_at k h)
 have t1:decide ((0:Int) ≤ (k:Int))=true:=by simp
 have t2:decide ((k:Int) < 10)=true:=by simp; omega
 go_enter Tryz.func109,Tryz.ntmps109
 go_wp2_with fail
 go_ret
 exact ⟨by rw [HD.out]; rfl,0,rfl⟩
theorem slice_digit (k:Nat) (h:k < 10) (w:World) :
  (Instr.slice 9 (.string ⟨#[48,49,50,51,52,53,54,55,56,57]⟩) (some (.int .i64 (k:Int))) (some (.int .i64 ((k:Int) + 1))) none).run Tryz.prog w=.ok (.string ⟨#[UInt8.ofNat (48 + k)]⟩) w:=by
 rw [run_slice_string w 9 _ .i64 .i64 (k:Int) ((k:Int) + 1) Tryz.underlying9 (by omega) (by omega) (by show (k:Int) + 1 ≤ 10; omega)]
 rw [show ((k:Int) + 1).toNat=k + 1 by omega,Int.toNat_natCast,digit_at k h]
set_option maxHeartbeats 400000 in
theorem refTextNeg (k:Nat) (h1:1 ≤ k) (h:k < 10) (w:World) :
  Calls Tryz.prog 109 #[.int .i64 (-(k:Int))] w fun e w'=>e=.returned (.string ⟨(Lib.itoa (-(k:Int))).toArray⟩) ∧ ∃ n,w'=w.drewN n:=by
 rw [itoa_negSmall k h1 h]
 have HD:=Lib.hid (digit_at k h)
 have t1:decide ((0:Int) ≤ -(k:Int))=false:=by simp; omega
 have t2:decide ((10:Int) ≤ -(k:Int))=false:=by simp; omega
 have t3:decide ((-10:Int) < -(k:Int))=true:=by simp; omega
 go_enter Tryz.func109,Tryz.ntmps109
 go_wp2_with fail
 go_ret
 refine ⟨ret_str ?_,0,rfl⟩
 rw [HD.out]
 rfl
theorem append_snoc (l:List UInt8) (c:UInt8):(⟨l.toArray⟩:ByteArray) ++ ⟨#[c]⟩=⟨(l ++ [c]).toArray⟩:=by
 exact ByteArray.mk_append_mk l [c]
set_option maxHeartbeats 400000 in
theorem refTextBig (x:Int) (l:List UInt8) (q:Int) (r:Nat) (w:World) (hl:l.length ≤ 21) (hr10:r < 10) (hx:10 ≤ x) (hx2:x ≤ 9223372036854775807)
  (eq:x.tdiv 10=q) (er:x.tmod 10=(r:Int))
  (ih:∀ w,Calls Tryz.prog 109 #[.int .i64 q] w fun e w'=>e=.returned (.string ⟨l.toArray⟩) ∧ ∃ n,w'=w.drewN n) :
  Calls Tryz.prog 109 #[.int .i64 x] w fun e w'=>e=.returned (.string ⟨(l ++ [UInt8.ofNat (48 + r)]).toArray⟩) ∧ ∃ n,w'=w.drewN n:=by
 have HA:=Lib.hid (append_snoc l (UInt8.ofNat (48 + r)))
 have hsl:=slice_digit r hr10
 obtain ⟨a,ha⟩:∃ a:ByteArray,a=⟨l.toArray⟩:=⟨_,rfl⟩
 obtain ⟨b,hb⟩:∃ b:ByteArray,b=⟨#[UInt8.ofNat (48 + r)]⟩:=⟨_,rfl⟩
 have hsz:a.size + b.size ≤ 9223372036854775807:=by rw [ha,hb]; show l.toArray.size + 1 ≤ _; rw [List.size_toArray]; omega
 rw [← ha] at ih HA
 rw [← hb] at hsl HA
 have HI:=Lib.hid ih
 have t1:decide ((0:Int) ≤ x)=true:=by simp; omega
 have t2:decide (x < (10:Int))=false:=by simp; omega
 have t3:decide ((10:Int) ≤ x)=true:=by simp; omega
 have hq1:-9223372036854775808 ≤ q ∧ q ≤ 9223372036854775807:=by
  rw [← eq,Int.tdiv_eq_ediv_of_nonneg (by omega)]; omega
 have e1:IntKind.i64.wrap (x.tdiv 10)=q:=by rw [eq]; exact IntWalk.i64_in _ hq1
 have e3:IntKind.i64.wrap ((r:Int) + 1)=(r:Int) + 1:=IntWalk.i64_in _ (by omega)
 have hcat:∀ w,(Op.stringOp .add a b).run Tryz.prog w=.ok (.string (a ++ b)) w:=fun w=>run_string_add_sum w a b hsz
 clear ha hb ih hq1 eq hx hx2 hl hr10 hsz
 go_enter Tryz.func109,Tryz.ntmps109
 go_wp2_with fail
 go_quiet ((go_at_call 109; exact Calls.quiet_of (HI.out _)))
 go_wp2_with fail
 go_ret
 exact ⟨ret_str HA.out,_,rfl⟩
set_option maxHeartbeats 400000 in
theorem refTextNegBig (x:Int) (l:List UInt8) (q:Int) (r:Nat) (w:World) (hl:l.length ≤ 21) (hr10:r < 10) (hx:x ≤ -10) (hx2:-9223372036854775808 ≤ x)
  (eq:x.tdiv 10=q) (hq1:-9223372036854775808 ≤ q ∧ q ≤ 9223372036854775807) (er:x.tmod 10=-(r:Int))
  (ih:∀ w,Calls Tryz.prog 109 #[.int .i64 q] w fun e w'=>e=.returned (.string ⟨l.toArray⟩) ∧ ∃ n,w'=w.drewN n) :
  Calls Tryz.prog 109 #[.int .i64 x] w fun e w'=>e=.returned (.string ⟨(l ++ [UInt8.ofNat (48 + r)]).toArray⟩) ∧ ∃ n,w'=w.drewN n:=by
 have HA:=Lib.hid (append_snoc l (UInt8.ofNat (48 + r)))
 have hsl:=slice_digit r hr10
 obtain ⟨a,ha⟩:∃ a:ByteArray,a=⟨l.toArray⟩:=⟨_,rfl⟩
 obtain ⟨b,hb⟩:∃ b:ByteArray,b=⟨#[UInt8.ofNat (48 + r)]⟩:=⟨_,rfl⟩
 have hsz:a.size + b.size ≤ 9223372036854775807:=by rw [ha,hb]; show l.toArray.size + 1 ≤ _; rw [List.size_toArray]; omega
 rw [← ha] at ih HA
 rw [← hb] at hsl HA
 have HI:=Lib.hid ih
 have t1:decide ((0:Int) ≤ x)=false:=by simp; omega
 have t3:decide ((10:Int) ≤ x)=false:=by simp; omega
 have t4:decide ((-10:Int) < x)=false:=by simp; omega
 have e1:IntKind.i64.wrap (x.tdiv 10)=q:=by rw [eq]; exact IntWalk.i64_in _ hq1
 have e3:IntKind.i64.wrap ((r:Int) + 1)=(r:Int) + 1:=IntWalk.i64_in _ (by omega)
 have hcat:∀ w,(Op.stringOp .add a b).run Tryz.prog w=.ok (.string (a ++ b)) w:=fun w=>run_string_add_sum w a b hsz
 clear ha hb ih hq1 eq hl hsz hx hx2
 go_enter Tryz.func109,Tryz.ntmps109
 go_wp2_with fail
 go_quiet ((go_at_call 109; exact Calls.quiet_of (HI.out _)))
 go_wp2_with fail
 go_ret
 exact ⟨ret_str HA.out,_,rfl⟩
theorem refText_calls (k:Nat):∀ (x:Int) (w:World),x.natAbs ≤ k → -9223372036854775808 ≤ x → x ≤ 9223372036854775807 →
  Calls Tryz.prog 109 #[.int .i64 x] w fun e w'=>e=.returned (.string ⟨(Lib.itoa x).toArray⟩) ∧ ∃ n,w'=w.drewN n:=by
 induction k with
 | zero =>
  intro x w hk h1 h2
  obtain rfl:x=((0:Nat):Int):=by omega
  exact refTextSmall 0 (by omega) w
 | succ k ih =>
  intro x w hk h1 h2
  by_cases hs:0 ≤ x
  ·obtain ⟨u,rfl⟩:=Int.eq_ofNat_of_zero_le hs
   by_cases h10:u < 10
   ·exact refTextSmall u h10 w
   ·rw [itoa_big u h10]
    exact refTextBig (u:Int) _ ((u / 10:Nat):Int) (u % 10) w (Lib.itoa_length_le _ (by omega) (by omega)) (by omega) (by omega) h2
     (by rw [Int.tdiv_eq_ediv_of_nonneg (by omega)]; omega) (by rw [Int.tmod_eq_emod_of_nonneg (by omega)]; omega)
     (fun w=>ih _ w (by omega) (by omega) (by omega))
  ·obtain ⟨u,hu⟩:=Int.eq_ofNat_of_zero_le (show 0 ≤ -x by omega)
   obtain rfl:x=-(u:Int):=by omega
   by_cases h10:u < 10
   ·exact refTextNeg u (by omega) h10 w
   ·rw [itoa_negBig u h10]
    exact refTextNegBig (-(u:Int)) _ (-((u / 10:Nat):Int)) (u % 10) w (Lib.itoa_length_le _ (by omega) (by omega)) (by omega) (by omega) h1
     (by rw [Int.neg_tdiv,Int.tdiv_eq_ediv_of_nonneg (by omega)]; omega) ⟨by omega,by omega⟩ (by rw [Int.neg_tmod,Int.tmod_eq_emod_of_nonneg (by omega)]; omega)
     (fun w=>ih _ w (by omega) (by omega) (by omega))
set_option maxHeartbeats 1000000 in
theorem refQuote_calls (s:ByteArray) (w:World) (hs:s.size ≤ 4294967296) :
  Calls Tryz.prog 110 #[.string s] w fun e w'=>e=.returned (.string ⟨(quoteL s.data.toList).toArray⟩) ∧ Below w.heap.size w w':=by
 obtain ⟨l,hl⟩:∃ l,l=s.data.toList:=⟨_,rfl⟩
 have hlen:s.size=l.length:=by rw [hl,ba_size]
 rw [← hl]
 have HL:=Lib.hid hl
 have HN:=Lib.hid hlen
 clear hl hlen
 go_enter Tryz.func110,Tryz.ntmps110
 go_wp2_with fail
 go_loopw [3,4] (fun o i wr=>∃ (k:Nat) (a:ByteArray),k ≤ s.size ∧ i=.int .i64 k ∧ o=.string a ∧ Hid (a.data.toList=34 :: body (l.take k)) ∧ Below w.heap.size w wr) (fun _ i _=>s.size - (intOf i).toNat)
 case atStart=>exact ⟨0,⟨#[34]⟩,Nat.zero_le _,rfl,rfl,Lib.hid rfl,Below.refl _ _⟩
 case round =>
  obtain ⟨k,a,hk,rfl,rfl,HA,hb⟩:=hrel
  have hal:a.size ≤ 1 + 4 * k:=by
   rw [ba_size,HA.out,List.length_cons]
   have:=(body_len (l.take k)).2
   have:(l.take k).length ≤ k:=List.length_take_le _ _
   omega
  by_cases hlt:k < s.size
  ·have hkl:k < l.length:=by rw [← HN.out]; exact hlt
   obtain ⟨b,HB,HO⟩:=refOne_named s[k]
   have HC:Hid (l[k]=s[k]):=Lib.hid (by
    have:=HL.out
    subst this
    rfl)
   have hbl:b.size ≤ 4:=by rw [ba_size,HB.out]; exact (one_len _).2
   have hcat:∀ w,(Op.stringOp .add a b).run Tryz.prog w=.ok (.string (a ++ b)) w:=fun w=>run_string_add_sum w a b (by omega)
   go_wp2_with (go_at_call 176; refine (HO.out _).mono ?_; rintro e w1 ⟨rfl,hb1⟩)
   go_roundw
   case rel=>exact ⟨k + 1,a ++ b,by omega,by go_num,rfl,Lib.hid (by rw [cat_list,HA.out,HB.out,body_take l k hkl,HC.out]; rfl),hb.trans (hb1.mono hb.size)⟩
   case measure=>simp [intOf]; omega
  ·have hcat:∀ w,(Op.stringOp .add a ⟨#[34]⟩).run Tryz.prog w=.ok (.string (a ++ ⟨#[34]⟩)) w:=fun w=>run_string_add_sum w a ⟨#[34]⟩ (by have:(⟨#[34]⟩:ByteArray).size=1:=rfl; omega)
   go_wp2_with fail
   go_ret
   refine ⟨ret_str (ba_of ?_),hb⟩
   rw [cat_list,HA.out,List.take_of_length_le (by rw [← HN.out]; omega)]
   rfl
set_option linter.unusedVariables false
set_option maxHeartbeats 1000000 in
theorem refVText_calls (k i:Int) (s:ByteArray) (b:Bool) (w:World) (hi:-9223372036854775808 ≤ i ∧ i ≤ 9223372036854775807) (hr:rightB k i s b=true) :
  Calls Tryz.prog 50 #[.agg #[.int .i64 k,.int .i64 i,.string s,.bool b]] w fun e w'=>e=.returned (.string ⟨(valText k i s b).toArray⟩) ∧ Below w.heap.size w w':=by
 have HA:=Lib.hid ((Below.refl w.heap.size w).alloc (Nat.le_refl _) (.cells #[.int .i64 k,.int .i64 i,.string s,.bool b] 56))
 rcases right_kind hr with rfl | rfl | rfl
 ·rw [valText1 hr]
  have HT:=Lib.hid (fun w1=>refText_calls i.natAbs i w1 (Nat.le_refl _) hi.1 hi.2)
  clear hr
  go_enter Tryz.func50,Tryz.ntmps50
  go_wp2_with fail
  refine (HT.out _).mono ?_
  rintro e w1 ⟨rfl,n,rfl⟩
  go_wp2_with fail
  go_ret
  exact ⟨rfl,HA.out.os,HA.out.tape,HA.out.output,HA.out.size,HA.out.block⟩
 ·rw [valText2 hr]
  have HT:=Lib.hid (fun w1=>refQuote_calls s w1 (by have:=right2_size hr; omega))
  clear hr
  go_enter Tryz.func50,Tryz.ntmps50
  go_wp2_with fail
  refine (HT.out _).mono ?_
  rintro e w1 ⟨rfl,k3⟩
  go_wp2_with fail
  go_ret
  exact ⟨rfl,HA.out.trans (k3.mono HA.out.size)⟩
 ·rw [valText3 hr]
  clear hr
  cases b
  all_goals
   go_enter Tryz.func50,Tryz.ntmps50
   go_wp2_with fail
   go_ret
   exact ⟨rfl,HA.out⟩
end Go.Proofs.YtiafhfchjhffhaaGreatDoor
