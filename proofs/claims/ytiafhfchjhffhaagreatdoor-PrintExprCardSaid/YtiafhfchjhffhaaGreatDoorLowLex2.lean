/- paclaim: LexKind LexSign LexLaid -/
import Derived.Test.YtiafhfchjhffhaaGreatDoorLowLex1
import Derived.Test.YtiafhfchjhffhaaGreatDoorLowSc
import Derived.Laws.Rows
namespace Go.Proofs.YtiafhfchjhffhaaGreatDoor
open Go.RowKit
set_option linter.unusedVariables false
def errV (e:Nat):Value:=if e=0 then .nilIface else .iface 44 (.int .i64 (e:Nat))
theorem errV_zero:errV 0=.nilIface:=rfl
theorem errV_pos {e:Nat} (h:e ≠ 0):errV e=.iface 44 (.int .i64 (e:Nat)):=if_neg h
def numE (x:List UInt8):Nat:=if x.all digitB=false then 4 else if 1 < x.length ∧ x.head? = some 48 then 4 else if 32 < x.length then 3 else 0
theorem tw_all {p:UInt8 → Bool}:∀ (l:List UInt8),decide (twN p l < l.length)=!l.all p
 | []=>rfl
 | c :: l=>by
  have ih:=tw_all (p:=p) l
  cases e:p c
  ·rw [twN,List.takeWhile_cons_of_neg (by rw [e]; decide),List.all_cons,e,List.length_nil,List.length_cons]
   simp
  ·have e2:twN p (c :: l)=twN p l + 1:=by rw [twN,List.takeWhile_cons_of_pos e,List.length_cons]; rfl
   rw [e2,List.all_cons,e,List.length_cons,Bool.true_and,← ih]
   simp
theorem num_e {x:List UInt8} (h0:0 < x.length) {d:Nat} (hd:d=twN digitB x) {b1 b2 b3 b4:Bool} (h1:decide (d < x.length)=b1) (h2:decide (1 < d)=b2) (h3:(x.head? == some 48)=b3) (h4:decide (32 < d)=b4) :
  errV (numE x)=if b1 || (b2 && b3) then .iface 44 (.int .i64 4) else if b4 then .iface 44 (.int .i64 3) else .nilIface:=by
 have ha:=tw_all (p:=digitB) x
 rw [← hd,h1] at ha
 have hl:=tw_le digitB x
 rw [← hd] at hl
 unfold numE
 cases b1
 ·have hal:x.all digitB=true:=by simpa using ha.symm
  have hdl:d=x.length:=by simp at h1; omega
  rw [hal,if_neg (by decide)]
  rw [hdl] at h2 h4
  by_cases hc:1 < x.length ∧ x.head? = some 48
  ·rw [if_pos hc]
   have e2:b2=true:=by rw [← h2]; simpa using hc.1
   have e3:b3=true:=by rw [← h3,hc.2]; rfl
   rw [e2,e3]; rfl
  ·rw [if_neg hc]
   have e23:(b2 && b3)=false:=by
    rw [← h2,← h3]
    simpa [Bool.and_eq_false_iff] using hc
   rw [e23]
   by_cases h:32 < x.length
   ·rw [if_pos h]
    have e4:b4=true:=by rw [← h4]; simpa using h
    rw [e4]; rfl
   ·rw [if_neg h]
    have e4:b4=false:=by rw [← h4]; simpa using h
    rw [e4]; rfl
 ·have hal:x.all digitB=false:=by simpa using ha.symm
  rw [hal,if_pos rfl]; rfl
theorem in_digits:inSet ⟨#[48,49,50,51,52,53,54,55,56,57]⟩=digitB:=by
 funext c
 exact (all8 (P:=fun c=>(inSet ⟨#[48,49,50,51,52,53,54,55,56,57]⟩ c=digitB c)) (by decide +kernel)) c
theorem lx_head (s:ByteArray) (h:0 < s.size):s.data.toList.head? = some s[0]:=by
 have:=cs_cons s 0 h
 rw [List.drop_zero] at this
 rw [this]; rfl
theorem alloc_cell (w:World) (v:Value) (t:TypeId):(w.alloc (.cells #[v] t)).cell? ⟨w.heap.size,0,none⟩=some v:=by
 rw [World.cell?_alloc_at (hn:=rfl)]; rfl
set_option maxHeartbeats 4000000 in
theorem wrong_calls (x:ByteArray) (w:World) (hs:x.size ≤ 4611686018427387903) (h0:0 < x.size) :
  Calls Tryz.prog 269 #[.string x] w fun e w'=>e=.returned (errV (numE x.data.toList)) ∧ Below w.heap.size w w':=by
 have HA:=Lib.hid (fun w1=>among_calls ⟨#[48,49,50,51,52,53,54,55,56,57]⟩ w1)
 have HR:=Lib.hid (fun w1 B (hB:w1.cell? ⟨B,0,none⟩=some (.string ⟨#[48,49,50,51,52,53,54,55,56,57]⟩))=>runIn_calls x ⟨#[48,49,50,51,52,53,54,55,56,57]⟩ B w1 (by omega) hB)
 rw [in_digits] at HR
 have HC:=Lib.hid (alloc_cell w (.string ⟨#[48,49,50,51,52,53,54,55,56,57]⟩) 9)
 have HB:=Lib.hid ((Below.refl w.heap.size w).alloc (Nat.le_refl _) (.cells #[.string ⟨#[48,49,50,51,52,53,54,55,56,57]⟩] 9))
 have hb:=cs_beq x[0] 48 (by omega)
 have hh:=lx_head x h0
 have hlen:=cs_size x
 have h00:0 < x.data.toList.length:=by rw [← hlen]; exact h0
 obtain ⟨d,hd⟩:∃ d,d=twN digitB x.data.toList:=⟨_,rfl⟩
 have HV:=Lib.hid (fun b1 b2 b3 b4=>num_e h00 hd (b1:=b1) (b2:=b2) (b3:=b3) (b4:=b4))
 rw [← hd] at HR
 have hdl:d ≤ x.size:=by rw [hd,hlen]; exact tw_le _ _
 have hne:¬ x=ByteArray.empty:=fun e=>by rw [e] at h0; exact absurd h0 (by decide)
 generalize errV (numE x.data.toList)=V at HV ⊢
 rw [← hlen,hh] at HV
 clear hd h00 hlen hh
 have q2:decide ((1:Int) < (d:Int))=decide (1 < d):=by rw [decide_eq_decide]; omega
 have q4:decide ((32:Int) < (d:Int))=decide (32 < d):=by rw [decide_eq_decide]; omega
 have q3:(some x[0] == some (48:UInt8))=(x[0] == 48):=by
  rw [Bool.eq_iff_iff,beq_iff_eq,beq_iff_eq,Option.some.injEq]
 rw [q3] at HV
 have q5:((x[0].toNat:Int) == 48)=(x[0] == 48):=hb
 clear hb q3
 cases b1:decide (d < x.size) <;> cases b2:decide (1 < d) <;> cases b3:(x[0] == 48) <;> cases b4:decide (32 < d)
 all_goals
  rw [b2] at q2
  rw [b3] at q5
  rw [b4] at q4
  have HV:=Lib.hid (HV.out _ _ _ _ b1 b2 b3 b4)
  clear b2 b3 b4
  go_enter Tryz.func269,Tryz.ntmps269
  go_wp2_with fail
  refine (HA.out _).mono ?_
  rintro e w1 ⟨rfl,hw⟩
  subst hw
  go_wp2_with fail
  refine (HR.out _ _ HC.out).mono ?_
  rintro e w1 ⟨rfl,hw⟩
  subst hw
  go_wp2_with fail
  go_ret
  exact ⟨by rw [HV.out]; rfl,HB.out⟩
theorem words_small:∀ t ∈ wordsL,t.size ≤ 32 ∧ lineB t=false:=by
 unfold wordsL
 intro t ht
 simp only [List.mem_cons,List.not_mem_nil,or_false] at ht
 rcases ht with rfl | rfl | rfl | rfl | rfl | rfl | rfl | rfl | rfl | rfl | rfl | rfl | rfl | rfl | rfl | rfl | rfl | rfl | rfl | rfl | rfl | rfl <;> decide +kernel
theorem word_small {s:ByteArray} (h:wordB s=true):s.size ≤ 32 ∧ lineB s=false:=by
 unfold wordB at h
 obtain ⟨t,ht,e⟩:=List.any_eq_true.1 h
 rw [isT_iff.1 e]
 exact words_small t ht
def kindE (s:ByteArray):Nat × Nat :=
 if (s.data.toList.head?.any digitB)=true then (3,numE s.data.toList) else if wordB s=true then (2,0) else if (lineB s || nameB s)=true then (1,0) else (0,3)
theorem line_list (s:ByteArray):lineB s=(s.data.toList == [95]):=by
 unfold lineB isT; rw [sc_tl,sc_tl]
theorem kind_word {s:ByteArray} (h0:0 < s.size) (hn:s.data.toList.all nameC=true) :
  wordT s.data.toList=if (kindE s).2=0 then .ok ((kindE s).1,s.data.toList,s.data.toList.length) else .error (kindE s).2:=by
 have hmk:(⟨s.data.toList.toArray⟩:ByteArray)=s:=(sc_eq rfl).symm
 have hlen:=sc_size s
 unfold wordT kindE
 rw [hmk]
 by_cases hd:(s.data.toList.head?.any digitB)=true
 ·rw [if_pos hd,if_pos hd]
  unfold numE
  by_cases h1:s.data.toList.all digitB=false
  ·rw [if_pos h1,if_pos h1]; rfl
  ·rw [if_neg h1,if_neg h1]
   by_cases h2:1 < s.data.toList.length ∧ s.data.toList.head? = some 48
   ·rw [if_pos h2,if_pos h2]; rfl
   ·rw [if_neg h2,if_neg h2]
    by_cases h3:32 < s.data.toList.length
    ·rw [if_pos h3,if_pos h3]; rfl
    ·rw [if_neg h3,if_neg h3]; rfl
 ·rw [if_neg hd,if_neg hd]
  have hd0:digitB s[0]=false:=by
   rw [lx_head s h0] at hd
   simpa using hd
  by_cases hw:wordB s=true
  ·have hsm:=word_small hw
   have hnm:nameB s=false:=by unfold nameB; rw [hw]; simp
   rw [if_pos hw,if_neg (by rw [← hlen]; omega),hnm,← line_list,hsm.2]
   rfl
  ·have hw':wordB s=false:=by simpa using hw
   rw [if_neg hw]
   by_cases h32:32 < s.data.toList.length
   ·rw [if_pos h32]
    have hsp:speltB s=false:=spelt_long (by rw [hlen]; exact h32)
    have hli:lineB s=false:=by
     rw [line_list]
     rw [beq_eq_false_iff_ne]
     intro e; rw [e] at h32; exact absurd h32 (by decide)
    have hnm:nameB s=false:=by unfold nameB; rw [hsp]; rfl
    rw [hli,hnm]; rfl
   ·rw [if_neg h32]
    have hsp:speltB s=true:=spelt_good h0 (by rw [hlen]; omega) hd0 (by
     unfold namesTo
     rw [hlen,List.take_length]
     exact List.all_eq_true.1 hn)
    have hnm:nameB s=!lineB s:=by unfold nameB; rw [hsp,hw']; simp
    rw [hnm,← line_list]
    cases lineB s <;> rfl
set_option maxHeartbeats 2000000 in
theorem kind_calls (s:ByteArray) (w:World) (hs:s.size ≤ 4611686018427387903) (h0:0 < s.size) (hw:Wds w) :
  Calls Tryz.prog 251 #[.string s] w fun e w'=>e=.returned (.tuple #[.int .i64 ((kindE s).1:Nat),errV (kindE s).2]) ∧ Below w.heap.size w w':=by
 have HA:=Lib.hid (fun w1=>among_calls ⟨#[48,49,50,51,52,53,54,55,56,57]⟩ w1)
 have HI:=Lib.hid (fun c B w1 (hB:w1.cell? ⟨B,0,none⟩=some (.string ⟨#[48,49,50,51,52,53,54,55,56,57]⟩))=>amongIn_calls c ⟨#[48,49,50,51,52,53,54,55,56,57]⟩ B w1 hB)
 rw [in_digits] at HI
 have HC:=Lib.hid (alloc_cell w (.string ⟨#[48,49,50,51,52,53,54,55,56,57]⟩) 9)
 have hb:=(Below.refl w.heap.size w).alloc (Nat.le_refl _) (.cells #[.string ⟨#[48,49,50,51,52,53,54,55,56,57]⟩] 9)
 have hW:=hw.below hb
 have hsz:(w.alloc (.cells #[.string ⟨#[48,49,50,51,52,53,54,55,56,57]⟩] 9)).heap.size=w.heap.size + 1:=by simp
 have HB:=Lib.hid hb
 have HX:=Lib.hid (wrong_calls s (w.alloc (.cells #[.string ⟨#[48,49,50,51,52,53,54,55,56,57]⟩] 9)) hs h0)
 have HW:=Lib.hid (scWord_calls s (w.alloc (.cells #[.string ⟨#[48,49,50,51,52,53,54,55,56,57]⟩] 9)) hW)
 have HN:=Lib.hid (scName_calls s (w.alloc (.cells #[.string ⟨#[48,49,50,51,52,53,54,55,56,57]⟩] 9)) (by omega) hW)
 have hne:¬ s=ByteArray.empty:=fun e=>by rw [e] at h0; exact absurd h0 (by decide)
 have hl:(s.toList == [95])=lineB s:=by unfold lineB isT; rw [sc_tl ⟨#[95]⟩]
 have hh:=lx_head s h0
 have HV:Hid (kindE s=if digitB s[0]=true then (3,numE s.data.toList) else if wordB s=true then (2,0) else if (lineB s || nameB s)=true then (1,0) else (0,3)):=Lib.hid (by
  unfold kindE; rw [hh]; rfl)
 have H0:=Lib.hid (HI.out s[0] w.heap.size _ HC.out)
 have HS:Hid (w.heap.size ≤ (w.alloc (.cells #[.string ⟨#[48,49,50,51,52,53,54,55,56,57]⟩] 9)).heap.size):=Lib.hid (by rw [hsz]; omega)
 clear hh HI hb hW hsz hw
 generalize kindE s=V at HV ⊢
 generalize numE s.data.toList=nE at HV HX
 generalize lineB s=b3 at hl HV
 generalize nameB s=b4 at HN HV
 generalize wordB s=b2 at HW HV
 cases hd:digitB s[0]
 case true =>
  rw [hd] at H0 HV
  clear hd HW HN hl
  go_enter Tryz.func251,Tryz.ntmps251
  go_wp2_with fail
  refine (HA.out _).mono ?_
  rintro e w1 ⟨rfl,hw1⟩
  subst hw1
  go_wp2_with fail
  refine H0.out.mono ?_
  rintro e w1 ⟨rfl,hw1⟩
  subst hw1
  go_wp2_with fail
  refine HX.out.mono ?_
  rintro e w2 ⟨rfl,k2⟩
  have HB2:=Lib.hid (HB.out.trans (k2.mono HS.out))
  clear k2
  go_wp2_with fail
  go_ret2
  exact ⟨by rw [HV.out]; rfl,HB2.out⟩
 case false =>
  rw [hd] at H0 HV
  clear hd HX
  cases b2 <;> cases b3 <;> cases b4
  all_goals
   go_enter Tryz.func251,Tryz.ntmps251
   go_wp2_with fail
   refine (HA.out _).mono ?_
   rintro e w1 ⟨rfl,hw1⟩
   subst hw1
   go_wp2_with fail
   refine H0.out.mono ?_
   rintro e w1 ⟨rfl,hw1⟩
   subst hw1
   go_wp2_with fail
   refine HW.out.mono ?_
   rintro e w1 ⟨rfl,hw1⟩
   subst hw1
   go_wp2_with fail
   (try (refine HN.out.mono ?_; rintro e w1 ⟨rfl,hw1⟩; subst hw1; go_wp2_with fail))
   go_ret2
   exact ⟨by rw [HV.out]; rfl,HB.out⟩
def cutV (k:Nat) (t:List UInt8) (n e:Nat):Value:=.tuple #[.agg #[.int .i64 (k:Nat),.string ⟨t.toArray⟩,.int .i64 0,.int .i64 0],.int .i64 (n:Nat),errV e]
def tok0:Array Value:=#[.int .i64 0,.string ⟨#[]⟩,.int .i64 0,.int .i64 0]
theorem lx_result3 {fn:Func} {p q r:Tmp} {ty:TypeId} (h:fn.results=#[.cell p ty,.tmp q,.tmp r]) (tmps:Array Value) (P:Program) (w:World) {a:Addr} {u v x:Value}
  (h0:(asAddr (tmps.getD p undef)).run P w=.ok a w) (h1:(loadVar ty a).run P w=.ok u w) (h2:tmps.getD q undef=v) (h3:tmps.getD r undef=x):(results fn tmps).run P w=.ok (.tuple #[u,v,x]) w:=by
 rw [Array.getD_eq_getD_getElem?] at h0 h2 h3
 simp [results,h,Sem.run_bind,Result.andThen,h0,h1,h2,h3]
theorem lx_size (t:List UInt8):(⟨t.toArray⟩:ByteArray).size=t.length:=by rw [cs_size]
def signAt (n:Nat):List UInt8:=signsL.getD n []
def signsV:Array Value:=#[.string ⟨#[61,61]⟩,.string ⟨#[33,61]⟩,.string ⟨#[60,61]⟩,.string ⟨#[62,61]⟩,.string ⟨#[60]⟩,.string ⟨#[62]⟩,.string ⟨#[61]⟩,.string ⟨#[40]⟩,.string ⟨#[41]⟩,.string ⟨#[44]⟩,.string ⟨#[58]⟩,.string ⟨#[43]⟩,.string ⟨#[45]⟩,.string ⟨#[42]⟩,.string ⟨#[47]⟩,.string ⟨#[37]⟩]
def Sgn (w:World):Prop:=∃ t fr,w.heap[5]? = some (.cells signsV t fr)
theorem gSgn : Tryz.prog.globalNamed "proctor/lex.signs" = some 5 := by kernel_rfl
theorem sgn_of_var {w : World} (h : w.var? Tryz.prog "proctor/lex.signs" = some signsV) : Sgn w := by
 unfold World.var? at h
 rw [gSgn] at h
 simp only [Option.bind_some] at h
 split at h
 ·rename_i cs t fr e
  obtain rfl:=Option.some.inj h
  exact ⟨t,fr,e⟩
 ·cases h
theorem Sgn.below {w w':World} (h:Sgn w) (hb:Below w.heap.size w w'):Sgn w':=by
 obtain ⟨t,fr,e⟩:=h
 exact ⟨t,fr,(hb.block _ (Array.getElem?_eq_some_iff.1 e).1).trans e⟩
theorem signs_info:(Tryz.prog.info? 310).map (·.size)=some signsV.size:=by kernel_rfl
theorem sign_at:∀ (n:Nat),n < 16 → ∀ w,(Instr.index 310 (.agg signsV) (.int .i64 n)).run Tryz.prog w=.ok (.string ⟨(signAt n).toArray⟩) w
 | 0,_,w=>by kernel_rfl
 | 1,_,w=>by kernel_rfl
 | 2,_,w=>by kernel_rfl
 | 3,_,w=>by kernel_rfl
 | 4,_,w=>by kernel_rfl
 | 5,_,w=>by kernel_rfl
 | 6,_,w=>by kernel_rfl
 | 7,_,w=>by kernel_rfl
 | 8,_,w=>by kernel_rfl
 | 9,_,w=>by kernel_rfl
 | 10,_,w=>by kernel_rfl
 | 11,_,w=>by kernel_rfl
 | 12,_,w=>by kernel_rfl
 | 13,_,w=>by kernel_rfl
 | 14,_,w=>by kernel_rfl
 | 15,_,w=>by kernel_rfl
 | n + 16,h,w=>by omega
theorem sign_ne:∀ (n:Nat),n < 16 → signAt n ≠ []
 | 0,_=>by decide
 | 1,_=>by decide
 | 2,_=>by decide
 | 3,_=>by decide
 | 4,_=>by decide
 | 5,_=>by decide
 | 6,_=>by decide
 | 7,_=>by decide
 | 8,_=>by decide
 | 9,_=>by decide
 | 10,_=>by decide
 | 11,_=>by decide
 | 12,_=>by decide
 | 13,_=>by decide
 | 14,_=>by decide
 | 15,_=>by decide
 | n + 16,h=>by omega
theorem sign_hit {l:List UInt8} {n:Nat} (h:noSign l n) (hn:n < 16) (e:(signAt n).isPrefixOf l=true):signAt n=l.take (signN l) ∧ (signAt n).length=signN l ∧ signN l ≠ 0:=by
 have h1:=noSign_hit h hn e
 rw [sign_f] at h1
 have h2:signAt n=l.take (signN l):=h1.symm
 have h3:signN l ≠ 0:=fun z=>sign_ne n hn (by rw [h2,z]; rfl)
 refine ⟨h2,?_,h3⟩
 rw [h2,List.length_take]
 have:=sign_le l
 omega
theorem sign_none {l:List UInt8} (h:noSign l 16):signN l=0:=sign_zero.1 (noSign_end h)
def signK (l:List UInt8):Nat:=if signN l=0 then 0 else 5
theorem sign_k0 {l:List UInt8} (h:signN l=0):signK l=0:=if_pos h
set_option maxHeartbeats 2000000 in
set_option maxRecDepth 100000 in
theorem cutSign_calls (s:ByteArray) (w:World) (h:Sgn w) :
  Calls Tryz.prog 225 #[.string s] w fun e w'=>e=.returned (cutV (signK s.data.toList) (s.data.toList.take (signN s.data.toList)) (signN s.data.toList) 0) ∧ Below w.heap.size w w':=by
 obtain ⟨ty,fr,hg⟩:=h.below ((Below.refl w.heap.size w).alloc (Nat.le_refl _) (.cells tok0 183))
 have HW:=Lib.hid sign_at
 have HP:=Lib.hid (fun p w1=>Tryz.strings_HasPrefix s p w1)
 have HB:=Lib.hid ((Below.refl w.heap.size w).alloc (Nat.le_refl _) (.cells tok0 183))
 obtain ⟨l,hl⟩:∃ l,l=s.data.toList:=⟨_,rfl⟩
 rw [← hl] at HP ⊢
 have HL:=Lib.hid hl
 clear hl
 unfold tok0 at hg
 have H0:Hid (noSign l 0):=Lib.hid (noSign_zero l)
 go_enter Tryz.func225,Tryz.ntmps225
 go_wp2_with (refine wpList_load_row rfl 310 _ rfl 5 rfl ty _ fr _ hg Tryz.underlying310 rfl signs_info ?_)
 clear hg
 generalize (Value.agg signsV)=V at HW ⊢
 go_loopw [8] (fun i wr=>∃ (n:Nat),n ≤ 16 ∧ i=.int .i64 n ∧ Hid (noSign l n) ∧ wr=w.alloc (.cells #[.int .i64 0,.string ⟨#[]⟩,.int .i64 0,.int .i64 0] 183)) (fun i _=>16 - (intOf i).toNat)
 case atStart=>exact ⟨0,by omega,rfl,H0,rfl⟩
 case round =>
  obtain ⟨n,hn,rfl,HX,hwr⟩:=hrel
  subst hwr
  by_cases hlt:n < 16
  case neg =>
   have HV:Hid (signN l=0):=Lib.hid (sign_none (by rw [← show n=16 by omega]; exact HX.out))
   go_wp2_with fail
   rw [sign_k0 HV.out,HV.out]
   refine bodyPost_ret (v:=cutV 0 [] 0 0) ?_ rfl ⟨rfl,?_⟩
   ·refine lx_result3 rfl _ _ _ (a:=⟨w.heap.size,0,none⟩) (by rfl) ?_ (by rfl) (by rfl)
    go_simp
   ·exact (Below.refl w.heap.size w).alloc (Nat.le_refl _) _
  case pos =>
   have hw:=HW.out n hlt
   cases e:(signAt n).isPrefixOf l
   ·have HX2:=Lib.hid (noSign_more HX.out hlt e)
    have HP1:Hid (∀ w1,Calls Tryz.prog 247 #[.string s,.string ⟨(signAt n).toArray⟩] w1 fun e w'=>e=.returned (.bool false) ∧ w'=w1):=Lib.hid (fun w1=>(HP.out _ w1).mono (fun _ _ he=>⟨he.1.trans (by rw [← e]; rfl),he.2⟩))
    clear e
    generalize signAt n=x at hw HP1
    go_wp2_with fail
    refine (HP1.out _).mono ?_
    rintro e w1 ⟨rfl,hw1⟩
    subst hw1
    go_wp2_with fail
    go_roundw
    case rel=>exact ⟨n + 1,hlt,by go_num,HX2,by first | trivial | rfl⟩
    case measure=>simp [intOf]; omega
   ·obtain ⟨h1,h2,h3⟩:=sign_hit HX.out hlt e
    have HP1:Hid (∀ w1,Calls Tryz.prog 247 #[.string s,.string ⟨(signAt n).toArray⟩] w1 fun e w'=>e=.returned (.bool true) ∧ w'=w1):=Lib.hid (fun w1=>(HP.out _ w1).mono (fun _ _ he=>⟨he.1.trans (by rw [← e]; rfl),he.2⟩))
    have HV:Hid (cutV (signK l) (l.take (signN l)) (signN l) 0=.tuple #[.agg #[.int .i64 5,.string ⟨(signAt n).toArray⟩,.int .i64 0,.int .i64 0],.int .i64 ((⟨(signAt n).toArray⟩:ByteArray).size:Nat),.nilIface]):=Lib.hid (by
     rw [signK,if_neg h3,← h1,← h2,lx_size]; rfl)
    clear e h1 h2 h3
    generalize (⟨(signAt n).toArray⟩:ByteArray)=x at hw HP1 HV
    go_wp2_with fail
    refine (HP1.out _).mono ?_
    rintro e w1 ⟨rfl,hw1⟩
    subst hw1
    go_wp2_with fail
    refine bodyPost_ret (v:=.tuple #[.agg #[.int .i64 5,.string x,.int .i64 0,.int .i64 0],.int .i64 (x.size:Nat),.nilIface]) ?_ rfl ⟨by rw [HV.out],?_⟩
    ·refine lx_result3 rfl _ _ _ (a:=⟨w.heap.size,0,none⟩) (by rfl) ?_ (by rfl) (by rfl)
     go_simp
    ·exact (Below.refl w.heap.size w).alloc (Nat.le_refl _) _
theorem lx_cellsW:Tryz.prog.cellsOf 310=16:=by kernel_rfl
theorem gSgnType:(Tryz.prog.globals[5]?).map (·.type)=some 310:=by kernel_rfl
theorem signs_laid:(Rows.laid_proctor_lex_signs:DataW Unit)=.agg (signsL.map fun l=>.lit (.string l)):=rfl
theorem signsV_list:signsV.toList=(List.range 16).map fun i=>.string ⟨(signAt i).toArray⟩:=rfl
theorem sgn_of_head {W : World} {rest : List (String × DataW Unit)} (h : laidMet Tryz.prog (("proctor/lex.signs", Rows.laid_proctor_lex_signs) :: rest) W) : Sgn W := by
 obtain ⟨ps,⟨g',t',cs,fuel,p,q,hg',ht',hvar,hd,_,_⟩,_⟩:=h
 obtain rfl:=Option.some.inj (gSgn.symm.trans hg')
 obtain rfl:=Option.some.inj (gSgnType.symm.trans ht')
 refine sgn_of_var ?_
 rw [hvar]
 cases fuel with
 | zero=>simp [DataW.trod] at hd
 | succ fuel =>
  simp only [DataW.trod,Tryz.underlying310,lx_cellsW,sc_cellsS] at hd
  split at hd
  ·rename_i hl
   obtain ⟨xs,hm,hx⟩:=Option.map_eq_some_iff.1 hd
   have hxs:xs.map (·.1)=signsL.map fun l=>.lit (.string l):=by
    have:=congrArg Prod.fst hx
    rw [signs_laid] at this
    simpa using this
   have key:∀ i,i < 16 → cs.toList[i]? = some (.string ⟨(signAt i).toArray⟩):=by
    intro i hi
    obtain ⟨x,hb,hf⟩:=Lib.mapM_at hm i i (by simp [hi])
    have hx1:x.1=.lit (.string (signAt i)):=by
     have h1:(xs.map (·.1))[i]? = some x.1:=by simp [hb]
     rw [hxs] at h1
     have h2:i < signsL.length:=hi
     simp only [List.getElem?_map,List.getElem?_eq_getElem h2,Option.map_some,Option.some.injEq] at h1
     rw [← h1,signAt,List.getD,List.getElem?_eq_getElem h2]
     rfl
    obtain ⟨d,pp⟩:=x
    simp only at hx1
    subst hx1
    obtain ⟨s,e,e2,_⟩:=DataW.trod_string Tryz.underlying9 hf
    simp only [Prod.mk.injEq,DataW.lit.injEq,Lit.string.injEq] at e2
    rw [← sc_eq e2.1.symm]
    have h3:=congrArg (fun l=>l[0]?) e
    simp only [Nat.mul_one,List.getElem?_take,List.getElem?_drop,Nat.add_zero,List.getElem?_cons_zero] at h3
    simpa using h3
   have hlist:cs.toList=signsV.toList:=by
    refine List.ext_getElem? (fun i=>?_)
    rw [signsV_list]
    by_cases hi:i < 16
    ·rw [key i hi]; simp [hi]
    ·rw [List.getElem?_eq_none (by omega),List.getElem?_eq_none (by simp; omega)]
   rw [← Array.toArray_toList (xs:=cs),hlist,Array.toArray_toList]
  ·cases hd
end Go.Proofs.YtiafhfchjhffhaaGreatDoor
