/- paclaim: LexRef ScRefNames LexRefFirst LexRefAll -/
import Derived.Test.YtmknmmbfaljkbaaGreatDoorLowLex2
import Derived.OwnWalk
import Derived.BigQuiet
import Derived.Test.YtmknmmbfaljkbaaGreatDoorLowMath
import Derived.Test.YtmknmmbfaljkbaaGreatDoorLowLex3
import Derived.Test.YtmknmmbfaljkbaaGreatDoorLowR9
namespace Go.Proofs.YtmknmmbfaljkbaaGreatDoor
open Go.RowKit
set_option linter.unusedVariables false
set_option maxHeartbeats 400000 in
theorem lxDigit_calls (c:UInt8) (w:World) :
  Calls Tryz.prog 30 #[.int .u8 c.toNat] w fun e w'=>e=.returned (.bool (digitB c)) ∧ w=w':=by
 have HV:Hid (digitB c=(decide (48 ≤ c.toNat) && decide (c.toNat ≤ 57))):=Lib.hid rfl
 cases h1:decide (48 ≤ c.toNat)
 all_goals cases h2:decide (c.toNat ≤ 57)
 all_goals
  have t1:decide ((48:Int) ≤ (c.toNat:Int))=_:=byteB c 48 _ h1
  have t2:decide ((c.toNat:Int) ≤ (57:Int))=_:=byteT c 57 _ h2
  rw [h1,h2] at HV
  clear h1 h2
  go_enter Tryz.func30,Tryz.ntmps30
  go_wp2_with fail
  go_ret
  exact ⟨by rw [HV.out]; rfl,rfl⟩
set_option maxHeartbeats 4000000 in
theorem lxLetter_calls (c:UInt8) (w:World) :
  Calls Tryz.prog 28 #[.int .u8 c.toNat] w fun e w'=>e=.returned (.bool (nameC c)) ∧ w=w':=by
 have HV:Hid (nameC c=(((decide (65 ≤ c.toNat) && decide (c.toNat ≤ 90)) || (decide (97 ≤ c.toNat) && decide (c.toNat ≤ 122))) || digitB c || (c == 95))):=Lib.hid rfl
 have HD:=Lib.hid (lxDigit_calls c w)
 have e5:=byte95 c
 generalize nameC c=V at HV ⊢
 generalize digitB c=d at HV HD
 cases h1:decide (65 ≤ c.toNat)
 all_goals cases h2:decide (c.toNat ≤ 90)
 all_goals cases h3:decide (97 ≤ c.toNat)
 all_goals cases h4:decide (c.toNat ≤ 122)
 all_goals cases h5:(c == 95)
 all_goals
  have t1:decide ((65:Int) ≤ (c.toNat:Int))=_:=byteB c 65 _ h1
  have t2:decide ((c.toNat:Int) ≤ (90:Int))=_:=byteT c 90 _ h2
  have t3:decide ((97:Int) ≤ (c.toNat:Int))=_:=byteB c 97 _ h3
  have t4:decide ((c.toNat:Int) ≤ (122:Int))=_:=byteT c 122 _ h4
  have t5:((c.toNat:Int) == 95)=_:=e5.trans h5
  rw [h1,h2,h3,h4,h5] at HV
  clear h1 h2 h3 h4 h5 e5
  go_enter Tryz.func28,Tryz.ntmps28
  go_wp2_with fail
  (try (refine HD.out.mono ?_; rintro e w1 ⟨rfl,hw1⟩; subst hw1; go_wp2_with fail))
  go_ret
  exact ⟨by rw [HV.out]; cases d <;> rfl,rfl⟩
theorem blX_end2 {l:List UInt8} {i:Nat} (h:blX l i true) (hi:l.length ≤ i):blX l i false:=by
 unfold blX at h ⊢
 rw [List.drop_eq_nil_iff.2 hi] at h ⊢
 exact h
set_option maxHeartbeats 4000000 in
theorem lxBlank_calls (s:ByteArray) (w:World) (hs:s.size ≤ 4611686018427387903) :
  Calls Tryz.prog 13 #[.string s] w fun e w'=>e=.returned (.int .i64 (blankN s.data.toList false:Nat)) ∧ w=w':=by
 have HL:Hid (s.data.toList.length=s.size):=Lib.hid (cs_size s).symm
 obtain ⟨N,hN⟩:∃ N,N=blankN s.data.toList false:=⟨_,rfl⟩
 rw [← hN]
 have HN:=Lib.hid hN
 clear hN
 go_enter Tryz.func13,Tryz.ntmps13
 go_wp2_with fail
 go_loopw [3] (fun v wr=>∃ (n:Nat),n ≤ s.size ∧ v=.int .i64 n ∧ Hid (blX s.data.toList n false) ∧ w=wr) (fun v _=>s.size - (intOf v).toNat)
 case atStart=>exact ⟨0,Nat.zero_le _,rfl,Lib.hid (blX_zero _),rfl⟩
 case round =>
  obtain ⟨n,hn,rfl,HX,rfl⟩:=hrel
  by_cases hlt:n < s.size
  case neg =>
   have HE:Hid (N=n):=Lib.hid (by rw [HN.out]; exact blX_end HX.out (by rw [HL.out]; omega))
   go_wp2_with fail
   go_ret
   exact ⟨by rw [HE.out]; rfl,rfl⟩
  case pos =>
   have hat:=cs_at s n hlt
   have b35:=cs_beq s[n] 35 (by omega)
   have b32:=cs_beq s[n] 32 (by omega)
   have b10:=cs_beq s[n] 10 (by omega)
   have b13:=cs_beq s[n] 13 (by omega)
   have b9:=cs_beq s[n] 9 (by omega)
   by_cases h35:s[n]=35
   case pos =>
    have t35:((s[n].toNat:Int) == 35)=true:=b35.trans (by rw [h35]; rfl)
    have HX2:=Lib.hid (blX_hash HX.out (by rw [hat,h35]))
    have HA:Hid (s[n] ≠ 10):=Lib.hid (by rw [h35]; decide)
    clear b35 b32 b10 b13 b9 hat h35
    go_wp2_with fail
    go_loopw [3] (fun v wr=>∃ (j:Nat),n ≤ j ∧ j ≤ s.size ∧ v=.int .i64 j ∧ Hid (blX s.data.toList j true) ∧ w=wr) (fun v _=>s.size - (intOf v).toNat)
    case atStart=>exact ⟨n,Nat.le_refl _,hn,rfl,HX2,rfl⟩
    case round =>
     clear HX2
     obtain ⟨j,hnj,hj,rfl,HY,rfl⟩:=hrel
     by_cases hjl:j < s.size
     case neg =>
      have HE:=Lib.hid (blX_end2 HY.out (by rw [HL.out]; omega))
      have hjn:n < j:=by omega
      go_wp2_with fail
      go_roundw
      case rel=>exact ⟨j,hj,rfl,HE,trivial⟩
      case measure=>simp [intOf]; omega
     case pos =>
      have b10:=cs_beq s[j] 10 (by omega)
      have hat:=cs_at s j hjl
      by_cases h10:s[j]=10
      ·have HE:=Lib.hid (blX_out HY.out (by rw [hat,h10]))
       have hjn:n < j:=by
        rcases Nat.lt_or_eq_of_le hnj with h | h
        ·exact h
        ·subst h; exact absurd h10 HA.out
       have t10:((s[j].toNat:Int) != 10)=false:=by rw [bne,show ((s[j].toNat:Int) == 10)=(s[j] == 10) from b10,h10]; rfl
       clear b10 hat h10
       go_wp2_with fail
       go_roundw
       case rel=>exact ⟨j,hj,rfl,HE,trivial⟩
       case measure=>simp [intOf]; omega
      ·have HE:=Lib.hid (blX_in HY.out hat h10)
       have t10:((s[j].toNat:Int) != 10)=true:=by rw [bne,show ((s[j].toNat:Int) == 10)=(s[j] == 10) from b10]; simpa using h10
       clear b10 hat h10
       go_wp2_with fail
       go_roundw
       case rel=>exact ⟨j + 1,by omega,hjl,by go_num,HE,trivial⟩
       case measure=>simp [intOf]; omega
   case neg =>
    have t35:((s[n].toNat:Int) == 35)=false:=b35.trans (by simpa using h35)
    have q32:((s[n].toNat:Int) != 32)=!(s[n] == 32):=by rw [bne]; exact congrArg not b32
    have q10:((s[n].toNat:Int) != 10)=!(s[n] == 10):=by rw [bne]; exact congrArg not b10
    have q13:((s[n].toNat:Int) != 13)=!(s[n] == 13):=by rw [bne]; exact congrArg not b13
    have q9:((s[n].toNat:Int) != 9)=!(s[n] == 9):=by rw [bne]; exact congrArg not b9
    have hbl:blankB s[n]=(s[n] == 32 || (s[n] == 10 || (s[n] == 13 || s[n] == 9))):=rfl
    have HB:=Lib.hid (fun hb=>blX_blank HX.out hat hb)
    have HS:=Lib.hid (fun hb=>blX_stop HX.out hat hb h35)
    clear b35 b32 b10 b13 b9 hat h35
    rw [hbl] at HB HS
    clear hbl
    cases h1:(s[n] == 32) <;> cases h2:(s[n] == 10) <;> cases h3:(s[n] == 13) <;> cases h4:(s[n] == 9)
    all_goals
     rw [h1] at q32
     rw [h2] at q10
     rw [h3] at q13
     rw [h4] at q9
     rw [h1,h2,h3,h4] at HB HS
     clear h1 h2 h3 h4
    case false.false.false.false =>
     have HE:Hid (N=n):=Lib.hid (by rw [HN.out]; exact HS.out rfl)
     go_wp2_with fail
     go_ret
     exact ⟨by rw [HE.out]; rfl,rfl⟩
    all_goals
     have HE:=Lib.hid (HB.out rfl)
     clear HB HS
     go_wp2_with fail
     go_roundw
     case rel=>exact ⟨n + 1,hlt,by go_num,HE,trivial⟩
     case measure=>simp [intOf]; omega
theorem signs_at:∀ (n:Nat),n < 16 → signsV[n]? = some (.string ⟨(signAt n).toArray⟩)
 | 0,_=>rfl
 | 1,_=>rfl
 | 2,_=>rfl
 | 3,_=>rfl
 | 4,_=>rfl
 | 5,_=>rfl
 | 6,_=>rfl
 | 7,_=>rfl
 | 8,_=>rfl
 | 9,_=>rfl
 | 10,_=>rfl
 | 11,_=>rfl
 | 12,_=>rfl
 | 13,_=>rfl
 | 14,_=>rfl
 | 15,_=>rfl
 | n + 16,h=>by omega
theorem sign_len:∀ (n:Nat),n < 16 → (signAt n).length ≤ 2
 | 0,_=>by decide
 | 1,_=>by decide
 | 2,_=>by decide
 | 3,_=>by decide
 | 4,_=>by decide
 | 5,_=>by decide
 | 6,_=>by decide
 | 7,_=>by decide
 | 8,_=>by decide
 | 9,_=>by decide
 | 10,_=>by decide
 | 11,_=>by decide
 | 12,_=>by decide
 | 13,_=>by decide
 | 14,_=>by decide
 | 15,_=>by decide
 | n + 16,h=>by omega
theorem lx_drewN {B:Nat} {a w:World} (h:Below B a w) (n:Nat):Below B a (w.drewN n):=⟨h.os,h.tape,h.output,h.size,h.block⟩
theorem pre_take {x l:List UInt8} (h:x.length ≤ l.length):x.isPrefixOf l=(l.take x.length == x):=by
 rw [Bool.eq_iff_iff,List.isPrefixOf_iff_prefix,beq_iff_eq]
 constructor
 ·rintro ⟨y,rfl⟩; exact List.take_left
 ·intro e; rw [← e]; exact List.take_prefix _ _
theorem pre_long {x l:List UInt8} (h:l.length < x.length):x.isPrefixOf l=false:=by
 rw [Bool.eq_false_iff]
 intro e
 rw [List.isPrefixOf_iff_prefix] at e
 have:=e.length_le
 omega
set_option maxHeartbeats 4000000 in
set_option maxRecDepth 100000 in
theorem lxSign_calls (s:ByteArray) (w:World) (hs:s.size ≤ 4611686018427387903) :
  Calls Tryz.prog 29 #[.string s] w fun e w'=>e=.returned (.string ⟨(s.data.toList.take (signN s.data.toList)).toArray⟩) ∧ Below w.heap.size w w':=by
 obtain ⟨l,hl⟩:∃ l,l=s.data.toList:=⟨_,rfl⟩
 have HLn:Hid (l.length=s.size):=Lib.hid (by rw [hl,← cs_size])
 rw [← hl]
 have HL:=Lib.hid hl
 have H0:Hid (noSign l 0):=Lib.hid (noSign_zero l)
 have HS0:=Lib.hid (heap_alloc_new w (.cells signsV 9))
 have HB:=Lib.hid ((Below.refl w.heap.size w).alloc (Nat.le_refl _) (.cells signsV 9))
 obtain ⟨V,hV⟩:∃ V:ByteArray,V=⟨(l.take (signN l)).toArray⟩:=⟨_,rfl⟩
 rw [← hV]
 have HVV:=Lib.hid hV
 clear hl hV
 go_enter Tryz.func29,Tryz.ntmps29
 go_wp2_with fail
 unfold signsV at HS0 HB
 generalize hw2:w.alloc (.cells #[.string ⟨#[61,61]⟩,.string ⟨#[33,61]⟩,.string ⟨#[60,61]⟩,.string ⟨#[62,61]⟩,.string ⟨#[60]⟩,.string ⟨#[62]⟩,.string ⟨#[61]⟩,.string ⟨#[40]⟩,.string ⟨#[41]⟩,.string ⟨#[44]⟩,.string ⟨#[58]⟩,.string ⟨#[43]⟩,.string ⟨#[45]⟩,.string ⟨#[42]⟩,.string ⟨#[47]⟩,.string ⟨#[37]⟩] 9)=w2 at HS0 HB ⊢
 clear hw2
 go_loopw [4] (fun i wr=>∃ (n:Nat),n ≤ 16 ∧ i=.int .i64 n ∧ Hid (noSign l n) ∧ Hid (Below w.heap.size w wr) ∧ Hid (wr.heap[w.heap.size]? = some (.cells signsV 9 (0,0)))) (fun i _=>16 - (intOf i).toNat)
 case atStart=>exact ⟨0,by omega,rfl,H0,HB,HS0⟩
 case round =>
  clear HB HS0
  obtain ⟨n,hn,rfl,HX,HB,HS0⟩:=hrel
  by_cases hlt:n < 16
  case neg =>
   have HV:Hid (V=⟨#[]⟩):=Lib.hid (by rw [HVV.out,sign_none (by rw [← show n=16 by omega]; exact HX.out)]; rfl)
   go_wp2_with fail
   go_ret
   exact ⟨by rw [HV.out]; rfl,HB.out⟩
  case pos =>
   have hc:wr.cell? ⟨w.heap.size,n,none⟩=some (.string ⟨(signAt n).toArray⟩):=by rw [cell_of_row wr _ n _ _ _ HS0.out]; exact signs_at n hlt
   obtain ⟨x,hx⟩:∃ x:ByteArray,x=⟨(signAt n).toArray⟩:=⟨_,rfl⟩
   have hxs:x.size=(signAt n).length:=by rw [hx,lx_size]
   have hxl:x.data.toList=signAt n:=by rw [hx]
   rw [← hx] at hc
   have hblk:=block_lt_of_cell hc
   by_cases hle:x.size ≤ s.size
   case neg =>
    have HX2:=Lib.hid (noSign_more HX.out hlt (pre_long (l:=l) (by rw [HLn.out]; unfold signAt at hxs; omega)))
    have hxm:x.size ≤ 9223372036854775807:=by
     have h1:=sign_len n hlt
     omega
    have t1:decide (x.size ≤ s.size)=false:=by simpa using hle
    clear hx hxs hxl
    go_wp2_with fail
    go_quiet (fail)
    all_goals (go_wp2_with fail)
    go_roundw
    case rel=>exact ⟨n + 1,hlt,by go_num,HX2,Lib.hid (lx_drewN HB.out _),HS0⟩
    case measure=>simp [intOf]; omega
   case pos =>
    have hpre:=pre_take (x:=signAt n) (l:=l) (by rw [HLn.out,← hxs]; exact hle)
    have heq:((s.extract 0 x.size).toList == x.toList)=(signAt n).isPrefixOf l:=by rw [hpre,cs_tl,cs_tl,cs_take,hxl,hxs,← HL.out]
    have t1:decide (x.size ≤ s.size)=true:=by simpa using hle
    cases e:(signAt n).isPrefixOf l
    ·have HX2:=Lib.hid (noSign_more HX.out hlt e)
     rw [e] at heq
     clear e hx hxs hxl hpre
     go_wp2_with fail
     go_quiet (fail)
     all_goals (go_wp2_with fail)
     go_roundw
     case rel=>exact ⟨n + 1,hlt,by go_num,HX2,Lib.hid (lx_drewN HB.out _),HS0⟩
     case measure=>simp [intOf]; omega
    ·have HV:Hid (V=x):=Lib.hid (by rw [HVV.out,← (sign_hit HX.out hlt e).1,hx])
     rw [e] at heq
     clear e hx hxs hxl hpre
     go_wp2_with fail
     go_quiet (fail)
     all_goals (go_wp2_with fail)
     go_ret
     exact ⟨by rw [HV.out]; rfl,lx_drewN HB.out _⟩
theorem eq95_iff (c:UInt8):(c == 95)=true ↔ c.toNat=95:=by
 rw [beq_iff_eq]
 constructor
 ·rintro rfl; rfl
 ·intro h; exact UInt8.toNat_inj.1 h
theorem nameC_iff (c:UInt8):nameC c=true ↔ ((65 ≤ c.toNat ∧ c.toNat ≤ 90) ∨ (97 ≤ c.toNat ∧ c.toNat ≤ 122)) ∨ (48 ≤ c.toNat ∧ c.toNat ≤ 57) ∨ c.toNat=95:=by
 unfold nameC letterB digitB
 rw [Bool.or_eq_true,Bool.or_eq_true,eq95_iff]
 simp only [Bool.or_eq_true,Bool.and_eq_true,decide_eq_true_eq]
 omega
theorem digitB_iff (c:UInt8):digitB c=true ↔ 48 ≤ c.toNat ∧ c.toNat ≤ 57:=by
 unfold digitB
 simp only [Bool.and_eq_true,decide_eq_true_eq]
def spTo (s:ByteArray) (n:Nat):Prop:=namesTo s n ∧ ∀ h:0 < s.size,0 < n → digitB (s[0]'h)=false
theorem spTo_zero (s:ByteArray):spTo s 0:=⟨namesTo_zero s,fun _ h=>by omega⟩
theorem spTo_letter {s:ByteArray} {n:Nat} (h:spTo s n) (hn:n < s.size) (e:nameC s[n]=true) (e2:digitB s[n]=false):spTo s (n + 1) :=
 ⟨namesTo_step h.1 hn e,fun h0 _=>by
  by_cases hz:n=0
  ·subst hz; exact e2
  ·exact h.2 h0 (by omega)⟩
theorem spTo_digit {s:ByteArray} {n:Nat} (h:spTo s n) (hn:n < s.size) (e:nameC s[n]=true) (hz:n ≠ 0):spTo s (n + 1) :=
 ⟨namesTo_step h.1 hn e,fun h0 _=>h.2 h0 (by omega)⟩
theorem spTo_end {s:ByteArray} (h0:0 < s.size) (h1:s.size ≤ 32) (h:spTo s s.size):speltB s=true:=spelt_good h0 h1 (h.2 h0 h0) h.1
set_option maxHeartbeats 4000000 in
theorem refSpelt_calls (s:ByteArray) (w:World) (hs:s.size ≤ 9223372036854775807) :
  Calls Tryz.prog 48 #[.string s] w fun e w'=>e=.returned (.bool (speltB s)) ∧ w=w':=by
 by_cases h0:s.size=0
 ·have HV:Hid (speltB s=false):=Lib.hid (spelt_none h0)
  have he:s=⟨#[]⟩:=sc_eq (t:=[]) (List.length_eq_zero_iff.1 (by rw [← sc_size]; exact h0))
  clear h0 hs
  generalize speltB s=b at HV ⊢
  subst he
  go_enter Tryz.func48,Tryz.ntmps48
  go_wp2_with fail
  go_ret
  exact ⟨by rw [HV.out]; rfl,rfl⟩
 have hp:0 < s.size:=by omega
 have hne:¬ s=ByteArray.empty:=fun e=>by rw [e] at hp; exact absurd hp (by decide)
 have t0:decide ((s.size:Int) < 1)=false:=by simp; omega
 by_cases h1:32 < s.size
 ·have HV:Hid (speltB s=false):=Lib.hid (spelt_long h1)
  have t1:decide ((32:Int) < (s.size:Int))=true:=by simp; omega
  clear h0
  go_enter Tryz.func48,Tryz.ntmps48
  go_wp2_with fail
  go_ret
  exact ⟨by rw [HV.out]; rfl,rfl⟩
 have t1:decide ((32:Int) < (s.size:Int))=false:=by simp; omega
 have HG:Hid (spTo s s.size → speltB s=true):=Lib.hid (spTo_end hp (by omega))
 have H0:=Lib.hid (spTo_zero s)
 have HZ:Hid (digitB (s[0]'hp)=true → speltB s=false):=Lib.hid (spelt_digit hp)
 clear h0
 go_enter Tryz.func48,Tryz.ntmps48
 go_wp2_with fail
 clear t0 t1
 go_loopw [3] (fun i wr=>∃ (n:Nat),n ≤ s.size ∧ i=.int .i64 n ∧ Hid (spTo s n) ∧ w=wr) (fun i _=>s.size - (intOf i).toNat)
 case atStart=>exact ⟨0,by omega,rfl,H0,rfl⟩
 case round =>
  obtain ⟨n,hn,rfl,HX,rfl⟩:=hrel
  by_cases hlt:n < s.size
  case neg =>
   have HV:Hid (speltB s=true):=Lib.hid (HG.out (by rw [← show n=s.size by omega]; exact HX.out))
   go_wp2_with fail
   go_ret
   exact ⟨by rw [HV.out]; rfl,rfl⟩
  case pos =>
   have HSL:=Lib.hid (fun e e2=>spTo_letter HX.out hlt e e2)
   have HSD:=Lib.hid (fun e e2=>spTo_digit HX.out hlt e e2)
   have HB:=Lib.hid (fun e=>spelt_bad (s:=s) hlt e)
   have hN:=nameC_iff s[n]
   have hD:=digitB_iff s[n]
   have h95:=byte95 s[n]
   have hE:=eq95_iff s[n]
   have HZn:Hid (n=0 → digitB s[n]=true → speltB s=false):=Lib.hid (by rintro rfl; exact HZ.out)
   by_cases hr:48 ≤ s[n].toNat ∧ s[n].toNat ≤ 57
   case pos =>
    have ta:decide ((65:Int) ≤ (s[n].toNat:Int))=false:=by rw [decide_eq_false_iff_not]; omega
    have tb:decide ((s[n].toNat:Int) ≤ 90)=true:=by rw [decide_eq_true_eq]; omega
    have tc:decide ((97:Int) ≤ (s[n].toNat:Int))=false:=by rw [decide_eq_false_iff_not]; omega
    have td:decide ((s[n].toNat:Int) ≤ 122)=true:=by rw [decide_eq_true_eq]; omega
    have tf:decide ((s[n].toNat:Int) < 48)=false:=by rw [decide_eq_false_iff_not]; omega
    have tg:decide ((57:Int) < (s[n].toNat:Int))=false:=by rw [decide_eq_false_iff_not]; omega
    have te:((s[n].toNat:Int) == 95)=false:=by rw [h95,Bool.eq_false_iff,Ne,hE]; omega
    by_cases hz:n=0
    ·have HV:Hid (speltB s=false):=Lib.hid (HZn.out hz (hD.2 (by omega)))
     have tz:((n:Int) == 0)=true:=by simp; omega
     clear hz
     clear hN hD h95 hE hr
     go_wp2_with fail
     go_ret
     exact ⟨by rw [HV.out]; rfl,rfl⟩
    ·have HX2:=Lib.hid (HSD.out (hN.2 (by omega)) hz)
     have tz:((n:Int) == 0)=false:=by simp; omega
     clear hz
     clear hN hD h95 hE hr
     go_wp2_with fail
     go_roundw
     case rel=>exact ⟨n + 1,hlt,by go_num,HX2,trivial⟩
     case measure=>simp [intOf]; omega
   case neg =>
    by_cases hr:0 ≤ s[n].toNat ∧ s[n].toNat ≤ 47
    case pos =>
     have ta:decide ((65:Int) ≤ (s[n].toNat:Int))=false:=by rw [decide_eq_false_iff_not]; omega
     have tb:decide ((s[n].toNat:Int) ≤ 90)=true:=by rw [decide_eq_true_eq]; omega
     have tc:decide ((97:Int) ≤ (s[n].toNat:Int))=false:=by rw [decide_eq_false_iff_not]; omega
     have td:decide ((s[n].toNat:Int) ≤ 122)=true:=by rw [decide_eq_true_eq]; omega
     have tf:decide ((s[n].toNat:Int) < 48)=true:=by rw [decide_eq_true_eq]; omega
     have tg:decide ((57:Int) < (s[n].toNat:Int))=false:=by rw [decide_eq_false_iff_not]; omega
     have te:((s[n].toNat:Int) == 95)=false:=by rw [h95,Bool.eq_false_iff,Ne,hE]; omega
     by_cases hz:n=0
     ·have HV:Hid (speltB s=false):=Lib.hid (HB.out (Bool.eq_false_iff.2 (fun e=>by have:=hN.1 e; omega)))
      have tz:((n:Int) == 0)=true:=by simp; omega
      clear hz
      clear hN hD h95 hE hr
      go_wp2_with fail
      go_ret
      exact ⟨by rw [HV.out]; rfl,rfl⟩
     ·have HV:Hid (speltB s=false):=Lib.hid (HB.out (Bool.eq_false_iff.2 (fun e=>by have:=hN.1 e; omega)))
      have tz:((n:Int) == 0)=false:=by simp; omega
      clear hz
      clear hN hD h95 hE hr
      go_wp2_with fail
      go_ret
      exact ⟨by rw [HV.out]; rfl,rfl⟩
    case neg =>
     by_cases hr:58 ≤ s[n].toNat ∧ s[n].toNat ≤ 64
     case pos =>
      have ta:decide ((65:Int) ≤ (s[n].toNat:Int))=false:=by rw [decide_eq_false_iff_not]; omega
      have tb:decide ((s[n].toNat:Int) ≤ 90)=true:=by rw [decide_eq_true_eq]; omega
      have tc:decide ((97:Int) ≤ (s[n].toNat:Int))=false:=by rw [decide_eq_false_iff_not]; omega
      have td:decide ((s[n].toNat:Int) ≤ 122)=true:=by rw [decide_eq_true_eq]; omega
      have tf:decide ((s[n].toNat:Int) < 48)=false:=by rw [decide_eq_false_iff_not]; omega
      have tg:decide ((57:Int) < (s[n].toNat:Int))=true:=by rw [decide_eq_true_eq]; omega
      have te:((s[n].toNat:Int) == 95)=false:=by rw [h95,Bool.eq_false_iff,Ne,hE]; omega
      by_cases hz:n=0
      ·have HV:Hid (speltB s=false):=Lib.hid (HB.out (Bool.eq_false_iff.2 (fun e=>by have:=hN.1 e; omega)))
       have tz:((n:Int) == 0)=true:=by simp; omega
       clear hz
       clear hN hD h95 hE hr
       go_wp2_with fail
       go_ret
       exact ⟨by rw [HV.out]; rfl,rfl⟩
      ·have HV:Hid (speltB s=false):=Lib.hid (HB.out (Bool.eq_false_iff.2 (fun e=>by have:=hN.1 e; omega)))
       have tz:((n:Int) == 0)=false:=by simp; omega
       clear hz
       clear hN hD h95 hE hr
       go_wp2_with fail
       go_ret
       exact ⟨by rw [HV.out]; rfl,rfl⟩
     case neg =>
      by_cases hr:65 ≤ s[n].toNat ∧ s[n].toNat ≤ 90
      case pos =>
       have ta:decide ((65:Int) ≤ (s[n].toNat:Int))=true:=by rw [decide_eq_true_eq]; omega
       have tb:decide ((s[n].toNat:Int) ≤ 90)=true:=by rw [decide_eq_true_eq]; omega
       have tc:decide ((97:Int) ≤ (s[n].toNat:Int))=false:=by rw [decide_eq_false_iff_not]; omega
       have td:decide ((s[n].toNat:Int) ≤ 122)=true:=by rw [decide_eq_true_eq]; omega
       have tf:decide ((s[n].toNat:Int) < 48)=false:=by rw [decide_eq_false_iff_not]; omega
       have tg:decide ((57:Int) < (s[n].toNat:Int))=true:=by rw [decide_eq_true_eq]; omega
       have te:((s[n].toNat:Int) == 95)=false:=by rw [h95,Bool.eq_false_iff,Ne,hE]; omega
       have HX2:=Lib.hid (HSL.out (hN.2 (by omega)) (Bool.eq_false_iff.2 (fun e=>by have:=hD.1 e; omega)))
       clear hN hD h95 hE hr
       go_wp2_with fail
       go_roundw
       case rel=>exact ⟨n + 1,hlt,by go_num,HX2,trivial⟩
       case measure=>simp [intOf]; omega
      case neg =>
       by_cases hr:91 ≤ s[n].toNat ∧ s[n].toNat ≤ 94
       case pos =>
        have ta:decide ((65:Int) ≤ (s[n].toNat:Int))=true:=by rw [decide_eq_true_eq]; omega
        have tb:decide ((s[n].toNat:Int) ≤ 90)=false:=by rw [decide_eq_false_iff_not]; omega
        have tc:decide ((97:Int) ≤ (s[n].toNat:Int))=false:=by rw [decide_eq_false_iff_not]; omega
        have td:decide ((s[n].toNat:Int) ≤ 122)=true:=by rw [decide_eq_true_eq]; omega
        have tf:decide ((s[n].toNat:Int) < 48)=false:=by rw [decide_eq_false_iff_not]; omega
        have tg:decide ((57:Int) < (s[n].toNat:Int))=true:=by rw [decide_eq_true_eq]; omega
        have te:((s[n].toNat:Int) == 95)=false:=by rw [h95,Bool.eq_false_iff,Ne,hE]; omega
        by_cases hz:n=0
        ·have HV:Hid (speltB s=false):=Lib.hid (HB.out (Bool.eq_false_iff.2 (fun e=>by have:=hN.1 e; omega)))
         have tz:((n:Int) == 0)=true:=by simp; omega
         clear hz
         clear hN hD h95 hE hr
         go_wp2_with fail
         go_ret
         exact ⟨by rw [HV.out]; rfl,rfl⟩
        ·have HV:Hid (speltB s=false):=Lib.hid (HB.out (Bool.eq_false_iff.2 (fun e=>by have:=hN.1 e; omega)))
         have tz:((n:Int) == 0)=false:=by simp; omega
         clear hz
         clear hN hD h95 hE hr
         go_wp2_with fail
         go_ret
         exact ⟨by rw [HV.out]; rfl,rfl⟩
       case neg =>
        by_cases hr:95 ≤ s[n].toNat ∧ s[n].toNat ≤ 95
        case pos =>
         have ta:decide ((65:Int) ≤ (s[n].toNat:Int))=true:=by rw [decide_eq_true_eq]; omega
         have tb:decide ((s[n].toNat:Int) ≤ 90)=false:=by rw [decide_eq_false_iff_not]; omega
         have tc:decide ((97:Int) ≤ (s[n].toNat:Int))=false:=by rw [decide_eq_false_iff_not]; omega
         have td:decide ((s[n].toNat:Int) ≤ 122)=true:=by rw [decide_eq_true_eq]; omega
         have tf:decide ((s[n].toNat:Int) < 48)=false:=by rw [decide_eq_false_iff_not]; omega
         have tg:decide ((57:Int) < (s[n].toNat:Int))=true:=by rw [decide_eq_true_eq]; omega
         have te:((s[n].toNat:Int) == 95)=true:=by rw [h95,hE]; omega
         have HX2:=Lib.hid (HSL.out (hN.2 (by omega)) (Bool.eq_false_iff.2 (fun e=>by have:=hD.1 e; omega)))
         clear hN hD h95 hE hr
         go_wp2_with fail
         go_roundw
         case rel=>exact ⟨n + 1,hlt,by go_num,HX2,trivial⟩
         case measure=>simp [intOf]; omega
        case neg =>
         by_cases hr:96 ≤ s[n].toNat ∧ s[n].toNat ≤ 96
         case pos =>
          have ta:decide ((65:Int) ≤ (s[n].toNat:Int))=true:=by rw [decide_eq_true_eq]; omega
          have tb:decide ((s[n].toNat:Int) ≤ 90)=false:=by rw [decide_eq_false_iff_not]; omega
          have tc:decide ((97:Int) ≤ (s[n].toNat:Int))=false:=by rw [decide_eq_false_iff_not]; omega
          have td:decide ((s[n].toNat:Int) ≤ 122)=true:=by rw [decide_eq_true_eq]; omega
          have tf:decide ((s[n].toNat:Int) < 48)=false:=by rw [decide_eq_false_iff_not]; omega
          have tg:decide ((57:Int) < (s[n].toNat:Int))=true:=by rw [decide_eq_true_eq]; omega
          have te:((s[n].toNat:Int) == 95)=false:=by rw [h95,Bool.eq_false_iff,Ne,hE]; omega
          by_cases hz:n=0
          ·have HV:Hid (speltB s=false):=Lib.hid (HB.out (Bool.eq_false_iff.2 (fun e=>by have:=hN.1 e; omega)))
           have tz:((n:Int) == 0)=true:=by simp; omega
           clear hz
           clear hN hD h95 hE hr
           go_wp2_with fail
           go_ret
           exact ⟨by rw [HV.out]; rfl,rfl⟩
          ·have HV:Hid (speltB s=false):=Lib.hid (HB.out (Bool.eq_false_iff.2 (fun e=>by have:=hN.1 e; omega)))
           have tz:((n:Int) == 0)=false:=by simp; omega
           clear hz
           clear hN hD h95 hE hr
           go_wp2_with fail
           go_ret
           exact ⟨by rw [HV.out]; rfl,rfl⟩
         case neg =>
          by_cases hr:97 ≤ s[n].toNat ∧ s[n].toNat ≤ 122
          case pos =>
           have ta:decide ((65:Int) ≤ (s[n].toNat:Int))=true:=by rw [decide_eq_true_eq]; omega
           have tb:decide ((s[n].toNat:Int) ≤ 90)=false:=by rw [decide_eq_false_iff_not]; omega
           have tc:decide ((97:Int) ≤ (s[n].toNat:Int))=true:=by rw [decide_eq_true_eq]; omega
           have td:decide ((s[n].toNat:Int) ≤ 122)=true:=by rw [decide_eq_true_eq]; omega
           have tf:decide ((s[n].toNat:Int) < 48)=false:=by rw [decide_eq_false_iff_not]; omega
           have tg:decide ((57:Int) < (s[n].toNat:Int))=true:=by rw [decide_eq_true_eq]; omega
           have te:((s[n].toNat:Int) == 95)=false:=by rw [h95,Bool.eq_false_iff,Ne,hE]; omega
           have HX2:=Lib.hid (HSL.out (hN.2 (by omega)) (Bool.eq_false_iff.2 (fun e=>by have:=hD.1 e; omega)))
           clear hN hD h95 hE hr
           go_wp2_with fail
           go_roundw
           case rel=>exact ⟨n + 1,hlt,by go_num,HX2,trivial⟩
           case measure=>simp [intOf]; omega
          case neg =>
           have hr:123 ≤ s[n].toNat:=by omega
           have ta:decide ((65:Int) ≤ (s[n].toNat:Int))=true:=by rw [decide_eq_true_eq]; omega
           have tb:decide ((s[n].toNat:Int) ≤ 90)=false:=by rw [decide_eq_false_iff_not]; omega
           have tc:decide ((97:Int) ≤ (s[n].toNat:Int))=true:=by rw [decide_eq_true_eq]; omega
           have td:decide ((s[n].toNat:Int) ≤ 122)=false:=by rw [decide_eq_false_iff_not]; omega
           have tf:decide ((s[n].toNat:Int) < 48)=false:=by rw [decide_eq_false_iff_not]; omega
           have tg:decide ((57:Int) < (s[n].toNat:Int))=true:=by rw [decide_eq_true_eq]; omega
           have te:((s[n].toNat:Int) == 95)=false:=by rw [h95,Bool.eq_false_iff,Ne,hE]; omega
           by_cases hz:n=0
           ·have HV:Hid (speltB s=false):=Lib.hid (HB.out (Bool.eq_false_iff.2 (fun e=>by have:=hN.1 e; omega)))
            have tz:((n:Int) == 0)=true:=by simp; omega
            clear hz
            clear hN hD h95 hE hr
            go_wp2_with fail
            go_ret
            exact ⟨by rw [HV.out]; rfl,rfl⟩
           ·have HV:Hid (speltB s=false):=Lib.hid (HB.out (Bool.eq_false_iff.2 (fun e=>by have:=hN.1 e; omega)))
            have tz:((n:Int) == 0)=false:=by simp; omega
            clear hz
            clear hN hD h95 hE hr
            go_wp2_with fail
            go_ret
            exact ⟨by rw [HV.out]; rfl,rfl⟩
theorem word_cells:∀ (n:Nat),n < 22 → wordsV[n]? = some (.string (wordAt n))
 | 0,_=>rfl
 | 1,_=>rfl
 | 2,_=>rfl
 | 3,_=>rfl
 | 4,_=>rfl
 | 5,_=>rfl
 | 6,_=>rfl
 | 7,_=>rfl
 | 8,_=>rfl
 | 9,_=>rfl
 | 10,_=>rfl
 | 11,_=>rfl
 | 12,_=>rfl
 | 13,_=>rfl
 | 14,_=>rfl
 | 15,_=>rfl
 | 16,_=>rfl
 | 17,_=>rfl
 | 18,_=>rfl
 | 19,_=>rfl
 | 20,_=>rfl
 | 21,_=>rfl
 | n + 22,h=>by omega
set_option maxHeartbeats 1000000 in
set_option maxRecDepth 100000 in
theorem refWords_calls (w:World) :
  Calls Tryz.prog 47 #[] w fun e w'=>e=.returned (.slice (some ⟨w.heap.size,0,none⟩) 22 22) ∧ w'=w.alloc (.cells wordsV 9):=by
 go_enter Tryz.func47,Tryz.ntmps47
 go_wp2_with fail
 go_ret
 exact ⟨rfl,rfl⟩
theorem words_lie (w:World) (n:Nat) (h:n < 22):(w.alloc (.cells wordsV 9)).cell? ⟨w.heap.size,n,none⟩=some (.string (wordAt n)):=by
 rw [World.cell?_alloc_at (hn:=rfl)]
 exact word_cells n h
set_option maxHeartbeats 2000000 in
theorem refName_calls (s:ByteArray) (w:World) (hs:s.size ≤ 9223372036854775807) :
  Calls Tryz.prog 31 #[.string s] w fun e w'=>e=.returned (.bool (nameB s)) ∧ Below w.heap.size w w':=by
 have HV0:Hid (nameB s=(speltB s && (!wordB s && !lineB s))):=Lib.hid rfl
 have H1:=Lib.hid (refWords_calls w)
 have H2:=Lib.hid (fun w1=>refSpelt_calls s w1 hs)
 have hb:(s.toList == [95])=lineB s:=by unfold lineB isT; rw [sc_tl ⟨#[95]⟩]
 have H0:Hid (noWord s 0):=Lib.hid (noWord_zero s)
 have HC:=Lib.hid (words_lie w)
 have HB:=Lib.hid ((Below.refl w.heap.size w).alloc (Nat.le_refl _) (.cells wordsV 9))
 have hlt0:w.heap.size < (w.alloc (.cells wordsV 9)).heap.size:=by simp
 clear hs
 generalize lineB s=b3 at hb HV0
 go_enter Tryz.func31,Tryz.ntmps31
 go_wp2_with fail
 refine H1.out.mono ?_
 rintro e w1 ⟨rfl,rfl⟩
 obtain ⟨wq,hwq⟩:∃ wq,wq=w.alloc (.cells wordsV 9):=⟨_,rfl⟩
 rw [← hwq] at HC HB hlt0 ⊢
 clear hwq H1
 go_wp2_with fail
 go_loopw [4] (fun i wr=>∃ (n:Nat),n ≤ 22 ∧ i=.int .i64 n ∧ Hid (noWord s n) ∧ wq=wr) (fun i _=>22 - (intOf i).toNat)
 case atStart=>exact ⟨0,by omega,rfl,H0,rfl⟩
 case round =>
  obtain ⟨n,hn,rfl,HX,rfl⟩:=hrel
  by_cases hlt:n < 22
  case neg =>
   have hw:wordB s=false:=noWord_end (by rw [← show n=22 by omega]; exact HX.out)
   rw [hw] at HV0
   clear hw
   generalize speltB s=b1 at H2 HV0
   cases b1
   ·go_wp2_with fail
    refine (H2.out _).mono ?_
    rintro e w1 ⟨rfl,rfl⟩
    go_wp2_with fail
    go_ret
    exact ⟨by rw [HV0.out]; rfl,HB.out⟩
   ·cases b3
    all_goals
     go_wp2_with fail
     refine (H2.out _).mono ?_
     rintro e w1 ⟨rfl,rfl⟩
     go_wp2_with fail
     go_ret
     exact ⟨by rw [HV0.out]; simp,HB.out⟩
  case pos =>
   have hc:=HC.out n hlt
   cases e:isT s (wordAt n)
   ·have HX2:=Lib.hid (noWord_step HX.out hlt e)
    have t1:((wordAt n).toList == s.toList)=false:=by rw [isT_comm] at e; exact e
    clear e
    generalize wordAt n=x at hc t1
    go_wp2_with fail
    go_roundw
    case rel=>exact ⟨n + 1,hlt,by go_num,HX2,trivial⟩
    case measure=>simp [intOf]; omega
   ·have HV:Hid (nameB s=false):=Lib.hid (by rw [HV0.out,noWord_hit HX.out hlt e]; simp)
    have t1:((wordAt n).toList == s.toList)=true:=by rw [isT_comm] at e; exact e
    clear e
    generalize wordAt n=x at hc t1
    go_wp2_with fail
    go_ret
    exact ⟨by rw [HV.out]; rfl,HB.out⟩
def cutW (k:Nat) (t:List UInt8) (n e:Nat):Value:=.tuple #[.agg #[.int .i64 (k:Nat),.string ⟨t.toArray⟩,.int .i64 0,.int .i64 0],.int .i64 (n:Nat),.int .i64 (e:Nat)]
def firstV:Except Nat (Nat × List UInt8 × Nat) → Value
 | .ok z=>cutW z.1 z.2.1 z.2.2 0
 | .error e=>cutW 0 [] 0 e
structure RkBox (N:Nat) (w W:World):Prop where
 below:Below N w W
 tok:W.heap[N]? = some (.cells #[.int .i64 0,.string ⟨#[]⟩,.int .i64 0,.int .i64 0] 37 (0,0))
theorem RkBox.new (w:World):RkBox w.heap.size w (w.alloc (.cells #[.int .i64 0,.string ⟨#[]⟩,.int .i64 0,.int .i64 0] 37)) :=
 ⟨(Below.refl _ _).alloc (Nat.le_refl _) _,heap_alloc_new _ _⟩
theorem RkBox.lt {N:Nat} {w W:World} (h:RkBox N w W):N < W.heap.size:=(Array.getElem?_eq_some_iff.1 h.tok).1
theorem RkBox.step {N:Nat} {w W W':World} (h:RkBox N w W) (k:Below W.heap.size W W'):RkBox N w W':=by
 have:=h.lt
 exact ⟨h.below.trans (k.mono (by omega)),(k.block _ h.lt).trans h.tok⟩
theorem RkBox.cells {N:Nat} {w W:World} (h:RkBox N w W):(W.cell? ⟨N,0,none⟩=some (.int .i64 0) ∧ W.cell? ⟨N,1,none⟩=some (.string ⟨#[]⟩) ∧ W.cell? ⟨N,2,none⟩=some (.int .i64 0) ∧ W.cell? ⟨N,3,none⟩=some (.int .i64 0)) ∧ W.frozen? ⟨N,0,none⟩=false ∧ W.frozen? ⟨N,1,none⟩=false ∧ W.frozen? ⟨N,2,none⟩=false ∧ W.frozen? ⟨N,3,none⟩=false :=
 ⟨⟨by rw [cell_of_row W _ 0 _ _ _ h.tok]; rfl,by rw [cell_of_row W _ 1 _ _ _ h.tok]; rfl,by rw [cell_of_row W _ 2 _ _ _ h.tok]; rfl,by rw [cell_of_row W _ 3 _ _ _ h.tok]; rfl⟩,frozen_of_row W _ 0 _ _ h.tok,frozen_of_row W _ 1 _ _ h.tok,frozen_of_row W _ 2 _ _ h.tok,frozen_of_row W _ 3 _ _ h.tok⟩
theorem refCutYes_calls (s:ByteArray) (w:World) (hs:s.size ≤ 4294967296) {t:List UInt8} (h:cutL s.data.toList=some t) :
  Calls Tryz.prog 27 #[.string s] w fun e w'=>e=.returned (.tuple #[.string ⟨t.toArray⟩,.int .i64 ((quoteL t).length:Nat)]) ∧ Below w.heap.size w w':=by
 refine (refCut_calls s w hs).mono ?_
 rintro e w' ⟨t',n,ok,ht,rfl,hb⟩
 obtain ⟨y,hy⟩:=cut_some h
 obtain ⟨rfl,rfl,rfl⟩:=CutTold.same ht (.inl ⟨rfl,rfl,y,hy⟩:CutTold s.data.toList t (quoteL t).length true)
 exact ⟨rfl,hb⟩
theorem refCutNo_calls (s:ByteArray) (w:World) (hs:s.size ≤ 4294967296) (h:cutL s.data.toList=none) :
  Calls Tryz.prog 27 #[.string s] w fun e w'=>e=.returned (.tuple #[.string ⟨#[]⟩,.int .i64 0]) ∧ Below w.heap.size w w':=by
 refine (refCut_calls s w hs).mono ?_
 rintro e w' ⟨t',n,ok,ht,rfl,hb⟩
 obtain ⟨rfl,rfl,rfl⟩:=CutTold.same ht (.inr ⟨rfl,rfl,rfl,fun u y e=>by have:=cut_yes u y; rw [← e,h] at this; cases this⟩:CutTold s.data.toList [] 0 false)
 exact ⟨rfl,hb⟩
theorem word_go {r:List UInt8} {c:UInt8} {t:ByteArray} (hc:r.head? = some c) (ht:t.data.toList=r) :
  wordT r=if digitB c=true then (if r.all digitB=false then .error 4 else if 1 < r.length ∧ c=48 then .error 4 else if 32 < r.length then .error 3 else .ok (3,r,r.length))
   else if 32 < r.length then .error 3 else if (nameB t || lineB t)=true then .ok (1,r,r.length) else .ok (2,r,r.length):=by
 unfold wordT
 have hmk:(⟨r.toArray⟩:ByteArray)=t:=(sc_eq ht).symm
 rw [hc,hmk,line_list,ht]
 simp
theorem dgTo_all {r:List UInt8} {n:Nat} (h:twTo digitB r n) (hn:r.length ≤ n):r.all digitB=true:=by
 rw [List.all_eq_true]
 intro c hc
 exact h c (by rw [List.take_of_length_le hn]; exact hc)
theorem dg_bad {r:List UInt8} {n:Nat} {c:UInt8} (hc:r[n]? = some c) (e:digitB c=false):r.all digitB=false:=by
 rw [List.all_eq_false]
 exact ⟨c,List.mem_of_getElem? hc,by simpa using e⟩
set_option maxHeartbeats 8000000 in
set_option maxRecDepth 100000 in
theorem refFirst_calls (s:ByteArray) (w:World) (hs:s.size ≤ 65536) (h0:0 < s.size) :
  Calls Tryz.prog 14 #[.string s] w fun e w'=>e=.returned (firstV (firstT s.data.toList)) ∧ Below w.heap.size w w':=by
 have HO:=Lib.hid (RkBox.new w)
 obtain ⟨l,hl⟩:∃ l,l=s.data.toList:=⟨_,rfl⟩
 have HLn:Hid (l.length=s.size):=Lib.hid (by rw [hl,← cs_size])
 have hh:l.head? = some s[0]:=by rw [hl]; exact lx_head s h0
 have b34:=cs_beq s[0] 34 (by omega)
 have hne:¬ s=ByteArray.empty:=fun e=>by rw [e] at h0; exact absurd h0 (by decide)
 rw [← hl]
 have HL:=Lib.hid hl
 obtain ⟨FV,hFV⟩:∃ FV,FV=firstV (firstT l):=⟨_,rfl⟩
 rw [← hFV]
 have HFV:=Lib.hid hFV
 clear hFV
 by_cases h34:s[0]=34
 case pos =>
  have t34:((s[0].toNat:Int) == 34)=true:=b34.trans (by rw [h34]; rfl)
  have hf:firstT l=match cutL l with | none=>.error 17 | some t=>if 4096 < t.length then .error 3 else .ok (4,t,(quoteL t).length):=by
   rw [firstT,if_pos (by rw [hh,h34])]
   cases cutL l <;> rfl
  clear b34 h34
  cases hc:cutL l with
  | none =>
   have HV:Hid (FV=cutW 0 [] 0 17):=Lib.hid (by rw [HFV.out,hf,hc]; rfl)
   have HX:=Lib.hid (fun w1=>refCutNo_calls s w1 (by omega) (by rw [← hl]; exact hc))
   clear hf hc hl hh
   go_enter Tryz.func14,Tryz.ntmps14
   go_wp2_with fail
   refine (HX.out _).mono ?_
   rintro e w2 ⟨rfl,k2⟩
   have hO3:=HO.out.step k2
   have HO3:=Lib.hid hO3
   have hlt:=hO3.lt
   obtain ⟨⟨c0,c1,c2,c3⟩,f0,f1,f2,f3⟩:=hO3.cells
   clear k2 hO3 HO HX
   go_wp2_with fail
   refine bodyPost_ret (v:=cutW 0 [] 0 17) ?_ rfl ⟨by rw [HV.out],?_⟩
   ·refine lx_result3 rfl _ _ _ (a:=⟨w.heap.size,0,none⟩) (by rfl) ?_ (by rfl) (by rfl)
    go_simp
   ·exact tk_set4 HO3.out.below (Nat.le_refl _) _ _ _ _
  | some t =>
   have HX:=Lib.hid (fun w1=>refCutYes_calls s w1 (by omega) (by rw [← hl]; exact hc))
   rw [hc] at hf
   simp only at hf
   obtain ⟨n,hn⟩:∃ n,n=(quoteL t).length:=⟨_,rfl⟩
   have hn0:2 ≤ n:=by rw [hn,quote_len]; omega
   obtain ⟨x,hx⟩:∃ x:ByteArray,x=⟨t.toArray⟩:=⟨_,rfl⟩
   have hxs:x.size=t.length:=by rw [hx,lx_size]
   rw [← hn,← hx] at HX
   have tn:((n:Int) == 0)=false:=by rw [beq_eq_false_iff_ne]; omega
   by_cases hl4:4096 < t.length
   ·rw [if_pos hl4] at hf
    have HV:Hid (FV=cutW 0 [] 0 3):=Lib.hid (by rw [HFV.out,hf]; rfl)
    have t1:decide ((4096:Int) < (x.size:Int))=true:=by rw [decide_eq_true_eq,hxs]; omega
    clear hf hc hl hh hxs hx hn hl4
    go_enter Tryz.func14,Tryz.ntmps14
    go_wp2_with fail
    refine (HX.out _).mono ?_
    rintro e w2 ⟨rfl,k2⟩
    have hO3:=HO.out.step k2
    have HO3:=Lib.hid hO3
    have hlt:=hO3.lt
    obtain ⟨⟨c0,c1,c2,c3⟩,f0,f1,f2,f3⟩:=hO3.cells
    clear k2 hO3 HO HX
    go_wp2_with fail
    refine bodyPost_ret (v:=cutW 0 [] 0 3) ?_ rfl ⟨by rw [HV.out],?_⟩
    ·refine lx_result3 rfl _ _ _ (a:=⟨w.heap.size,0,none⟩) (by rfl) ?_ (by rfl) (by rfl)
     go_simp
    ·exact tk_set4 HO3.out.below (Nat.le_refl _) _ _ _ _
   ·rw [if_neg hl4] at hf
    have HV:Hid (FV=.tuple #[.agg #[.int .i64 4,.string x,.int .i64 0,.int .i64 0],.int .i64 (n:Nat),.int .i64 0]):=Lib.hid (by rw [HFV.out,hf,hx,hn]; rfl)
    have t1:decide ((4096:Int) < (x.size:Int))=false:=by rw [decide_eq_false_iff_not,hxs]; omega
    clear hf hc hl hh hxs hx hn hl4
    go_enter Tryz.func14,Tryz.ntmps14
    go_wp2_with fail
    refine (HX.out _).mono ?_
    rintro e w2 ⟨rfl,k2⟩
    have hO3:=HO.out.step k2
    have HO3:=Lib.hid hO3
    have hlt:=hO3.lt
    obtain ⟨⟨c0,c1,c2,c3⟩,f0,f1,f2,f3⟩:=hO3.cells
    clear k2 hO3 HO HX
    go_wp2_with fail
    refine bodyPost_ret (v:=.tuple #[.agg #[.int .i64 4,.string x,.int .i64 0,.int .i64 0],.int .i64 (n:Nat),.int .i64 0]) ?_ rfl ⟨by rw [HV.out],?_⟩
    ·refine lx_result3 rfl _ _ _ (a:=⟨w.heap.size,0,none⟩) (by rfl) ?_ (by rfl) (by rfl)
     go_simp
    ·exact tk_set4 HO3.out.below (Nat.le_refl _) _ _ _ _
 case neg =>
  have t34:((s[0].toNat:Int) == 34)=false:=b34.trans (by simpa using h34)
  have HF:Hid (firstT l=if runL l=[] then (if signN l=0 then .error 15 else .ok (5,l.take (signN l),signN l)) else wordT (runL l)):=Lib.hid (by
   rw [firstT,if_neg (by rw [hh]; simpa using h34)])
  have HLt:=Lib.hid (fun c w1=>lxLetter_calls c w1)
  have HDg:=Lib.hid (fun c w1=>lxDigit_calls c w1)
  have HSg:=Lib.hid (fun w1=>lxSign_calls s w1 (by omega))
  rw [← hl] at HSg
  have HH:=Lib.hid hh
  clear b34 h34 hl hh
  go_enter Tryz.func14,Tryz.ntmps14
  go_wp2_with fail
  generalize hW2:w.alloc (.cells #[.int .i64 0,.string ⟨#[]⟩,.int .i64 0,.int .i64 0] 37)=w2 at HO ⊢
  clear hW2
  go_loopw [7] (fun v wr=>∃ (n:Nat),n ≤ s.size ∧ v=.int .i64 n ∧ Hid (runTo l n) ∧ w2=wr) (fun v _=>s.size - (intOf v).toNat)
  case atStart=>exact ⟨0,Nat.zero_le _,rfl,Lib.hid (runTo_zero _),rfl⟩
  case round =>
   obtain ⟨n,hn,rfl,HX,rfl⟩:=hrel
   by_cases hlt:n < s.size
   case pos =>
    have hat:l[n]? = some s[n]:=by rw [HL.out]; exact cs_at s n hlt
    have H1:=Lib.hid (HLt.out s[n] w2)
    cases hnc:nameC s[n]
    case true =>
     have HX2:=Lib.hid (runTo_more HX.out hat hnc)
     rw [hnc] at H1
     clear hnc hat
     go_wp2_with fail
     refine H1.out.mono ?_
     rintro e w1 ⟨rfl,hw1⟩
     subst hw1
     go_wp2_with fail
     go_roundw
     case rel=>exact ⟨n + 1,hlt,by go_num,HX2,trivial⟩
     case measure=>simp [intOf]; omega
    case false =>
     have HR:=Lib.hid (run_stop HX.out hat hnc)
     rw [hnc] at H1
     clear hnc hat
     have hlt2:=HO.out.lt
     obtain ⟨⟨c0,c1,c2,c3⟩,f0,f1,f2,f3⟩:=HO.out.cells
     by_cases hz:n=0
     ·subst hz
      have hr0:runL l=[]:=by rw [HR.out]; rfl
      rw [if_pos hr0] at HF
      by_cases hs0:signN l=0
      ·have HV:Hid (FV=cutW 0 [] 0 15):=Lib.hid (by rw [HFV.out,HF.out,if_pos hs0]; rfl)
       obtain ⟨g,hg⟩:∃ g:ByteArray,g=⟨(l.take (signN l)).toArray⟩:=⟨_,rfl⟩
       rw [← hg] at HSg
       have hgt:g.toList.isEmpty=true:=by rw [cs_tl,hg,hs0]; rfl
       clear hr0 hs0 hg
       go_wp2_with fail
       refine H1.out.mono ?_
       rintro e w1 ⟨rfl,hw1⟩
       subst hw1
       go_wp2_with fail
       refine (HSg.out _).mono ?_
       rintro e w3 ⟨rfl,k3⟩
       have hO3:=HO.out.step k3
       have HO3:=Lib.hid hO3
       have hlt3:=hO3.lt
       obtain ⟨⟨p0,p1,p2,p3⟩,q0,q1,q2,q3⟩:=hO3.cells
       clear k3 hO3 HO HSg c0 c1 c2 c3 f0 f1 f2 f3
       go_wp2_with fail
       refine bodyPost_ret (v:=cutW 0 [] 0 15) ?_ rfl ⟨by rw [HV.out],?_⟩
       ·refine lx_result3 rfl _ _ _ (a:=⟨w.heap.size,0,none⟩) (by rfl) ?_ (by rfl) (by rfl)
        go_simp
       ·exact tk_set4 HO3.out.below (Nat.le_refl _) _ _ _ _
      ·obtain ⟨g,hg⟩:∃ g:ByteArray,g=⟨(l.take (signN l)).toArray⟩:=⟨_,rfl⟩
       have hgs:g.size=signN l:=by rw [hg,lx_size,List.length_take]; have:=sign_le l; omega
       have HV:Hid (FV=.tuple #[.agg #[.int .i64 5,.string g,.int .i64 0,.int .i64 0],.int .i64 (g.size:Nat),.int .i64 0]):=Lib.hid (by rw [HFV.out,HF.out,if_neg hs0,hgs,hg]; rfl)
       rw [← hg] at HSg
       have hgt:g.toList.isEmpty=false:=by
        rw [cs_tl]
        cases e:g.data.toList with
        | nil=>rw [cs_size,e] at hgs; exact absurd hgs.symm hs0
        | cons c r=>rfl
       have hgm:g.size ≤ 65536:=by rw [hgs]; have:=sign_le l; rw [HLn.out] at this; omega
       clear hr0 hs0 hg hgs
       go_wp2_with fail
       refine H1.out.mono ?_
       rintro e w1 ⟨rfl,hw1⟩
       subst hw1
       go_wp2_with fail
       refine (HSg.out _).mono ?_
       rintro e w3 ⟨rfl,k3⟩
       have hO3:=HO.out.step k3
       have HO3:=Lib.hid hO3
       have hlt3:=hO3.lt
       obtain ⟨⟨p0,p1,p2,p3⟩,q0,q1,q2,q3⟩:=hO3.cells
       clear k3 hO3 HO HSg c0 c1 c2 c3 f0 f1 f2 f3
       go_wp2_with fail
       refine bodyPost_ret (v:=.tuple #[.agg #[.int .i64 5,.string g,.int .i64 0,.int .i64 0],.int .i64 (g.size:Nat),.int .i64 0]) ?_ rfl ⟨by rw [HV.out],?_⟩
       ·refine lx_result3 rfl _ _ _ (a:=⟨w.heap.size,0,none⟩) (by rfl) ?_ (by rfl) (by rfl)
        go_simp
       ·exact tk_set4 HO3.out.below (Nat.le_refl _) _ _ _ _
     ·have hnz:((n:Int) == 0)=false:=by rw [beq_eq_false_iff_ne]; omega
      have hr0:runL l ≠ []:=by
       rw [HR.out]; intro e
       have:=congrArg List.length e
       rw [List.length_take,HLn.out,List.length_nil] at this
       omega
      rw [if_neg hr0] at HF
      obtain ⟨t,ht⟩:∃ t,t=s.extract 0 n:=⟨_,rfl⟩
      have htl:t.data.toList=runL l:=by rw [ht,cs_take,HR.out,HL.out]
      have hrl:(runL l).length=n:=by rw [HR.out,List.length_take,HLn.out]; omega
      have hrh:(runL l).head? = some s[0]:=by
       cases hr:runL l with
       | nil=>exact absurd hr hr0
       | cons c y=>rw [← HH.out,run_head hr]; rfl
      have hW:=word_go hrh htl
      rw [hrl] at hW
      have HT:=Lib.hid ht
      have hmk:(⟨(runL l).toArray⟩:ByteArray)=t:=by rw [← htl]
      have hnn:0 < n:=by omega
      have HAt:Hid (∀ i (h:i < s.size),i < n → (runL l)[i]? = some s[i]):=Lib.hid (fun i h hi=>by rw [HR.out,List.getElem?_take,if_pos hi,HL.out]; exact cs_at s i h)
      have hsub:s.extract 0 n=t:=ht.symm
      cases hd:digitB s[0]
      case true =>
       rw [hd,if_pos rfl] at hW
       have H0:=Lib.hid (fun w1=>HDg.out s[0] w1)
       rw [hd] at H0
       have HW:=Lib.hid hW
       have HMk:=Lib.hid hmk
       have HRl:=Lib.hid hrl
       have b48:=cs_beq s[0] 48 (by omega)
       clear hW hmk htl hrh hr0 hd ht hrl
       go_wp2_with fail
       refine H1.out.mono ?_
       rintro e w1 ⟨rfl,hw1⟩
       subst hw1
       go_wp2_with fail
       (try rw [← HT.out])
       refine (H0.out _).mono ?_
       rintro e w1 ⟨rfl,hw1⟩
       subst hw1
       go_wp2_with fail
       go_loopw [10] (fun v wr=>∃ (i:Nat),i ≤ n ∧ v=.int .i64 i ∧ Hid (twTo digitB (runL l) i) ∧ w2=wr) (fun v _=>n - (intOf v).toNat)
       case atStart=>exact ⟨0,Nat.zero_le _,rfl,Lib.hid (twTo_zero _ _),rfl⟩
       case round =>
        obtain ⟨i,hi,rfl,HY,rfl⟩:=hrel
        by_cases hil:i < n
        case pos =>
         have his:i < s.size:=by omega
         have hti:decide (i < n)=true:=by simpa using hil
         have hat:=HAt.out i his hil
         have H1:=Lib.hid (HDg.out s[i] w2)
         cases hdi:digitB s[i]
         case true =>
          have HY2:=Lib.hid (twTo_more HY.out hat hdi)
          rw [hdi] at H1
          clear hdi hat b48
          go_wp2_with fail
          refine H1.out.mono ?_
          rintro e w1 ⟨rfl,hw1⟩
          subst hw1
          go_wp2_with fail
          go_roundw
          case rel=>exact ⟨i + 1,hil,by go_num,HY2,trivial⟩
          case measure=>simp [intOf]; omega
         case false =>
          have HV:Hid (FV=cutW 0 [] 0 4):=Lib.hid (by rw [HFV.out,HF.out,HW.out,if_pos (dg_bad hat hdi)]; rfl)
          rw [hdi] at H1
          clear hdi hat b48
          go_wp2_with fail
          refine H1.out.mono ?_
          rintro e w1 ⟨rfl,hw1⟩
          subst hw1
          go_wp2_with fail
          refine bodyPost_ret (v:=cutW 0 [] 0 4) ?_ rfl ⟨by rw [HV.out],?_⟩
          ·refine lx_result3 rfl _ _ _ (a:=⟨w.heap.size,0,none⟩) (by rfl) ?_ (by rfl) (by rfl)
           go_simp
          ·exact tk_set4 HO.out.below (Nat.le_refl _) _ _ _ _
        case neg =>
         have hti:decide (i < n)=false:=by simpa using hil
         have hall:=dgTo_all (r:=runL l) HY.out (by rw [HRl.out]; omega)
         rw [hall,if_neg (by decide)] at HW
         by_cases h48:1 < n ∧ s[0]=48
         ·have HV:Hid (FV=cutW 0 [] 0 4):=Lib.hid (by rw [HFV.out,HF.out,HW.out,if_pos h48]; rfl)
          have u1:decide ((1:Int) < (n:Int))=true:=by rw [decide_eq_true_eq]; omega
          have u2:((s[0].toNat:Int) == 48)=true:=b48.trans (by rw [h48.2]; rfl)
          clear h48 hall b48
          go_wp2_with fail
          refine bodyPost_ret (v:=cutW 0 [] 0 4) ?_ rfl ⟨by rw [HV.out],?_⟩
          ·refine lx_result3 rfl _ _ _ (a:=⟨w.heap.size,0,none⟩) (by rfl) ?_ (by rfl) (by rfl)
           go_simp
          ·exact tk_set4 HO.out.below (Nat.le_refl _) _ _ _ _
         ·rw [if_neg h48] at HW
          by_cases h32:32 < n
          ·have HV:Hid (FV=cutW 0 [] 0 3):=Lib.hid (by rw [HFV.out,HF.out,HW.out,if_pos h32]; rfl)
           have u3:decide ((32:Int) < (n:Int))=true:=by rw [decide_eq_true_eq]; omega
           have u1:decide ((1:Int) < (n:Int))=true:=by rw [decide_eq_true_eq]; omega
           have u2:((s[0].toNat:Int) == 48)=false:=b48.trans (by simpa using fun e=>h48 ⟨by omega,e⟩)
           clear h48 hall b48 h32
           go_wp2_with fail
           refine bodyPost_ret (v:=cutW 0 [] 0 3) ?_ rfl ⟨by rw [HV.out],?_⟩
           ·refine lx_result3 rfl _ _ _ (a:=⟨w.heap.size,0,none⟩) (by rfl) ?_ (by rfl) (by rfl)
            go_simp
           ·exact tk_set4 HO.out.below (Nat.le_refl _) _ _ _ _
          ·have HV:Hid (FV=.tuple #[.agg #[.int .i64 3,.string t,.int .i64 0,.int .i64 0],.int .i64 (n:Nat),.int .i64 0]):=Lib.hid (by rw [HFV.out,HF.out,HW.out,if_neg h32,← HMk.out]; rfl)
           have u3:decide ((32:Int) < (n:Int))=false:=by rw [decide_eq_false_iff_not]; omega
           cases u1:decide ((1:Int) < (n:Int))
           ·clear h48 hall b48 h32
            go_wp2_with fail
            refine bodyPost_ret (v:=.tuple #[.agg #[.int .i64 3,.string t,.int .i64 0,.int .i64 0],.int .i64 (n:Nat),.int .i64 0]) ?_ rfl ⟨by rw [HV.out],?_⟩
            ·refine lx_result3 rfl _ _ _ (a:=⟨w.heap.size,0,none⟩) (by rfl) ?_ (by rfl) (by rfl)
             go_simp
            ·exact tk_set4 HO.out.below (Nat.le_refl _) _ _ _ _
           ·have u2:((s[0].toNat:Int) == 48)=false:=b48.trans (by simpa using fun e=>h48 ⟨by rw [decide_eq_true_eq] at u1; omega,e⟩)
            clear h48 hall b48 h32
            go_wp2_with fail
            refine bodyPost_ret (v:=.tuple #[.agg #[.int .i64 3,.string t,.int .i64 0,.int .i64 0],.int .i64 (n:Nat),.int .i64 0]) ?_ rfl ⟨by rw [HV.out],?_⟩
            ·refine lx_result3 rfl _ _ _ (a:=⟨w.heap.size,0,none⟩) (by rfl) ?_ (by rfl) (by rfl)
             go_simp
            ·exact tk_set4 HO.out.below (Nat.le_refl _) _ _ _ _
      case false =>
       rw [hd,if_neg (by decide)] at hW
       have H0:=Lib.hid (fun w1=>HDg.out s[0] w1)
       rw [hd] at H0
       have HMk:=Lib.hid hmk
       have hts:t.size=n:=by rw [cs_size,htl,hrl]
       have HNm:=Lib.hid (fun w1=>refName_calls t w1 (by omega))
       by_cases h32:32 < n
       ·rw [if_pos h32] at hW
        have HV:Hid (FV=cutW 0 [] 0 3):=Lib.hid (by rw [HFV.out,HF.out,hW]; rfl)
        have u3:decide ((32:Int) < (n:Int))=true:=by rw [decide_eq_true_eq]; omega
        clear hW hmk htl hrh hr0 hd ht hrl h32 hts
        go_wp2_with fail
        refine H1.out.mono ?_
        rintro e w1 ⟨rfl,hw1⟩
        subst hw1
        go_wp2_with fail
        (try rw [← HT.out])
        refine (H0.out _).mono ?_
        rintro e w1 ⟨rfl,hw1⟩
        subst hw1
        go_wp2_with fail
        refine bodyPost_ret (v:=cutW 0 [] 0 3) ?_ rfl ⟨by rw [HV.out],?_⟩
        ·refine lx_result3 rfl _ _ _ (a:=⟨w.heap.size,0,none⟩) (by rfl) ?_ (by rfl) (by rfl)
         go_simp
        ·exact tk_set4 HO.out.below (Nat.le_refl _) _ _ _ _
       ·rw [if_neg h32] at hW
        have u3:decide ((32:Int) < (n:Int))=false:=by rw [decide_eq_false_iff_not]; omega
        have hli:(t.toList == [95])=lineB t:=by rw [line_list,cs_tl]
        cases hnm:nameB t <;> cases hlb:lineB t
        all_goals
         rw [hnm] at HNm
         rw [hlb] at hli
         rw [hnm,hlb] at hW
        case' false.false=>have HV:Hid (FV=.tuple #[.agg #[.int .i64 2,.string t,.int .i64 0,.int .i64 0],.int .i64 (n:Nat),.int .i64 0]):=Lib.hid (by rw [HFV.out,HF.out,hW,← HMk.out]; rfl)
        case' false.true=>have HV:Hid (FV=.tuple #[.agg #[.int .i64 1,.string t,.int .i64 0,.int .i64 0],.int .i64 (n:Nat),.int .i64 0]):=Lib.hid (by rw [HFV.out,HF.out,hW,← HMk.out]; rfl)
        case' true.false=>have HV:Hid (FV=.tuple #[.agg #[.int .i64 1,.string t,.int .i64 0,.int .i64 0],.int .i64 (n:Nat),.int .i64 0]):=Lib.hid (by rw [HFV.out,HF.out,hW,← HMk.out]; rfl)
        case' true.true=>have HV:Hid (FV=.tuple #[.agg #[.int .i64 1,.string t,.int .i64 0,.int .i64 0],.int .i64 (n:Nat),.int .i64 0]):=Lib.hid (by rw [HFV.out,HF.out,hW,← HMk.out]; rfl)
        all_goals
         clear hW hmk htl hrh hr0 hd ht hrl h32 hts hnm hlb
         go_wp2_with fail
         refine H1.out.mono ?_
         rintro e w1 ⟨rfl,hw1⟩
         subst hw1
         go_wp2_with fail
         (try rw [← HT.out])
         refine (H0.out _).mono ?_
         rintro e w1 ⟨rfl,hw1⟩
         subst hw1
         go_wp2_with fail
         refine (HNm.out _).mono ?_
         rintro e w3 ⟨rfl,k3⟩
         have hO3:=HO.out.step k3
         have HO3:=Lib.hid hO3
         have hlt3:=hO3.lt
         obtain ⟨⟨p0,p1,p2,p3⟩,q0,q1,q2,q3⟩:=hO3.cells
         clear k3 hO3 HO HNm c0 c1 c2 c3 f0 f1 f2 f3
         go_wp2_with fail
         refine bodyPost_ret (v:=FV) ?_ rfl ⟨rfl,?_⟩
         ·rw [HV.out]
          refine lx_result3 rfl _ _ _ (a:=⟨w.heap.size,0,none⟩) (by rfl) ?_ (by rfl) (by rfl)
          go_simp
         ·exact tk_set4 HO3.out.below (Nat.le_refl _) _ _ _ _
   case neg =>
    have HR:=Lib.hid (run_end HX.out (by rw [HLn.out]; omega))
    have hlt2:=HO.out.lt
    obtain ⟨⟨c0,c1,c2,c3⟩,f0,f1,f2,f3⟩:=HO.out.cells
    by_cases hz:n=0
    ·exact absurd hz (by omega)
    ·have hnz:((n:Int) == 0)=false:=by rw [beq_eq_false_iff_ne]; omega
     have hr0:runL l ≠ []:=by
      rw [HR.out]; intro e
      have:=congrArg List.length e
      rw [List.length_take,HLn.out,List.length_nil] at this
      omega
     rw [if_neg hr0] at HF
     obtain ⟨t,ht⟩:∃ t,t=s.extract 0 n:=⟨_,rfl⟩
     have htl:t.data.toList=runL l:=by rw [ht,cs_take,HR.out,HL.out]
     have hrl:(runL l).length=n:=by rw [HR.out,List.length_take,HLn.out]; omega
     have hrh:(runL l).head? = some s[0]:=by
      cases hr:runL l with
      | nil=>exact absurd hr hr0
      | cons c y=>rw [← HH.out,run_head hr]; rfl
     have hW:=word_go hrh htl
     rw [hrl] at hW
     have HT:=Lib.hid ht
     have hmk:(⟨(runL l).toArray⟩:ByteArray)=t:=by rw [← htl]
     have hnn:0 < n:=by omega
     have HAt:Hid (∀ i (h:i < s.size),i < n → (runL l)[i]? = some s[i]):=Lib.hid (fun i h hi=>by rw [HR.out,List.getElem?_take,if_pos hi,HL.out]; exact cs_at s i h)
     have hsub:s.extract 0 n=t:=ht.symm
     cases hd:digitB s[0]
     case true =>
      rw [hd,if_pos rfl] at hW
      have H0:=Lib.hid (fun w1=>HDg.out s[0] w1)
      rw [hd] at H0
      have HW:=Lib.hid hW
      have HMk:=Lib.hid hmk
      have HRl:=Lib.hid hrl
      have b48:=cs_beq s[0] 48 (by omega)
      clear hW hmk htl hrh hr0 hd ht hrl
      go_wp2_with fail
      (try rw [← HT.out])
      refine (H0.out _).mono ?_
      rintro e w1 ⟨rfl,hw1⟩
      subst hw1
      go_wp2_with fail
      go_loopw [10] (fun v wr=>∃ (i:Nat),i ≤ n ∧ v=.int .i64 i ∧ Hid (twTo digitB (runL l) i) ∧ w2=wr) (fun v _=>n - (intOf v).toNat)
      case atStart=>exact ⟨0,Nat.zero_le _,rfl,Lib.hid (twTo_zero _ _),rfl⟩
      case round =>
       obtain ⟨i,hi,rfl,HY,rfl⟩:=hrel
       by_cases hil:i < n
       case pos =>
        have his:i < s.size:=by omega
        have hti:decide (i < n)=true:=by simpa using hil
        have hat:=HAt.out i his hil
        have H1:=Lib.hid (HDg.out s[i] w2)
        cases hdi:digitB s[i]
        case true =>
         have HY2:=Lib.hid (twTo_more HY.out hat hdi)
         rw [hdi] at H1
         clear hdi hat b48
         go_wp2_with fail
         refine H1.out.mono ?_
         rintro e w1 ⟨rfl,hw1⟩
         subst hw1
         go_wp2_with fail
         go_roundw
         case rel=>exact ⟨i + 1,hil,by go_num,HY2,trivial⟩
         case measure=>simp [intOf]; omega
        case false =>
         have HV:Hid (FV=cutW 0 [] 0 4):=Lib.hid (by rw [HFV.out,HF.out,HW.out,if_pos (dg_bad hat hdi)]; rfl)
         rw [hdi] at H1
         clear hdi hat b48
         go_wp2_with fail
         refine H1.out.mono ?_
         rintro e w1 ⟨rfl,hw1⟩
         subst hw1
         go_wp2_with fail
         refine bodyPost_ret (v:=cutW 0 [] 0 4) ?_ rfl ⟨by rw [HV.out],?_⟩
         ·refine lx_result3 rfl _ _ _ (a:=⟨w.heap.size,0,none⟩) (by rfl) ?_ (by rfl) (by rfl)
          go_simp
         ·exact tk_set4 HO.out.below (Nat.le_refl _) _ _ _ _
       case neg =>
        have hti:decide (i < n)=false:=by simpa using hil
        have hall:=dgTo_all (r:=runL l) HY.out (by rw [HRl.out]; omega)
        rw [hall,if_neg (by decide)] at HW
        by_cases h48:1 < n ∧ s[0]=48
        ·have HV:Hid (FV=cutW 0 [] 0 4):=Lib.hid (by rw [HFV.out,HF.out,HW.out,if_pos h48]; rfl)
         have u1:decide ((1:Int) < (n:Int))=true:=by rw [decide_eq_true_eq]; omega
         have u2:((s[0].toNat:Int) == 48)=true:=b48.trans (by rw [h48.2]; rfl)
         clear h48 hall b48
         go_wp2_with fail
         refine bodyPost_ret (v:=cutW 0 [] 0 4) ?_ rfl ⟨by rw [HV.out],?_⟩
         ·refine lx_result3 rfl _ _ _ (a:=⟨w.heap.size,0,none⟩) (by rfl) ?_ (by rfl) (by rfl)
          go_simp
         ·exact tk_set4 HO.out.below (Nat.le_refl _) _ _ _ _
        ·rw [if_neg h48] at HW
         by_cases h32:32 < n
         ·have HV:Hid (FV=cutW 0 [] 0 3):=Lib.hid (by rw [HFV.out,HF.out,HW.out,if_pos h32]; rfl)
          have u3:decide ((32:Int) < (n:Int))=true:=by rw [decide_eq_true_eq]; omega
          have u1:decide ((1:Int) < (n:Int))=true:=by rw [decide_eq_true_eq]; omega
          have u2:((s[0].toNat:Int) == 48)=false:=b48.trans (by simpa using fun e=>h48 ⟨by omega,e⟩)
          clear h48 hall b48 h32
          go_wp2_with fail
          refine bodyPost_ret (v:=cutW 0 [] 0 3) ?_ rfl ⟨by rw [HV.out],?_⟩
          ·refine lx_result3 rfl _ _ _ (a:=⟨w.heap.size,0,none⟩) (by rfl) ?_ (by rfl) (by rfl)
           go_simp
          ·exact tk_set4 HO.out.below (Nat.le_refl _) _ _ _ _
         ·have HV:Hid (FV=.tuple #[.agg #[.int .i64 3,.string t,.int .i64 0,.int .i64 0],.int .i64 (n:Nat),.int .i64 0]):=Lib.hid (by rw [HFV.out,HF.out,HW.out,if_neg h32,← HMk.out]; rfl)
          have u3:decide ((32:Int) < (n:Int))=false:=by rw [decide_eq_false_iff_not]; omega
          cases u1:decide ((1:Int) < (n:Int))
          ·clear h48 hall b48 h32
           go_wp2_with fail
           refine bodyPost_ret (v:=.tuple #[.agg #[.int .i64 3,.string t,.int .i64 0,.int .i64 0],.int .i64 (n:Nat),.int .i64 0]) ?_ rfl ⟨by rw [HV.out],?_⟩
           ·refine lx_result3 rfl _ _ _ (a:=⟨w.heap.size,0,none⟩) (by rfl) ?_ (by rfl) (by rfl)
            go_simp
           ·exact tk_set4 HO.out.below (Nat.le_refl _) _ _ _ _
          ·have u2:((s[0].toNat:Int) == 48)=false:=b48.trans (by simpa using fun e=>h48 ⟨by rw [decide_eq_true_eq] at u1; omega,e⟩)
           clear h48 hall b48 h32
           go_wp2_with fail
           refine bodyPost_ret (v:=.tuple #[.agg #[.int .i64 3,.string t,.int .i64 0,.int .i64 0],.int .i64 (n:Nat),.int .i64 0]) ?_ rfl ⟨by rw [HV.out],?_⟩
           ·refine lx_result3 rfl _ _ _ (a:=⟨w.heap.size,0,none⟩) (by rfl) ?_ (by rfl) (by rfl)
            go_simp
           ·exact tk_set4 HO.out.below (Nat.le_refl _) _ _ _ _
     case false =>
      rw [hd,if_neg (by decide)] at hW
      have H0:=Lib.hid (fun w1=>HDg.out s[0] w1)
      rw [hd] at H0
      have HMk:=Lib.hid hmk
      have hts:t.size=n:=by rw [cs_size,htl,hrl]
      have HNm:=Lib.hid (fun w1=>refName_calls t w1 (by omega))
      by_cases h32:32 < n
      ·rw [if_pos h32] at hW
       have HV:Hid (FV=cutW 0 [] 0 3):=Lib.hid (by rw [HFV.out,HF.out,hW]; rfl)
       have u3:decide ((32:Int) < (n:Int))=true:=by rw [decide_eq_true_eq]; omega
       clear hW hmk htl hrh hr0 hd ht hrl h32 hts
       go_wp2_with fail
       (try rw [← HT.out])
       refine (H0.out _).mono ?_
       rintro e w1 ⟨rfl,hw1⟩
       subst hw1
       go_wp2_with fail
       refine bodyPost_ret (v:=cutW 0 [] 0 3) ?_ rfl ⟨by rw [HV.out],?_⟩
       ·refine lx_result3 rfl _ _ _ (a:=⟨w.heap.size,0,none⟩) (by rfl) ?_ (by rfl) (by rfl)
        go_simp
       ·exact tk_set4 HO.out.below (Nat.le_refl _) _ _ _ _
      ·rw [if_neg h32] at hW
       have u3:decide ((32:Int) < (n:Int))=false:=by rw [decide_eq_false_iff_not]; omega
       have hli:(t.toList == [95])=lineB t:=by rw [line_list,cs_tl]
       cases hnm:nameB t <;> cases hlb:lineB t
       all_goals
        rw [hnm] at HNm
        rw [hlb] at hli
        rw [hnm,hlb] at hW
       case' false.false=>have HV:Hid (FV=.tuple #[.agg #[.int .i64 2,.string t,.int .i64 0,.int .i64 0],.int .i64 (n:Nat),.int .i64 0]):=Lib.hid (by rw [HFV.out,HF.out,hW,← HMk.out]; rfl)
       case' false.true=>have HV:Hid (FV=.tuple #[.agg #[.int .i64 1,.string t,.int .i64 0,.int .i64 0],.int .i64 (n:Nat),.int .i64 0]):=Lib.hid (by rw [HFV.out,HF.out,hW,← HMk.out]; rfl)
       case' true.false=>have HV:Hid (FV=.tuple #[.agg #[.int .i64 1,.string t,.int .i64 0,.int .i64 0],.int .i64 (n:Nat),.int .i64 0]):=Lib.hid (by rw [HFV.out,HF.out,hW,← HMk.out]; rfl)
       case' true.true=>have HV:Hid (FV=.tuple #[.agg #[.int .i64 1,.string t,.int .i64 0,.int .i64 0],.int .i64 (n:Nat),.int .i64 0]):=Lib.hid (by rw [HFV.out,HF.out,hW,← HMk.out]; rfl)
       all_goals
        clear hW hmk htl hrh hr0 hd ht hrl h32 hts hnm hlb
        go_wp2_with fail
        (try rw [← HT.out])
        refine (H0.out _).mono ?_
        rintro e w1 ⟨rfl,hw1⟩
        subst hw1
        go_wp2_with fail
        refine (HNm.out _).mono ?_
        rintro e w3 ⟨rfl,k3⟩
        have hO3:=HO.out.step k3
        have HO3:=Lib.hid hO3
        have hlt3:=hO3.lt
        obtain ⟨⟨p0,p1,p2,p3⟩,q0,q1,q2,q3⟩:=hO3.cells
        clear k3 hO3 HO HNm c0 c1 c2 c3 f0 f1 f2 f3
        go_wp2_with fail
        refine bodyPost_ret (v:=FV) ?_ rfl ⟨rfl,?_⟩
        ·rw [HV.out]
         refine lx_result3 rfl _ _ _ (a:=⟨w.heap.size,0,none⟩) (by rfl) ?_ (by rfl) (by rfl)
         go_simp
        ·exact tk_set4 HO3.out.below (Nat.le_refl _) _ _ _ _
theorem infoRk:(Tryz.prog.info? 37).map (fun i=>(i.zero,i.size,i.bytes))=some (some (.agg #[.int .i64 0,.string ⟨#[]⟩,.int .i64 0,.int .i64 0]),4,40):=by kernel_rfl
theorem tk_new2 (w:World) (o:Obj) (x:Tk) (T:TypeId):∀ j u,(tkC x)[j]? = some u → ((w.alloc o).alloc (.cells #[.int .i64 (x.k:Nat),.string ⟨x.t.toArray⟩,.int .i64 (x.line:Nat),.int .i64 (x.col:Nat)] T)).cell? ((⟨w.heap.size + 1,0,none⟩:Addr).add j)=some u:=by
 intro j u hj
 have h:=tk_new (w.alloc o) x T j u hj
 rwa [World.size_alloc] at h
def RefAllPost (x:Except (Nat × Nat × Nat) (List Tk)) (w:World) (e:Ending) (w':World):Prop :=
 (match x with
 | .ok M=>∃ a cap,e=.returned (.tuple #[.slice a M.length cap,.int .i64 0,.int .i64 0,.int .i64 0]) ∧ TkIn w' 37 a M.length M
 | .error (er,l,c)=>e=.returned (.tuple #[.slice none 0 0,.int .i64 (er:Nat),.int .i64 (l:Nat),.int .i64 (c:Nat)])) ∧ Below w.heap.size w w'
theorem refA_ok {x:Except (Nat × Nat × Nat) (List Tk)} {M:List Tk} {w w':World} {e:Ending} (hx:x=.ok M) (h:∃ a cap,e=.returned (.tuple #[.slice a M.length cap,.int .i64 0,.int .i64 0,.int .i64 0]) ∧ TkIn w' 37 a M.length M) (hb:Below w.heap.size w w'):RefAllPost x w e w':=by
 subst hx; exact ⟨h,hb⟩
theorem refA_no {x:Except (Nat × Nat × Nat) (List Tk)} {er l c:Nat} {w w':World} {e:Ending} (hx:x=.error (er,l,c)) (he:e=.returned (.tuple #[.slice none 0 0,.int .i64 (er:Nat),.int .i64 (l:Nat),.int .i64 (c:Nat)])) (hb:Below w.heap.size w w'):RefAllPost x w e w':=by
 subst hx; exact ⟨he,hb⟩
theorem word_err {x:List UInt8} {e:Nat} (h:wordT x=.error e):e ≠ 0:=by
 unfold wordT at h
 repeat' split at h
 all_goals first | (cases h; decide) | cases h
theorem lx_first_err {l:List UInt8} {e:Nat} (h:firstT l=.error e):e ≠ 0:=by
 unfold firstT at h
 split at h
 ·split at h
  ·cases h; decide
  ·split at h
   ·cases h; decide
   ·cases h
 ·split at h
  ·split at h
   ·cases h; decide
   ·cases h
  ·exact word_err h
def intN:Value → Nat
 | .int _ k=>k.toNat
 | _=>0
set_option maxHeartbeats 8000000 in
set_option maxRecDepth 100000 in
theorem refLexAll_calls (s:ByteArray) (w:World) (hs:s.size ≤ 4294967296) :
  Calls Tryz.prog 7 #[.string s] w (RefAllPost (tokL s.data.toList) w):=by
 obtain ⟨l0,hl0⟩:∃ l0,l0=s.data.toList:=⟨_,rfl⟩
 have hlen:s.size=l0.length:=by rw [hl0,cs_size]
 rw [← hl0]
 have HL0:=Lib.hid hl0
 by_cases hbig:65536 < s.size
 case pos =>
  have t1:decide ((65536:Int) < (s.size:Int))=true:=by rw [decide_eq_true_eq]; omega
  have HV:Hid (tokL l0=.error (3,1,1)):=Lib.hid (by rw [tokL,if_pos (by omega)])
  clear hl0 hlen hbig
  go_enter Tryz.func7,Tryz.ntmps7
  go_wp2_with fail
  exact bodyPost_ret (cs_result4 rfl _ _ _) rfl (refA_no HV.out rfl (Below.refl _ _))
 case neg =>
 have t1:decide ((65536:Int) < (s.size:Int))=false:=by rw [decide_eq_false_iff_not]; omega
 have hs6:s.size ≤ 65536:=by omega
 have HV:Hid (tokL l0=tokT l0 (1,1)):=Lib.hid (by rw [tokL,if_neg (by omega)])
 have HX0:Hid (tokX l0 [] (l0.drop 0) (1,1)):=Lib.hid (by rw [List.drop_zero]; exact tokX_zero _)
 have HLn:=Lib.hid hlen
 obtain ⟨i0,hi,hz0,hz1,hz2⟩:=cs_parts infoRk
 have HI:=Lib.hid hi
 have HZ0:=Lib.hid hz0
 have HZ1:=Lib.hid hz1
 have HZ2:=Lib.hid hz2
 have HB0:=Lib.hid (Below.refl w.heap.size w)
 clear hl0 hlen hi hz0 hz1 hz2 hbig hs
 go_enter Tryz.func7,Tryz.ntmps7
 go_wp2_with fail
 go_loopw [6,7,8,9] (fun o vl vc va wr=>∃ (M:List Tk) (q pl pc:Nat),q ≤ s.size ∧ va=.int .i64 q ∧ vl=.int .i64 pl ∧ vc=.int .i64 pc ∧ M.length ≤ q ∧ pl ≤ 1 + q ∧ pc ≤ 1 + q ∧ 1 ≤ pc ∧ Hid (tokX l0 M (l0.drop q) (pl,pc)) ∧ Hid (wr.ownsRow w.heap.size 37 4 o M.length (tkCs M)) ∧ Hid (Below w.heap.size w wr)) (fun _ _ _ va _=>s.size - intN va)
 case atStart=>exact ⟨[],0,1,1,Nat.zero_le _,rfl,rfl,rfl,Nat.le_refl _,by omega,by omega,Nat.le_refl _,HX0,Lib.hid (World.ownsRow_nil _ _ _ _),HB0⟩
 case round =>
  clear HX0 HB0 t1
  obtain ⟨M,q,pl,pc,hq,rfl,rfl,rfl,hM,hpl,hpc,hpc1,HX,HO,HB⟩:=hrel
  obtain ⟨oa,oc,rfl⟩:=cs_own HO.out
  obtain ⟨m,hm⟩:∃ m,m=M.length:=⟨_,rfl⟩
  rw [← hm] at HO hM ⊢
  have HM:=Lib.hid hm
  obtain ⟨x,hx⟩:∃ x,x=s.extract q s.size:=⟨_,rfl⟩
  have hxl:x.data.toList=l0.drop q:=by rw [hx,cs_drop,← HL0.out]
  have hxs:x.size=s.size - q:=by rw [hx,lx_drop_len]
  obtain ⟨k,hk⟩:∃ k,k=blankN (l0.drop q) false:=⟨_,rfl⟩
  have hkx:k ≤ x.size:=by rw [hk,cs_size,hxl]; exact blank_le _ _
  have HG:=Lib.hid (fun w1=>lxBlank_calls x w1 (by omega))
  rw [hxl,← hk,hx] at HG
  have hkq:q + k ≤ s.size:=by omega
  have HK:=Lib.hid hk
  clear hk hm hxl hxs hkx hx x
  go_wp2_with fail
  refine (HG.out _).mono ?_
  rintro e w1 ⟨rfl,hw1⟩
  subst hw1
  go_wp2_with fail
  go_loopw [7,8,11] (fun vl vc vi w1=>∃ (d ll cc:Nat),d ≤ k ∧ vi=.int .i64 ((q + d:Nat)) ∧ vl=.int .i64 ll ∧ vc=.int .i64 cc ∧ ll ≤ pl + d ∧ cc ≤ pc + d ∧ 1 ≤ cc ∧ Hid ((ll,cc)=adv ((l0.drop q).take d) (pl,pc)) ∧ wr=w1) (fun _ _ vi _=>q + k - intN vi)
  case atStart=>exact ⟨0,pl,pc,Nat.zero_le _,rfl,rfl,rfl,Nat.le_refl _,Nat.le_refl _,hpc1,Lib.hid rfl,rfl⟩
  case round =>
   obtain ⟨d,ll,cc,hd,rfl,rfl,rfl,hll,hcc,hcc1,HA,rfl⟩:=hrel
   by_cases hdk:d < k
   case pos =>
    obtain ⟨i,hi⟩:∃ i,i=q + d:=⟨_,rfl⟩
    have his:i < s.size:=by omega
    have hat:(l0.drop q)[d]? = some s[i]:=by rw [List.getElem?_drop,← hi,HL0.out]; exact cs_at s i his
    have b10:=cs_beq s[i] 10 (by omega)
    have hti:decide (q + d < q + k)=true:=by simpa using hdk
    have hti2:decide (i < q + k)=true:=by rw [hi]; exact hti
    have hI:=Lib.hid hi
    have hAm:=adv_more hat (pl,pc)
    rw [← HA.out] at hAm
    simp only at hAm
    rw [← hi]
    by_cases h10:s[i]=10
    ·have HA2:Hid ((ll + 1,1)=adv ((l0.drop q).take (d + 1)) (pl,pc)):=Lib.hid (by rw [hAm,if_pos h10])
     have t10:((s[i].toNat:Int) == 10)=true:=b10.trans (by rw [h10]; rfl)
     have hik:i + 1=q + (d + 1):=by omega
     have hIK:=Lib.hid hik
     have hb1:i + 1 ≤ 65536:=by omega
     have hb2:i < q + k:=by omega
     clear b10 hat hAm h10 hi hti hik
     go_wp2_with fail
     go_roundw
     case rel=>exact ⟨d + 1,ll + 1,1,hdk,by rw [← hIK.out]; go_num,by go_num,rfl,by omega,by omega,Nat.le_refl _,HA2,trivial⟩
     case measure=>have:=hI.out; simp [intN]; omega
    ·have HA2:Hid ((ll,cc + 1)=adv ((l0.drop q).take (d + 1)) (pl,pc)):=Lib.hid (by rw [hAm,if_neg h10])
     have t10:((s[i].toNat:Int) == 10)=false:=b10.trans (by simpa using h10)
     have hik:i + 1=q + (d + 1):=by omega
     have hIK:=Lib.hid hik
     have hb1:i + 1 ≤ 65536:=by omega
     have hb2:i < q + k:=by omega
     clear b10 hat hAm h10 hi hti hik
     go_wp2_with fail
     go_roundw
     case rel=>exact ⟨d + 1,ll,cc + 1,hdk,by rw [← hIK.out]; go_num,rfl,by go_num,by omega,by omega,by omega,HA2,trivial⟩
     case measure=>have:=hI.out; simp [intN]; omega
   case neg =>
    obtain rfl:d=k:=by omega
    have hti:decide (q + d < q + d)=false:=by simp
    have HD2:Hid (((l0.drop q).drop (blankN (l0.drop q) false)=l0.drop (q + d)) ∧ adv ((l0.drop q).take (blankN (l0.drop q) false)) (pl,pc)=(ll,cc)):=Lib.hid ⟨by rw [← HK.out,List.drop_drop],by rw [← HK.out]; exact HA.out.symm⟩
    by_cases hend:q + d=s.size
    case pos =>
     have HR:Hid (tokL l0=.ok M):=Lib.hid (by
      rw [HV.out]
      refine tokX_end HX.out (stepT_none ?_)
      rw [HD2.out.1,hend,HLn.out]
      exact List.drop_eq_nil_iff.2 (Nat.le_refl _))
     have hte:((q:Int) + (d:Int) == (s.size:Int))=true:=by rw [beq_iff_eq]; omega
     clear hend HD2
     go_wp2_with fail
     refine bodyPost_ret (cs_result4 rfl _ _ _) rfl ?_
     obtain ⟨a2,c2,e2,hin⟩:=own_tkin (by rw [← HM.out]; exact HO.out)
     rw [← HM.out] at e2
     cases e2
     exact refA_ok HR.out ⟨oa,oc,by rw [← HM.out]; rfl,hin⟩ HB.out
    case neg =>
     have hte:((q:Int) + (d:Int) == (s.size:Int))=false:=by rw [beq_eq_false_iff_ne]; omega
     have HD:Hid ((l0.drop q).drop (blankN (l0.drop q) false) ≠ []):=Lib.hid (by
      rw [HD2.out.1]
      intro e
      have:=List.drop_eq_nil_iff.1 e
      rw [← HLn.out] at this
      omega)
     obtain ⟨l2,hl2⟩:∃ l2,l2=l0.drop (q + d):=⟨_,rfl⟩
     rw [← hl2] at HD2
     have hxl:(s.extract (q + d) s.size).data.toList=l2:=by rw [cs_drop,← HL0.out,hl2]
     have hxs:(s.extract (q + d) s.size).size=s.size - (q + d):=lx_drop_len _ _
     have HFst:=Lib.hid (fun w1=>refFirst_calls (s.extract (q + d) s.size) w1 (by omega) (by omega))
     rw [hxl] at HFst
     have hl2s:l2.length=s.size - (q + d):=by rw [← hxl,← cs_size,hxs]
     have HL2:=Lib.hid hl2
     clear hend hxl hxs hl2
     cases hf:firstT l2 with
     | error er =>
      rw [hf] at HFst
      have hne:=lx_first_err hf
      have HE:Hid (tokL l0=.error (er,ll,cc)):=Lib.hid (by
       rw [HV.out]
       have h:=tokX_bad HX.out (stepT_err (p:=(pl,pc)) HD.out (by rw [HD2.out.1]; exact hf))
       rw [HD2.out.2] at h
       exact h)
      simp only [firstV,cutW] at HFst
      have ter:((er:Int) == 0)=false:=by rw [beq_eq_false_iff_ne]; omega
      have ter2:((er:Int) != 0)=true:=by rw [bne,ter]; rfl
      clear hf hne hl2s
      go_wp2_with fail
      refine (HFst.out _).mono ?_
      rintro e w5 ⟨rfl,k5⟩
      have HB5:=Lib.hid (HB.out.trans (k5.mono HB.out.size))
      clear k5 HFst
      go_wp2_with fail
      refine bodyPost_ret (cs_result4 rfl _ _ _) rfl (refA_no HE.out rfl (HB5.out.alloc HB5.out.size _))
     | ok z =>
      obtain ⟨kk,t,n⟩:=z
      rw [hf] at HFst
      simp only [firstV,cutW] at HFst
      obtain ⟨hta,htp,htl⟩:=tok_adv hf (ll,cc)
      have HXn:Hid (tokX l0 (M ++ [⟨kk,t,ll,cc⟩]) (l0.drop (q + d + n)) (ll,cc + n)):=Lib.hid (by
       have h:=tokX_more HX.out (stepT_ok (p:=(pl,pc)) HD.out (by rw [HD2.out.1]; exact hf))
       rw [HD2.out.1,HD2.out.2,HL2.out,List.drop_drop] at h
       exact h)
      have r1:q + d + n ≤ s.size:=by omega
      have r2:m + 1 ≤ q + d + n:=by omega
      have r3:ll ≤ 1 + (q + d + n):=by omega
      have r4:cc + n ≤ 1 + (q + d + n):=by omega
      have r5:1 ≤ cc + n:=by omega
      have r6:q < q + d + n:=by omega
      have r7:q + d ≤ 65536:=by omega
      have HM9:Hid ((M ++ [(⟨kk,t,ll,cc⟩:Tk)]).length=m + 1):=Lib.hid (by rw [List.length_append,← HM.out]; rfl)
      clear hf hta htp htl hl2s
      go_wp2_with fail
      refine (HFst.out _).mono ?_
      rintro e w5 ⟨rfl,k5⟩
      have HB5:=Lib.hid (HB.out.trans (k5.mono HB.out.size))
      have HO5:=Lib.hid (cs_ownBelow HO.out k5)
      clear k5 HFst HO HB
      go_wp2_with (at_builtin; refine wpList_append_own _ rfl _ _ 29 rfl w.heap.size 37 i0 (.agg #[.int .i64 0,.string ⟨#[]⟩,.int .i64 0,.int .i64 0]) 4 40 Tryz.underlying29 HI.out HZ0.out HZ1.out HZ2.out rfl (by decide) _ _ _ rfl ((HO5.out.alloc _).alloc _) _ 1 1 (tkC ⟨kk,t,ll,cc⟩) rfl rfl ?c1 ?c2 ?c3 ?c4 ?c5 ?_)
      case c1=>exact tk_new2 w5 _ ⟨kk,t,ll,cc⟩ _
      case c2=>intro u hu; simp [tkC] at hu; rcases hu with rfl | rfl | rfl | rfl <;> rfl
      case c3=>unfold maxLen; omega
      case c4=>omega
      case c5=>have:=HB5.out.size; simp; omega
      intro v' w8 hown' hgrow _
      have hW8:w.heap.size ≤ ((w5.alloc (.cells #[.int .i64 (kk:Nat),.string ⟨t.toArray⟩,.int .i64 (ll:Nat),.int .i64 (cc:Nat)] 37)).alloc (.cells #[.int .i64 (kk:Nat),.string ⟨t.toArray⟩,.int .i64 (ll:Nat),.int .i64 (cc:Nat)] 37)).heap.size:=by have:=HB5.out.size; simp; omega
      have hB8:=((HB5.out.alloc HB5.out.size (.cells #[.int .i64 (kk:Nat),.string ⟨t.toArray⟩,.int .i64 (ll:Nat),.int .i64 (cc:Nat)] 37)).alloc (by have:=HB5.out.size; simp; omega) (.cells #[.int .i64 (kk:Nat),.string ⟨t.toArray⟩,.int .i64 (ll:Nat),.int .i64 (cc:Nat)] 37)).grown hgrow hW8 (fun k hk=>(HO5.out.lt k hk).1)
      have hO8:w8.ownsRow w.heap.size 37 4 v' (m + 1) (tkCs (M ++ [⟨kk,t,ll,cc⟩])):=by rw [tkCs_snoc]; exact hown'
      obtain ⟨va,vc,rfl⟩:=cs_own hO8
      have HO8:=Lib.hid hO8
      have HB8:=Lib.hid hB8
      clear hW8 hB8 hO8 hown' hgrow HO5 HB5
      go_wp2_with fail
      go_roundw
      case rel=>exact ⟨M ++ [⟨kk,t,ll,cc⟩],q + d + n,ll,cc + n,r1,by go_num,rfl,by go_num,by rw [HM9.out]; exact r2,r3,r4,r5,HXn,Lib.hid (by rw [HM9.out]; exact HO8.out),HB8⟩
      case measure=>simp [intN]; omega
end Go.Proofs.YtmknmmbfaljkbaaGreatDoor
