/- paclaim: NumRefForm NumRefMul NumRefNumber -/
import Derived.Test.YtmknmmbfaljkbaaGreatDoorLowNum
import Derived.Test.YtmknmmbfaljkbaaGreatDoorBase
import Derived.Test.YtmknmmbfaljkbaaGreatDoorLowMath
import Derived.WalkSpells
import Derived.WalkLawsBesides
import Derived.Lib.Hide
namespace Go.Proofs.YtmknmmbfaljkbaaGreatDoor
open Go.RowKit
def fromOf (l:List UInt8):Nat:=if l.head? = some 45 then 1 else 0
theorem mag_drop (l:List UInt8):mag l=l.drop (fromOf l):=by
 unfold mag fromOf; split
 ·rw [List.drop_one]
 ·rfl
theorem fromOf_le (l:List UInt8):fromOf l ≤ 1:=by unfold fromOf; split <;> omega
theorem form_of (l:List UInt8) (h0:mag l ≠ []) (h48:¬ ((mag l).head? = some 48 ∧ 1 < l.length)):formB l=(mag l).all isD:=by
 unfold formB
 have he:(mag l).isEmpty=false:=by
  cases hm:mag l with
  | nil=>exact absurd hm h0
  | cons a r=>rfl
 rw [he]
 by_cases hh:(mag l).head? = some 48
 ·rw [if_pos hh]
  have h1:l.length ≤ 1:=by
   rcases Nat.lt_or_ge 1 l.length with hc | hc
   ·exact absurd ⟨hh,hc⟩ h48
   ·exact hc
  cases l with
  | nil=>exact absurd rfl h0
  | cons a r =>
   have hr:r=[]:=by
    cases r with
    | nil=>rfl
    | cons b t=>simp at h1
   subst hr
   by_cases ha:a=45
   ·subst ha; exact absurd rfl h0
   ·have em:mag [a]=[a]:=if_neg (fun e=>ha (Option.some.inj e))
    rw [em] at hh ⊢
    obtain rfl:a=48:=Option.some.inj hh
    rfl
 ·rw [if_neg hh]; rfl
theorem form_not (l:List UInt8) (h:(mag l).head? = some 48) (h1:1 < l.length):formB l=false:=by
 unfold formB
 rw [if_pos h]
 have:(l == [48])=false:=by
  rw [beq_eq_false_iff_ne]; intro e; subst e; simp at h1
 rw [this,Bool.and_false]
theorem all_drop_take (l:List UInt8) (f k:Nat) (h:k < l.length) (hf:f ≤ k):((l.drop f).take (k + 1 - f)).all isD=(((l.drop f).take (k - f)).all isD && isD l[k]):=by
 have e:k + 1 - f=(k - f) + 1:=by omega
 have hl:k - f < (l.drop f).length:=by rw [List.length_drop]; omega
 rw [e,all_take _ _ hl,List.getElem_drop]
 congr 3
 omega
set_option maxHeartbeats 1000000 in
theorem refForm0_calls (s:ByteArray) (w:World) (hs:s.size ≤ 9223372036854775807) (l:List UInt8) (hl:l=s.data.toList) (hpos:0 < s.size) (tA:((s[0].toNat:Int) == 45)=false) (hmd:mag l=l.drop 0) :
  Calls Tryz.prog 132 #[.string s] w fun e w'=>e=.returned (.bool (formB l)) ∧ w=w':=by
 have hsz:s.size=l.length:=by rw [hl]; exact Lib.size_eq s
 have hidx:∀ k (hk:k < s.size) (hk2:k < l.length),l[k]=s[k]:=fun k hk hk2=>by subst hl; rfl
 have tz:decide ((0:Int) < (s.size:Int))=true:=by simp; omega
 have tC:decide ((s.size:Int) ≤ 0)=false:=decide_eq_false (by omega)
 have hE:¬ s=ByteArray.empty:=fun e=>by rw [e] at hpos; exact absurd hpos (by decide)
 have hne:mag l ≠ []:=by rw [hmd]; intro e; have:=congrArg List.length e; rw [List.length_drop,List.length_nil] at this; omega
 have hhd:(mag l).head? = some s[0]:=by
  rw [hmd,List.head?_drop,List.getElem?_eq_getElem (by omega),hidx 0 (by omega) (by omega)]
 by_cases h48:s[0].toNat=48 ∧ 1 < s.size
 ·have hf:formB l=false:=form_not l (by rw [hhd]; exact congrArg some (UInt8.toNat_inj.1 h48.1)) (by omega)
  rw [hf]
  obtain ⟨g1,g2⟩:=h48
  have tB:decide ((1:Int) < (s.size:Int))=true:=by simp; omega
  have t48:((s[0].toNat:Int) == 48)=true:=by simp; omega
  clear hf hmd hidx hsz hl hne hhd g1
  go_enter Tryz.func132,Tryz.ntmps132
  go_wp2
  go_ret
  exact ⟨rfl,rfl⟩
 have HF:=Lib.hid (form_of l hne (fun h=>h48 ⟨by have:=h.1; rw [hhd] at this; rw [Option.some.inj this]; rfl,by omega⟩))
 rw [hmd] at HF
 have HI:=Lib.hid hidx
 have HZ:=Lib.hid hsz
 clear hidx hsz hl hne hhd hmd
 by_cases hz:s[0].toNat=48
 ·have hno:¬ 1 < s.size:=fun h=>h48 ⟨hz,h⟩
  have tB:decide ((1:Int) < (s.size:Int))=false:=by simp; omega
  have t48:((s[0].toNat:Int) == 48)=true:=by simp; omega
  clear h48 hz
  go_enter Tryz.func132,Tryz.ntmps132
  go_wp2
  go_loop [4] (fun i=>∃ k:Nat,0 ≤ k ∧ k ≤ s.size ∧ i=.int .i64 k ∧ Hid (((l.drop 0).take (k - 0)).all isD=true)) (fun i=>s.size - (intOf i).toNat)
  case atStart=>exact ⟨0,Nat.le_refl _,by omega,rfl,Lib.hid (by rw [Nat.sub_self]; rfl)⟩
  case round =>
   obtain ⟨k,hfk,hk,rfl,HA⟩:=hrel
   by_cases hlt:k < s.size
   ·have hkl:k < l.length:=by rw [← HZ.out]; exact hlt
    have HT:=Lib.hid (all_drop_take l 0 k hkl hfk)
    have HC:Hid (l[k]=s[k]):=Lib.hid (HI.out k hlt hkl)
    by_cases hdig:48 ≤ s[k].toNat ∧ s[k].toNat ≤ 57
    ·obtain ⟨g1,g2⟩:=hdig
     have HN:Hid (((l.drop 0).take (k + 1 - 0)).all isD=true):=Lib.hid (by rw [HT.out,HA.out,HC.out]; simp [isD,g1,g2])
     have t1:decide ((s[k].toNat:Int) < 48)=false:=by simp; omega
     have t2:decide ((57:Int) < (s[k].toNat:Int))=false:=by simp; omega
     clear HC g1 g2
     go_wp2
     go_round
     case rel=>exact ⟨k + 1,by omega,by omega,by go_num,HN⟩
     case measure=>simp [intOf]; omega
    ·have HD:Hid ((l.drop 0).all isD=false):=Lib.hid (all_dead (l.drop 0) (k - 0) (by rw [List.length_drop]; omega) (by
      have e:(l.drop 0)[k - 0]'(by rw [List.length_drop]; omega)=s[k]:=by
       rw [List.getElem_drop,← HC.out]; congr 1; omega
      rw [e]; unfold isD; simpa using hdig))
     by_cases hlow:s[k].toNat < 48
     ·have t1:decide ((s[k].toNat:Int) < 48)=true:=by simp; omega
      clear HC hdig hlow
      go_wp2
      go_ret
      rw [HF.out,HD.out]
      exact ⟨rfl,rfl⟩
     ·have t1:decide ((s[k].toNat:Int) < 48)=false:=by simp; omega
      have t2:decide ((57:Int) < (s[k].toNat:Int))=true:=by simp; omega
      clear HC hdig hlow
      go_wp2
      go_ret
      rw [HF.out,HD.out]
      exact ⟨rfl,rfl⟩
   ·have HX:Hid ((l.drop 0).all isD=true):=Lib.hid (by have:=HA.out; rwa [List.take_of_length_le (by rw [List.length_drop,← HZ.out]; omega)] at this)
    go_wp2
    go_ret
    rw [HF.out,HX.out]
    exact ⟨rfl,rfl⟩
 ·have t48:((s[0].toNat:Int) == 48)=false:=by rw [beq_eq_false_iff_ne]; omega
  clear h48 hz
  go_enter Tryz.func132,Tryz.ntmps132
  go_wp2
  go_loop [4] (fun i=>∃ k:Nat,0 ≤ k ∧ k ≤ s.size ∧ i=.int .i64 k ∧ Hid (((l.drop 0).take (k - 0)).all isD=true)) (fun i=>s.size - (intOf i).toNat)
  case atStart=>exact ⟨0,Nat.le_refl _,by omega,rfl,Lib.hid (by rw [Nat.sub_self]; rfl)⟩
  case round =>
   obtain ⟨k,hfk,hk,rfl,HA⟩:=hrel
   by_cases hlt:k < s.size
   ·have hkl:k < l.length:=by rw [← HZ.out]; exact hlt
    have HT:=Lib.hid (all_drop_take l 0 k hkl hfk)
    have HC:Hid (l[k]=s[k]):=Lib.hid (HI.out k hlt hkl)
    by_cases hdig:48 ≤ s[k].toNat ∧ s[k].toNat ≤ 57
    ·obtain ⟨g1,g2⟩:=hdig
     have HN:Hid (((l.drop 0).take (k + 1 - 0)).all isD=true):=Lib.hid (by rw [HT.out,HA.out,HC.out]; simp [isD,g1,g2])
     have t1:decide ((s[k].toNat:Int) < 48)=false:=by simp; omega
     have t2:decide ((57:Int) < (s[k].toNat:Int))=false:=by simp; omega
     clear HC g1 g2
     go_wp2
     go_round
     case rel=>exact ⟨k + 1,by omega,by omega,by go_num,HN⟩
     case measure=>simp [intOf]; omega
    ·have HD:Hid ((l.drop 0).all isD=false):=Lib.hid (all_dead (l.drop 0) (k - 0) (by rw [List.length_drop]; omega) (by
      have e:(l.drop 0)[k - 0]'(by rw [List.length_drop]; omega)=s[k]:=by
       rw [List.getElem_drop,← HC.out]; congr 1; omega
      rw [e]; unfold isD; simpa using hdig))
     by_cases hlow:s[k].toNat < 48
     ·have t1:decide ((s[k].toNat:Int) < 48)=true:=by simp; omega
      clear HC hdig hlow
      go_wp2
      go_ret
      rw [HF.out,HD.out]
      exact ⟨rfl,rfl⟩
     ·have t1:decide ((s[k].toNat:Int) < 48)=false:=by simp; omega
      have t2:decide ((57:Int) < (s[k].toNat:Int))=true:=by simp; omega
      clear HC hdig hlow
      go_wp2
      go_ret
      rw [HF.out,HD.out]
      exact ⟨rfl,rfl⟩
   ·have HX:Hid ((l.drop 0).all isD=true):=Lib.hid (by have:=HA.out; rwa [List.take_of_length_le (by rw [List.length_drop,← HZ.out]; omega)] at this)
    go_wp2
    go_ret
    rw [HF.out,HX.out]
    exact ⟨rfl,rfl⟩
set_option maxHeartbeats 1000000 in
theorem refForm1_calls (s:ByteArray) (w:World) (hs:s.size ≤ 9223372036854775807) (l:List UInt8) (hl:l=s.data.toList) (hpos:0 < s.size) (tA:((s[0].toNat:Int) == 45)=true) (hmd:mag l=l.drop 1) :
  Calls Tryz.prog 132 #[.string s] w fun e w'=>e=.returned (.bool (formB l)) ∧ w=w':=by
 have hsz:s.size=l.length:=by rw [hl]; exact Lib.size_eq s
 have hidx:∀ k (hk:k < s.size) (hk2:k < l.length),l[k]=s[k]:=fun k hk hk2=>by subst hl; rfl
 have tz:decide ((0:Int) < (s.size:Int))=true:=by simp; omega
 by_cases hone:s.size ≤ 1
 ·have hf:formB l=false:=by
   have:mag l=[]:=by rw [hmd]; exact List.drop_eq_nil_of_le (by omega)
   unfold formB; rw [this]; rfl
  rw [hf]
  have tC:decide ((s.size:Int) ≤ 1)=true:=by simp; omega
  clear hf hmd hidx hsz hl
  go_enter Tryz.func132,Tryz.ntmps132
  go_wp2
  go_ret
  exact ⟨rfl,rfl⟩
 have hbig:1 < s.size:=by omega
 have tC:decide ((s.size:Int) ≤ 1)=false:=by simp; omega
 clear hone
 have hne:mag l ≠ []:=by rw [hmd]; intro e; have:=congrArg List.length e; rw [List.length_drop,List.length_nil] at this; omega
 have hhd:(mag l).head? = some s[1]:=by
  rw [hmd,List.head?_drop,List.getElem?_eq_getElem (by omega),hidx 1 (by omega) (by omega)]
 by_cases h48:s[1].toNat=48 ∧ 1 < s.size
 ·have hf:formB l=false:=form_not l (by rw [hhd]; exact congrArg some (UInt8.toNat_inj.1 h48.1)) (by omega)
  rw [hf]
  obtain ⟨g1,g2⟩:=h48
  have tB:decide ((1:Int) < (s.size:Int))=true:=by simp; omega
  have t48:((s[1].toNat:Int) == 48)=true:=by simp; omega
  clear hf hmd hidx hsz hl hne hhd g1
  go_enter Tryz.func132,Tryz.ntmps132
  go_wp2
  go_ret
  exact ⟨rfl,rfl⟩
 have HF:=Lib.hid (form_of l hne (fun h=>h48 ⟨by have:=h.1; rw [hhd] at this; rw [Option.some.inj this]; rfl,by omega⟩))
 rw [hmd] at HF
 have HI:=Lib.hid hidx
 have HZ:=Lib.hid hsz
 clear hidx hsz hl hne hhd hmd
 by_cases hz:s[1].toNat=48
 ·have hno:¬ 1 < s.size:=fun h=>h48 ⟨hz,h⟩
  have tB:decide ((1:Int) < (s.size:Int))=false:=by simp; omega
  have t48:((s[1].toNat:Int) == 48)=true:=by simp; omega
  exact absurd hbig hno
 ·have t48:((s[1].toNat:Int) == 48)=false:=by rw [beq_eq_false_iff_ne]; omega
  clear h48 hz
  go_enter Tryz.func132,Tryz.ntmps132
  go_wp2
  go_loop [4] (fun i=>∃ k:Nat,1 ≤ k ∧ k ≤ s.size ∧ i=.int .i64 k ∧ Hid (((l.drop 1).take (k - 1)).all isD=true)) (fun i=>s.size - (intOf i).toNat)
  case atStart=>exact ⟨1,Nat.le_refl _,by omega,rfl,Lib.hid (by rw [Nat.sub_self]; rfl)⟩
  case round =>
   obtain ⟨k,hfk,hk,rfl,HA⟩:=hrel
   by_cases hlt:k < s.size
   ·have hkl:k < l.length:=by rw [← HZ.out]; exact hlt
    have HT:=Lib.hid (all_drop_take l 1 k hkl hfk)
    have HC:Hid (l[k]=s[k]):=Lib.hid (HI.out k hlt hkl)
    by_cases hdig:48 ≤ s[k].toNat ∧ s[k].toNat ≤ 57
    ·obtain ⟨g1,g2⟩:=hdig
     have HN:Hid (((l.drop 1).take (k + 1 - 1)).all isD=true):=Lib.hid (by rw [HT.out,HA.out,HC.out]; simp [isD,g1,g2])
     have t1:decide ((s[k].toNat:Int) < 48)=false:=by simp; omega
     have t2:decide ((57:Int) < (s[k].toNat:Int))=false:=by simp; omega
     clear HC g1 g2
     go_wp2
     go_round
     case rel=>exact ⟨k + 1,by omega,by omega,by go_num,HN⟩
     case measure=>simp [intOf]; omega
    ·have HD:Hid ((l.drop 1).all isD=false):=Lib.hid (all_dead (l.drop 1) (k - 1) (by rw [List.length_drop]; omega) (by
      have e:(l.drop 1)[k - 1]'(by rw [List.length_drop]; omega)=s[k]:=by
       rw [List.getElem_drop,← HC.out]; congr 1; omega
      rw [e]; unfold isD; simpa using hdig))
     by_cases hlow:s[k].toNat < 48
     ·have t1:decide ((s[k].toNat:Int) < 48)=true:=by simp; omega
      clear HC hdig hlow
      go_wp2
      go_ret
      rw [HF.out,HD.out]
      exact ⟨rfl,rfl⟩
     ·have t1:decide ((s[k].toNat:Int) < 48)=false:=by simp; omega
      have t2:decide ((57:Int) < (s[k].toNat:Int))=true:=by simp; omega
      clear HC hdig hlow
      go_wp2
      go_ret
      rw [HF.out,HD.out]
      exact ⟨rfl,rfl⟩
   ·have HX:Hid ((l.drop 1).all isD=true):=Lib.hid (by have:=HA.out; rwa [List.take_of_length_le (by rw [List.length_drop,← HZ.out]; omega)] at this)
    go_wp2
    go_ret
    rw [HF.out,HX.out]
    exact ⟨rfl,rfl⟩
theorem refForm_calls (s:ByteArray) (w:World) (hs:s.size ≤ 9223372036854775807) :
  Calls Tryz.prog 132 #[.string s] w fun e w'=>e=.returned (.bool (formB s.data.toList)) ∧ w=w':=by
 by_cases hz:s.size=0
 ·obtain rfl:s=⟨#[]⟩:=by
   obtain ⟨⟨d⟩⟩:=s
   have:d=[]:=List.length_eq_zero_iff.1 hz
   rw [this]
  rw [show formB (⟨#[]⟩:ByteArray).data.toList=false from rfl]
  go_enter Tryz.func132,Tryz.ntmps132
  go_wp2
  go_ret
  exact ⟨rfl,rfl⟩
 ·have hpos:0 < s.size:=by omega
  have hmd:=mag_drop s.data.toList
  have hhead:s.data.toList.head? = some s[0]:=by
   rw [List.head?_eq_getElem?,List.getElem?_eq_getElem (by rw [← Lib.size_eq]; exact hpos)]; rfl
  by_cases hc:s[0]=45
  ·have hfr:fromOf s.data.toList=1:=by unfold fromOf; rw [hhead,hc,if_pos rfl]
   rw [hfr] at hmd
   exact refForm1_calls s w hs _ rfl hpos (by rw [hc]; rfl) hmd
  ·have hfr:fromOf s.data.toList=0:=by unfold fromOf; rw [hhead,if_neg (fun e=>hc (Option.some.inj e))]
   rw [hfr] at hmd
   refine refForm0_calls s w hs _ rfl hpos ?_ hmd
   rw [beq_eq_false_iff_ne]
   intro e
   exact hc (UInt8.toNat_inj.1 (by have:(45:UInt8).toNat=45:=rfl; omega))
set_option maxHeartbeats 400000 in
theorem refSub_calls (a b:Int) (w:World) (ha:-9223372036854775808 ≤ a ∧ a ≤ 9223372036854775807) (hb:-9223372036854775808 ≤ b ∧ b ≤ 9223372036854775807) :
  Calls Tryz.prog 134 #[.int .i64 a,.int .i64 b] w fun e w'=>e=.returned (.tuple #[.int .i64 (tn (a - b)),.bool (tb (a - b))]) ∧ w=w':=by
 obtain ⟨ha1,ha2⟩:=ha
 obtain ⟨hb1,hb2⟩:=hb
 by_cases h:-9223372036854775808 ≤ a - b ∧ a - b ≤ 9223372036854775807
 ·obtain ⟨h1,h2⟩:=h
  rw [tn_yes h1 h2,tb_yes h1 h2]
  by_cases hp:0 < b
  ·have t1:decide (0 < b)=true:=by simp; omega
   have t2:decide (b < 0)=false:=by simp; omega
   have t3:decide (a < -9223372036854775808 + b)=false:=by simp; omega
   go_enter Tryz.func134,Tryz.ntmps134
   go_wp2
   go_ret2
   exact ⟨rfl,rfl⟩
  ·by_cases hq:b < 0
   ·have t1:decide (0 < b)=false:=by simp; omega
    have t2:decide (b < 0)=true:=by simp; omega
    have t3:decide (9223372036854775807 + b < a)=false:=by simp; omega
    go_enter Tryz.func134,Tryz.ntmps134
    go_wp2
    go_ret2
    exact ⟨rfl,rfl⟩
   ·have t1:decide (0 < b)=false:=by simp; omega
    have t2:decide (b < 0)=false:=by simp; omega
    go_enter Tryz.func134,Tryz.ntmps134
    go_wp2
    go_ret2
    exact ⟨rfl,rfl⟩
 ·rw [tn_no h,tb_no h]
  by_cases hp:0 < b
  ·have t1:decide (0 < b)=true:=by simp; omega
   have t2:decide (b < 0)=false:=by simp; omega
   have t3:decide (a < -9223372036854775808 + b)=true:=by simp; omega
   go_enter Tryz.func134,Tryz.ntmps134
   go_wp2
   go_ret2
   exact ⟨rfl,rfl⟩
  ·have t1:decide (0 < b)=false:=by simp; omega
   have t2:decide (b < 0)=true:=by simp; omega
   have t3:decide (9223372036854775807 + b < a)=true:=by simp; omega
   go_enter Tryz.func134,Tryz.ntmps134
   go_wp2
   go_ret2
   exact ⟨rfl,rfl⟩
theorem refSub0_calls (a:Int) (w:World) (ha:-9223372036854775808 ≤ a ∧ a ≤ 9223372036854775807) :
  Calls Tryz.prog 134 #[.int .i64 0,.int .i64 a] w fun e w'=>e=.returned (.tuple #[.int .i64 (tn (-a)),.bool (tb (-a))]) ∧ w=w':=by
 have h:=refSub_calls 0 a w ⟨by omega,by omega⟩ ha
 rwa [Int.zero_sub] at h
set_option maxHeartbeats 1000000 in
theorem refMul_calls (a b:Int) (w:World) (ha:-9223372036854775808 ≤ a ∧ a ≤ 9223372036854775807) (hb:-9223372036854775808 ≤ b ∧ b ≤ 9223372036854775807) :
  Calls Tryz.prog 133 #[.int .i64 a,.int .i64 b] w fun e w'=>e=.returned (.tuple #[.int .i64 (tn (a * b)),.bool (tb (a * b))]) ∧ w=w':=by
 by_cases a0:a=0
 ·subst a0
  rw [Int.zero_mul,tn_yes (by omega) (by omega),tb_yes (by omega) (by omega)]
  clear ha hb
  go_enter Tryz.func133,Tryz.ntmps133
  go_wp2
  go_ret2
  exact ⟨rfl,rfl⟩
 have ta0:(a == 0)=false:=by simpa using a0
 by_cases b0:b=0
 ·subst b0
  rw [Int.mul_zero,tn_yes (by omega) (by omega),tb_yes (by omega) (by omega)]
  clear ha hb a0
  go_enter Tryz.func133,Tryz.ntmps133
  go_wp2
  go_ret2
  exact ⟨rfl,rfl⟩
 have tb0:(b == 0)=false:=by simpa using b0
 by_cases a1:a=-1
 ·subst a1
  rw [show (-1:Int) * b=-b by omega]
  clear ha a0 b0 ta0
  go_enter Tryz.func133,Tryz.ntmps133
  go_wp2_with (go_at_call 134; refine (refSub0_calls b _ hb).mono ?_; rintro e w' ⟨rfl,rfl⟩)
  go_ret2
  exact ⟨rfl,rfl⟩
 have ta1:(a == -1)=false:=by simpa using a1
 by_cases b1:b=-1
 ·subst b1
  rw [show a * (-1:Int)=-a by omega]
  clear hb a0 b0 tb0 a1
  go_enter Tryz.func133,Tryz.ntmps133
  go_wp2_with (go_at_call 134; refine (refSub0_calls a _ ha).mono ?_; rintro e w' ⟨rfl,rfl⟩)
  go_ret2
  exact ⟨rfl,rfl⟩
 have tb1:(b == -1)=false:=by simpa using b1
 rcases (show (0 < a ∧ 0 < b) ∨ (0 < a ∧ b < 0) ∨ (a < 0 ∧ 0 < b) ∨ (a < 0 ∧ b < 0) by omega) with ⟨sa,sb⟩ | ⟨sa,sb⟩ | ⟨sa,sb⟩ | ⟨sa,sb⟩
 ·-- 0 < a,0 < b
  have hq:=pos_pos sa sb
  obtain ⟨r1,r2⟩:=tdiv_fits (p:=9223372036854775807) b0 b1 ⟨by omega,by omega⟩
  have s1:decide (0 < a)=true:=by simp; omega
  have s2:decide (a < 0)=false:=by simp; omega
  have s3:decide (0 < b)=true:=by simp; omega
  have s4:decide (b < 0)=false:=by simp; omega
  by_cases h:-9223372036854775808 ≤ a * b ∧ a * b ≤ 9223372036854775807
  ·have t:decide ((9223372036854775807:Int).tdiv b < a)=false:=by rw [decide_eq_false_iff_not,hq]; exact fun x=>x h
   rw [tn_yes h.1 h.2,tb_yes h.1 h.2]
   obtain ⟨p1,p2⟩:=h
   clear hq a0 b0 a1 b1 ha hb
   go_enter Tryz.func133,Tryz.ntmps133
   go_wp2
   go_ret2
   exact ⟨rfl,rfl⟩
  ·have t:decide ((9223372036854775807:Int).tdiv b < a)=true:=by rw [decide_eq_true_iff,hq]; exact h
   rw [tn_no h,tb_no h]
   clear hq a0 b0 a1 b1 ha hb h
   go_enter Tryz.func133,Tryz.ntmps133
   go_wp2
   go_ret2
   exact ⟨rfl,rfl⟩
 ·-- 0 < a,b < 0
  have hq:=pos_neg sa sb
  obtain ⟨r1,r2⟩:=least_fits a0 a1
  have s1:decide (0 < a)=true:=by simp; omega
  have s2:decide (a < 0)=false:=by simp; omega
  have s3:decide (0 < b)=false:=by simp; omega
  have s4:decide (b < 0)=true:=by simp; omega
  by_cases h:-9223372036854775808 ≤ a * b ∧ a * b ≤ 9223372036854775807
  ·have t:decide (b < -(9223372036854775808:Int).tdiv a)=false:=by rw [decide_eq_false_iff_not,hq]; exact fun x=>x h
   rw [tn_yes h.1 h.2,tb_yes h.1 h.2]
   obtain ⟨p1,p2⟩:=h
   clear hq a0 b0 a1 b1 ha hb
   go_enter Tryz.func133,Tryz.ntmps133
   go_wp2
   go_ret2
   exact ⟨rfl,rfl⟩
  ·have t:decide (b < -(9223372036854775808:Int).tdiv a)=true:=by rw [decide_eq_true_iff,hq]; exact h
   rw [tn_no h,tb_no h]
   clear hq a0 b0 a1 b1 ha hb h
   go_enter Tryz.func133,Tryz.ntmps133
   go_wp2
   go_ret2
   exact ⟨rfl,rfl⟩
 ·-- a < 0,0 < b
  have hq:=neg_pos sa sb
  obtain ⟨r1,r2⟩:=least_fits b0 b1
  have s1:decide (0 < a)=false:=by simp; omega
  have s2:decide (a < 0)=true:=by simp; omega
  have s3:decide (0 < b)=true:=by simp; omega
  have s4:decide (b < 0)=false:=by simp; omega
  by_cases h:-9223372036854775808 ≤ a * b ∧ a * b ≤ 9223372036854775807
  ·have t:decide (a < -(9223372036854775808:Int).tdiv b)=false:=by rw [decide_eq_false_iff_not,hq]; exact fun x=>x h
   rw [tn_yes h.1 h.2,tb_yes h.1 h.2]
   obtain ⟨p1,p2⟩:=h
   clear hq a0 b0 a1 b1 ha hb
   go_enter Tryz.func133,Tryz.ntmps133
   go_wp2
   go_ret2
   exact ⟨rfl,rfl⟩
  ·have t:decide (a < -(9223372036854775808:Int).tdiv b)=true:=by rw [decide_eq_true_iff,hq]; exact h
   rw [tn_no h,tb_no h]
   clear hq a0 b0 a1 b1 ha hb h
   go_enter Tryz.func133,Tryz.ntmps133
   go_wp2
   go_ret2
   exact ⟨rfl,rfl⟩
 ·-- a < 0,b < 0
  have hq:=neg_neg sa sb
  obtain ⟨r1,r2⟩:=tdiv_fits (p:=9223372036854775807) b0 b1 ⟨by omega,by omega⟩
  have s1:decide (0 < a)=false:=by simp; omega
  have s2:decide (a < 0)=true:=by simp; omega
  have s3:decide (0 < b)=false:=by simp; omega
  have s4:decide (b < 0)=true:=by simp; omega
  by_cases h:-9223372036854775808 ≤ a * b ∧ a * b ≤ 9223372036854775807
  ·have t:decide (a < (9223372036854775807:Int).tdiv b)=false:=by rw [decide_eq_false_iff_not,hq]; exact fun x=>x h
   rw [tn_yes h.1 h.2,tb_yes h.1 h.2]
   obtain ⟨p1,p2⟩:=h
   clear hq a0 b0 a1 b1 ha hb
   go_enter Tryz.func133,Tryz.ntmps133
   go_wp2
   go_ret2
   exact ⟨rfl,rfl⟩
  ·have t:decide (a < (9223372036854775807:Int).tdiv b)=true:=by rw [decide_eq_true_iff,hq]; exact h
   rw [tn_no h,tb_no h]
   clear hq a0 b0 a1 b1 ha hb h
   go_enter Tryz.func133,Tryz.ntmps133
   go_wp2
   go_ret2
   exact ⟨rfl,rfl⟩
theorem dv_drop_take (l:List UInt8) (f k:Nat) (h:k < l.length) (hf:f ≤ k):dv 0 ((l.drop f).take (k + 1 - f))=dv 0 ((l.drop f).take (k - f)) * 10 + (l[k].toNat - 48):=by
 have e:k + 1 - f=(k - f) + 1:=by omega
 have hl:k - f < (l.drop f).length:=by rw [List.length_drop]; omega
 have e2:(l.drop f)[k - f]=l[k]:=by rw [List.getElem_drop]; congr 1; omega
 rw [e,List.take_succ_eq_append_getElem hl,dv_snoc,e2]
theorem digit_in (l:List UInt8) (f k:Nat) (h:k < l.length) (hf:f ≤ k) (hd:(l.drop f).all isD=true):48 ≤ l[k].toNat ∧ l[k].toNat ≤ 57:=by
 have hl:k - f < (l.drop f).length:=by rw [List.length_drop]; omega
 have e2:(l.drop f)[k - f]=l[k]:=by rw [List.getElem_drop]; congr 1; omega
 have:=List.all_eq_true.1 hd _ (List.getElem_mem hl)
 rw [e2] at this
 simpa [isD] using this
theorem pn_over (l:List UInt8) (h:formB l=true) (k:Nat) (hk:9223372036854775808 < dv 0 ((mag l).take k)):pn l=0 ∧ pe l=5:=by
 have hle:=dv_take_le (mag l) k
 have hno:¬ (-9223372036854775808 ≤ vl l ∧ vl l ≤ 9223372036854775807):=by
  unfold vl; split <;> omega
 unfold pn pe
 rw [if_pos h,if_pos h,tn_no hno,tb_no hno]
 exact ⟨rfl,rfl⟩
theorem pn_end (l:List UInt8) (h:formB l=true):pn l=tn (vl l) ∧ pe l=(if tb (vl l)=true then 0 else 5):=by
 unfold pn pe; rw [if_pos h,if_pos h]; exact ⟨rfl,rfl⟩
set_option maxHeartbeats 1000000 in
theorem refNumber_calls (s:ByteArray) (w:World) (hs:s.size ≤ 9223372036854775807) :
  Calls Tryz.prog 128 #[.string s] w fun e w'=>e=.returned (.tuple #[.int .i64 (pn s.data.toList),.int .i64 (pe s.data.toList)]) ∧ w=w':=by
 have c1:=refForm_calls s w hs
 have hsz:=Lib.size_eq s
 obtain ⟨l,hl⟩:∃ l,l=s.data.toList:=⟨_,rfl⟩
 rw [← hl] at hsz c1 ⊢
 by_cases hform:formB l=true
 ·rw [hform] at c1
  have H1:=Lib.hid c1
  obtain ⟨hne,hdig⟩:=form_digits hform
  have hmd:=mag_drop l
  have hpos:0 < s.size:=by
   rw [hsz]
   rcases Nat.eq_zero_or_pos l.length with h0 | h0
   ·rw [List.length_eq_zero_iff.1 h0] at hne; exact absurd rfl hne
   ·exact h0
  have hidx:∀ k (hk:k < s.size) (hk2:k < l.length),l[k]=s[k]:=fun k hk hk2=>by subst hl; rfl
  have hhead:l.head? = some s[0]:=by
   rw [List.head?_eq_getElem?,List.getElem?_eq_getElem (by omega),hidx 0 hpos (by omega)]
  have hOver:=Lib.hid (pn_over l hform)
  have hEnd:=Lib.hid (pn_end l hform)
  obtain ⟨f,hf⟩:∃ f,f=fromOf l:=⟨_,rfl⟩
  have hf1:f ≤ 1:=by rw [hf]; exact fromOf_le l
  rw [← hf] at hmd
  rw [hmd] at hOver hdig
  have HV:Hid (vl l=if f=1 then -(dv 0 (l.drop f):Int) else (dv 0 (l.drop f):Int)):=by
   refine Lib.hid ?_
   unfold vl; rw [hmd,hf]; unfold fromOf
   by_cases hc:l.head? = some 45
   ·rw [if_pos hc,if_pos hc]; rfl
   ·rw [if_neg hc,if_neg hc]; rfl
  have hs0:(f=1 ∧ ((s[0].toNat:Int) == 45)=true) ∨ (f=0 ∧ ((s[0].toNat:Int) == 45)=false):=by
   rw [hf]; unfold fromOf; rw [hhead]
   by_cases hc:s[0]=45
   ·left; rw [hc]; exact ⟨rfl,rfl⟩
   ·right
    refine ⟨if_neg (fun e=>hc (Option.some.inj e)),?_⟩
    rw [beq_eq_false_iff_ne]
    intro e
    exact hc (UInt8.toNat_inj.1 (by have:(45:UInt8).toNat=45:=rfl; omega))
  have HS:=Lib.hid hs0
  have HI:=Lib.hid hidx
  have HZ:=Lib.hid hsz
  have HD:=Lib.hid hdig
  clear hs0 hidx hsz hdig hmd hf hhead hne hform c1 hl
  go_enter Tryz.func128,Tryz.ntmps128
  go_wp2_with (go_at_call 132; refine H1.out.mono ?_; rintro e w' ⟨rfl,rfl⟩)
  go_loop [4,5] (fun n i=>∃ (k:Nat) (x:Int),k ≤ s.size ∧ i=.int .i64 k ∧ n=.int .i64 x ∧ Hid (x=-(dv 0 ((l.drop f).take (k - f)):Int) ∧ -9223372036854775808 ≤ x ∧ x ≤ 0)) (fun _ i=>s.size - (intOf i).toNat)
  case atStart=>exact ⟨0,0,Nat.zero_le _,rfl,rfl,Lib.hid ⟨by rw [Nat.zero_sub]; rfl,by omega,by omega⟩⟩
  case round =>
   obtain ⟨k,x,hk,rfl,rfl,HX⟩:=hrel
   obtain ⟨x1,x2⟩:=HX.out.2
   by_cases hlt:k < s.size
   ·by_cases hkf:k < f
    ·have t45:((s[k].toNat:Int) == 45)=true:=by
      have h0:k=0:=by omega
      subst h0
      rcases HS.out with ⟨_,h⟩ | ⟨h,_⟩
      ·exact h
      ·omega
     have HN:Hid (x=-(dv 0 ((l.drop f).take (k + 1 - f)):Int) ∧ -9223372036854775808 ≤ x ∧ x ≤ 0):=by
      refine Lib.hid ⟨?_,x1,x2⟩
      rw [show k + 1 - f=k - f by omega]; exact HX.out.1
     clear HX hkf
     go_wp2_with fail
     go_round
     case rel=>exact ⟨k + 1,x,by omega,by go_num,rfl,HN⟩
     case measure=>simp [intOf]; omega
    ·have hfk:f ≤ k:=by omega
     have hkl:k < l.length:=by rw [← HZ.out]; exact hlt
     have hc:=digit_in l f k hkl hfk HD.out
     rw [HI.out k hlt hkl] at hc
     obtain ⟨c1,c2⟩:=hc
     have hstep:=dv_drop_take l f k hkl hfk
     rw [HI.out k hlt hkl] at hstep
     have HO:Hid (9223372036854775808 < dv 0 ((l.drop f).take (k + 1 - f)) → pn l=0 ∧ pe l=5):=Lib.hid (fun h=>hOver.out _ h)
     obtain ⟨D,hD⟩:∃ D,D=dv 0 ((l.drop f).take (k - f)):=⟨_,rfl⟩
     obtain ⟨D2,hD2⟩:∃ D,D=dv 0 ((l.drop f).take (k + 1 - f)):=⟨_,rfl⟩
     have hxD:=HX.out.1
     rw [← hD] at hxD hstep
     rw [← hD2] at hstep HO
     have t45:((s[k].toNat:Int) == 45)=false:=by rw [beq_eq_false_iff_ne]; omega
     have m1:=refMul_calls x 10 w ⟨x1,by omega⟩ ⟨by omega,by omega⟩
     have hb8:s[k].toNat ≤ 255:=by omega
     by_cases hm:-9223372036854775808 ≤ x * 10 ∧ x * 10 ≤ 9223372036854775807
     ·rw [tn_yes hm.1 hm.2,tb_yes hm.1 hm.2] at m1
      have m2:=refSub_calls (x * 10) ((s[k].toNat:Int) - 48) w hm ⟨by omega,by omega⟩
      by_cases hq:-9223372036854775808 ≤ x * 10 - ((s[k].toNat:Int) - 48) ∧ x * 10 - ((s[k].toNat:Int) - 48) ≤ 9223372036854775807
      ·rw [tn_yes hq.1 hq.2,tb_yes hq.1 hq.2] at m2
       obtain ⟨y,hy⟩:∃ y,y=x * 10 - ((s[k].toNat:Int) - 48):=⟨_,rfl⟩
       rw [← hy] at m2 hq
       have HN:Hid (y=-(dv 0 ((l.drop f).take (k + 1 - f)):Int) ∧ -9223372036854775808 ≤ y ∧ y ≤ 0):=by
        refine Lib.hid ⟨?_,hq.1,by omega⟩
        rw [← hD2]; omega
       have M1:=Lib.hid m1
       have M2:=Lib.hid m2
       clear HX hkf hfk hD hD2 hxD hstep HO m1 m2 hm hq hy hkl
       go_wp2_with (first
        | (go_at_call 133; refine M1.out.mono ?_; rintro e w' ⟨rfl,rfl⟩)
        | (go_at_call 134; refine M2.out.mono ?_; rintro e w' ⟨rfl,rfl⟩))
       go_round
       case rel=>exact ⟨k + 1,y,by omega,by go_num,rfl,HN⟩
       case measure=>simp [intOf]; omega
      ·have HE:=Lib.hid (HO.out (by omega))
       rw [tb_no hq] at m2
       have M1:=Lib.hid m1
       have M2:=Lib.hid m2
       clear HX hkf hfk hD hD2 hxD hstep HO m1 m2 hm hq hkl
       go_wp2_with (first
        | (go_at_call 133; refine M1.out.mono ?_; rintro e w' ⟨rfl,rfl⟩)
        | (go_at_call 134; refine M2.out.mono ?_; rintro e w' ⟨rfl,rfl⟩))
       go_ret2
       rw [HE.out.1,HE.out.2]
       exact ⟨rfl,rfl⟩
     ·have HE:=Lib.hid (HO.out (by omega))
      rw [tn_no hm,tb_no hm] at m1
      have m2:=refSub_calls 0 ((s[k].toNat:Int) - 48) w ⟨by omega,by omega⟩ ⟨by omega,by omega⟩
      have M1:=Lib.hid m1
      have M2:=Lib.hid m2
      clear HX hkf hfk hD hD2 hxD hstep HO m1 m2 hm hkl
      go_wp2_with (first
       | (go_at_call 133; refine M1.out.mono ?_; rintro e w' ⟨rfl,rfl⟩)
       | (go_at_call 134; refine M2.out.mono ?_; rintro e w' ⟨rfl,rfl⟩))
      go_ret2
      rw [HE.out.1,HE.out.2]
      exact ⟨rfl,rfl⟩
   ·have hx:x=-(dv 0 (l.drop f):Int):=by
     have:=HX.out.1
     rwa [List.take_of_length_le (by rw [List.length_drop,← HZ.out]; omega)] at this
    have hv:=HV.out
    rcases HS.out with ⟨hf,t0⟩ | ⟨hf,t0⟩
    ·rw [if_pos hf,← hx] at hv
     have HE:Hid (pn l=x ∧ pe l=0):=by
      refine Lib.hid ?_
      rw [hEnd.out.1,hEnd.out.2,hv,tn_yes x1 (by omega),tb_yes x1 (by omega)]
      exact ⟨rfl,rfl⟩
     clear HX hx hv hf
     go_wp2_with fail
     go_ret2
     rw [HE.out.1,HE.out.2]
     exact ⟨rfl,rfl⟩
    ·rw [if_neg (by omega)] at hv
     have hv2:vl l=-x:=by rw [hv,hx]; omega
     have m2:=refSub0_calls x w ⟨x1,by omega⟩
     by_cases hq:-9223372036854775808 ≤ -x ∧ -x ≤ 9223372036854775807
     ·rw [tn_yes hq.1 hq.2,tb_yes hq.1 hq.2] at m2
      have M2:=Lib.hid m2
      have HE:Hid (pn l=-x ∧ pe l=0):=by
       refine Lib.hid ?_
       rw [hEnd.out.1,hEnd.out.2,hv2,tn_yes hq.1 hq.2,tb_yes hq.1 hq.2]
       exact ⟨rfl,rfl⟩
      clear HX hx hv hv2 hf m2 hq
      go_wp2_with (go_at_call 134; refine M2.out.mono ?_; rintro e w' ⟨rfl,rfl⟩)
      go_ret2
      rw [HE.out.1,HE.out.2]
      exact ⟨rfl,rfl⟩
     ·rw [tn_no hq,tb_no hq] at m2
      have M2:=Lib.hid m2
      have HE:Hid (pn l=0 ∧ pe l=5):=by
       refine Lib.hid ?_
       rw [hEnd.out.1,hEnd.out.2,hv2,tn_no hq,tb_no hq]
       exact ⟨rfl,rfl⟩
      clear HX hx hv hv2 hf m2 hq
      go_wp2_with (go_at_call 134; refine M2.out.mono ?_; rintro e w' ⟨rfl,rfl⟩)
      go_ret2
      rw [HE.out.1,HE.out.2]
      exact ⟨rfl,rfl⟩
 ·have hf2:formB l=false:=by simpa using hform
  rw [hf2] at c1
  have H1:=Lib.hid c1
  unfold pn pe
  rw [if_neg hform,if_neg hform]
  clear c1 hform hf2 hl hsz
  go_enter Tryz.func128,Tryz.ntmps128
  go_wp2_with (go_at_call 132; refine H1.out.mono ?_; rintro e w' ⟨rfl,rfl⟩)
  go_ret2
  exact ⟨rfl,rfl⟩
end Go.Proofs.YtmknmmbfaljkbaaGreatDoor
