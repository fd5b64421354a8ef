/- paclaim: ScRefNames -/
import Derived.Test.YtiafhfchjhffhaaGreatDoorLowMath
import Derived.OwnWalk
namespace Go.Proofs.YtiafhfchjhffhaaGreatDoor
open Go.RowKit
set_option linter.unusedVariables false
theorem eq95_iff (c:UInt8):(c == 95)=true ↔ c.toNat=95:=by
 rw [beq_iff_eq]
 constructor
 ·rintro rfl; rfl
 ·intro h; exact UInt8.toNat_inj.1 h
theorem nameC_iff (c:UInt8):nameC c=true ↔ ((65 ≤ c.toNat ∧ c.toNat ≤ 90) ∨ (97 ≤ c.toNat ∧ c.toNat ≤ 122)) ∨ (48 ≤ c.toNat ∧ c.toNat ≤ 57) ∨ c.toNat=95:=by
 unfold nameC letterB digitB
 rw [Bool.or_eq_true,Bool.or_eq_true,eq95_iff]
 simp only [Bool.or_eq_true,Bool.and_eq_true,decide_eq_true_eq]
 omega
theorem digitB_iff (c:UInt8):digitB c=true ↔ 48 ≤ c.toNat ∧ c.toNat ≤ 57:=by
 unfold digitB
 simp only [Bool.and_eq_true,decide_eq_true_eq]
def spTo (s:ByteArray) (n:Nat):Prop:=namesTo s n ∧ ∀ h:0 < s.size,0 < n → digitB (s[0]'h)=false
theorem spTo_zero (s:ByteArray):spTo s 0:=⟨namesTo_zero s,fun _ h=>by omega⟩
theorem spTo_letter {s:ByteArray} {n:Nat} (h:spTo s n) (hn:n < s.size) (e:nameC s[n]=true) (e2:digitB s[n]=false):spTo s (n + 1) :=
 ⟨namesTo_step h.1 hn e,fun h0 _=>by
  by_cases hz:n=0
  ·subst hz; exact e2
  ·exact h.2 h0 (by omega)⟩
theorem spTo_digit {s:ByteArray} {n:Nat} (h:spTo s n) (hn:n < s.size) (e:nameC s[n]=true) (hz:n ≠ 0):spTo s (n + 1) :=
 ⟨namesTo_step h.1 hn e,fun h0 _=>h.2 h0 (by omega)⟩
theorem spTo_end {s:ByteArray} (h0:0 < s.size) (h1:s.size ≤ 32) (h:spTo s s.size):speltB s=true:=spelt_good h0 h1 (h.2 h0 h0) h.1
set_option maxHeartbeats 4000000 in
theorem refSpelt_calls (s:ByteArray) (w:World) (hs:s.size ≤ 9223372036854775807) :
  Calls Tryz.prog 107 #[.string s] w fun e w'=>e=.returned (.bool (speltB s)) ∧ w=w':=by
 by_cases h0:s.size=0
 ·have HV:Hid (speltB s=false):=Lib.hid (spelt_none h0)
  have he:s=⟨#[]⟩:=sc_eq (t:=[]) (List.length_eq_zero_iff.1 (by rw [← sc_size]; exact h0))
  clear h0 hs
  generalize speltB s=b at HV ⊢
  subst he
  go_enter Tryz.func107,Tryz.ntmps107
  go_wp2_with fail
  go_ret
  exact ⟨by rw [HV.out]; rfl,rfl⟩
 have hp:0 < s.size:=by omega
 have hne:¬ s=ByteArray.empty:=fun e=>by rw [e] at hp; exact absurd hp (by decide)
 have t0:decide ((s.size:Int) < 1)=false:=by simp; omega
 by_cases h1:32 < s.size
 ·have HV:Hid (speltB s=false):=Lib.hid (spelt_long h1)
  have t1:decide ((32:Int) < (s.size:Int))=true:=by simp; omega
  clear h0
  go_enter Tryz.func107,Tryz.ntmps107
  go_wp2_with fail
  go_ret
  exact ⟨by rw [HV.out]; rfl,rfl⟩
 have t1:decide ((32:Int) < (s.size:Int))=false:=by simp; omega
 have HG:Hid (spTo s s.size → speltB s=true):=Lib.hid (spTo_end hp (by omega))
 have H0:=Lib.hid (spTo_zero s)
 have HZ:Hid (digitB (s[0]'hp)=true → speltB s=false):=Lib.hid (spelt_digit hp)
 clear h0
 go_enter Tryz.func107,Tryz.ntmps107
 go_wp2_with fail
 clear t0 t1
 go_loopw [3] (fun i wr=>∃ (n:Nat),n ≤ s.size ∧ i=.int .i64 n ∧ Hid (spTo s n) ∧ w=wr) (fun i _=>s.size - (intOf i).toNat)
 case atStart=>exact ⟨0,by omega,rfl,H0,rfl⟩
 case round =>
  obtain ⟨n,hn,rfl,HX,rfl⟩:=hrel
  by_cases hlt:n < s.size
  case neg =>
   have HV:Hid (speltB s=true):=Lib.hid (HG.out (by rw [← show n=s.size by omega]; exact HX.out))
   go_wp2_with fail
   go_ret
   exact ⟨by rw [HV.out]; rfl,rfl⟩
  case pos =>
   have HSL:=Lib.hid (fun e e2=>spTo_letter HX.out hlt e e2)
   have HSD:=Lib.hid (fun e e2=>spTo_digit HX.out hlt e e2)
   have HB:=Lib.hid (fun e=>spelt_bad (s:=s) hlt e)
   have hN:=nameC_iff s[n]
   have hD:=digitB_iff s[n]
   have h95:=byte95 s[n]
   have hE:=eq95_iff s[n]
   have HZn:Hid (n=0 → digitB s[n]=true → speltB s=false):=Lib.hid (by rintro rfl; exact HZ.out)
   by_cases hr:48 ≤ s[n].toNat ∧ s[n].toNat ≤ 57
   case pos =>
    have ta:decide ((65:Int) ≤ (s[n].toNat:Int))=false:=by rw [decide_eq_false_iff_not]; omega
    have tb:decide ((s[n].toNat:Int) ≤ 90)=true:=by rw [decide_eq_true_eq]; omega
    have tc:decide ((97:Int) ≤ (s[n].toNat:Int))=false:=by rw [decide_eq_false_iff_not]; omega
    have td:decide ((s[n].toNat:Int) ≤ 122)=true:=by rw [decide_eq_true_eq]; omega
    have tf:decide ((s[n].toNat:Int) < 48)=false:=by rw [decide_eq_false_iff_not]; omega
    have tg:decide ((57:Int) < (s[n].toNat:Int))=false:=by rw [decide_eq_false_iff_not]; omega
    have te:((s[n].toNat:Int) == 95)=false:=by rw [h95,Bool.eq_false_iff,Ne,hE]; omega
    by_cases hz:n=0
    ·have HV:Hid (speltB s=false):=Lib.hid (HZn.out hz (hD.2 (by omega)))
     have tz:((n:Int) == 0)=true:=by simp; omega
     clear hz
     clear hN hD h95 hE hr
     go_wp2_with fail
     go_ret
     exact ⟨by rw [HV.out]; rfl,rfl⟩
    ·have HX2:=Lib.hid (HSD.out (hN.2 (by omega)) hz)
     have tz:((n:Int) == 0)=false:=by simp; omega
     clear hz
     clear hN hD h95 hE hr
     go_wp2_with fail
     go_roundw
     case rel=>exact ⟨n + 1,hlt,by go_num,HX2,trivial⟩
     case measure=>simp [intOf]; omega
   case neg =>
    by_cases hr:0 ≤ s[n].toNat ∧ s[n].toNat ≤ 47
    case pos =>
     have ta:decide ((65:Int) ≤ (s[n].toNat:Int))=false:=by rw [decide_eq_false_iff_not]; omega
     have tb:decide ((s[n].toNat:Int) ≤ 90)=true:=by rw [decide_eq_true_eq]; omega
     have tc:decide ((97:Int) ≤ (s[n].toNat:Int))=false:=by rw [decide_eq_false_iff_not]; omega
     have td:decide ((s[n].toNat:Int) ≤ 122)=true:=by rw [decide_eq_true_eq]; omega
     have tf:decide ((s[n].toNat:Int) < 48)=true:=by rw [decide_eq_true_eq]; omega
     have tg:decide ((57:Int) < (s[n].toNat:Int))=false:=by rw [decide_eq_false_iff_not]; omega
     have te:((s[n].toNat:Int) == 95)=false:=by rw [h95,Bool.eq_false_iff,Ne,hE]; omega
     by_cases hz:n=0
     ·have HV:Hid (speltB s=false):=Lib.hid (HB.out (Bool.eq_false_iff.2 (fun e=>by have:=hN.1 e; omega)))
      have tz:((n:Int) == 0)=true:=by simp; omega
      clear hz
      clear hN hD h95 hE hr
      go_wp2_with fail
      go_ret
      exact ⟨by rw [HV.out]; rfl,rfl⟩
     ·have HV:Hid (speltB s=false):=Lib.hid (HB.out (Bool.eq_false_iff.2 (fun e=>by have:=hN.1 e; omega)))
      have tz:((n:Int) == 0)=false:=by simp; omega
      clear hz
      clear hN hD h95 hE hr
      go_wp2_with fail
      go_ret
      exact ⟨by rw [HV.out]; rfl,rfl⟩
    case neg =>
     by_cases hr:58 ≤ s[n].toNat ∧ s[n].toNat ≤ 64
     case pos =>
      have ta:decide ((65:Int) ≤ (s[n].toNat:Int))=false:=by rw [decide_eq_false_iff_not]; omega
      have tb:decide ((s[n].toNat:Int) ≤ 90)=true:=by rw [decide_eq_true_eq]; omega
      have tc:decide ((97:Int) ≤ (s[n].toNat:Int))=false:=by rw [decide_eq_false_iff_not]; omega
      have td:decide ((s[n].toNat:Int) ≤ 122)=true:=by rw [decide_eq_true_eq]; omega
      have tf:decide ((s[n].toNat:Int) < 48)=false:=by rw [decide_eq_false_iff_not]; omega
      have tg:decide ((57:Int) < (s[n].toNat:Int))=true:=by rw [decide_eq_true_eq]; omega
      have te:((s[n].toNat:Int) == 95)=false:=by rw [h95,Bool.eq_false_iff,Ne,hE]; omega
      by_cases hz:n=0
      ·have HV:Hid (speltB s=false):=Lib.hid (HB.out (Bool.eq_false_iff.2 (fun e=>by have:=hN.1 e; omega)))
       have tz:((n:Int) == 0)=true:=by simp; omega
       clear hz
       clear hN hD h95 hE hr
       go_wp2_with fail
       go_ret
       exact ⟨by rw [HV.out]; rfl,rfl⟩
      ·have HV:Hid (speltB s=false):=Lib.hid (HB.out (Bool.eq_false_iff.2 (fun e=>by have:=hN.1 e; omega)))
       have tz:((n:Int) == 0)=false:=by simp; omega
       clear hz
       clear hN hD h95 hE hr
       go_wp2_with fail
       go_ret
       exact ⟨by rw [HV.out]; rfl,rfl⟩
     case neg =>
      by_cases hr:65 ≤ s[n].toNat ∧ s[n].toNat ≤ 90
      case pos =>
       have ta:decide ((65:Int) ≤ (s[n].toNat:Int))=true:=by rw [decide_eq_true_eq]; omega
       have tb:decide ((s[n].toNat:Int) ≤ 90)=true:=by rw [decide_eq_true_eq]; omega
       have tc:decide ((97:Int) ≤ (s[n].toNat:Int))=false:=by rw [decide_eq_false_iff_not]; omega
       have td:decide ((s[n].toNat:Int) ≤ 122)=true:=by rw [decide_eq_true_eq]; omega
       have tf:decide ((s[n].toNat:Int) < 48)=false:=by rw [decide_eq_false_iff_not]; omega
       have tg:decide ((57:Int) < (s[n].toNat:Int))=true:=by rw [decide_eq_true_eq]; omega
       have te:((s[n].toNat:Int) == 95)=false:=by rw [h95,Bool.eq_false_iff,Ne,hE]; omega
       have HX2:=Lib.hid (HSL.out (hN.2 (by omega)) (Bool.eq_false_iff.2 (fun e=>by have:=hD.1 e; omega)))
       clear hN hD h95 hE hr
       go_wp2_with fail
       go_roundw
       case rel=>exact ⟨n + 1,hlt,by go_num,HX2,trivial⟩
       case measure=>simp [intOf]; omega
      case neg =>
       by_cases hr:91 ≤ s[n].toNat ∧ s[n].toNat ≤ 94
       case pos =>
        have ta:decide ((65:Int) ≤ (s[n].toNat:Int))=true:=by rw [decide_eq_true_eq]; omega
        have tb:decide ((s[n].toNat:Int) ≤ 90)=false:=by rw [decide_eq_false_iff_not]; omega
        have tc:decide ((97:Int) ≤ (s[n].toNat:Int))=false:=by rw [decide_eq_false_iff_not]; omega
        have td:decide ((s[n].toNat:Int) ≤ 122)=true:=by rw [decide_eq_true_eq]; omega
        have tf:decide ((s[n].toNat:Int) < 48)=false:=by rw [decide_eq_false_iff_not]; omega
        have tg:decide ((57:Int) < (s[n].toNat:Int))=true:=by rw [decide_eq_true_eq]; omega
        have te:((s[n].toNat:Int) == 95)=false:=by rw [h95,Bool.eq_false_iff,Ne,hE]; omega
        by_cases hz:n=0
        ·have HV:Hid (speltB s=false):=Lib.hid (HB.out (Bool.eq_false_iff.2 (fun e=>by have:=hN.1 e; omega)))
         have tz:((n:Int) == 0)=true:=by simp; omega
         clear hz
         clear hN hD h95 hE hr
         go_wp2_with fail
         go_ret
         exact ⟨by rw [HV.out]; rfl,rfl⟩
        ·have HV:Hid (speltB s=false):=Lib.hid (HB.out (Bool.eq_false_iff.2 (fun e=>by have:=hN.1 e; omega)))
         have tz:((n:Int) == 0)=false:=by simp; omega
         clear hz
         clear hN hD h95 hE hr
         go_wp2_with fail
         go_ret
         exact ⟨by rw [HV.out]; rfl,rfl⟩
       case neg =>
        by_cases hr:95 ≤ s[n].toNat ∧ s[n].toNat ≤ 95
        case pos =>
         have ta:decide ((65:Int) ≤ (s[n].toNat:Int))=true:=by rw [decide_eq_true_eq]; omega
         have tb:decide ((s[n].toNat:Int) ≤ 90)=false:=by rw [decide_eq_false_iff_not]; omega
         have tc:decide ((97:Int) ≤ (s[n].toNat:Int))=false:=by rw [decide_eq_false_iff_not]; omega
         have td:decide ((s[n].toNat:Int) ≤ 122)=true:=by rw [decide_eq_true_eq]; omega
         have tf:decide ((s[n].toNat:Int) < 48)=false:=by rw [decide_eq_false_iff_not]; omega
         have tg:decide ((57:Int) < (s[n].toNat:Int))=true:=by rw [decide_eq_true_eq]; omega
         have te:((s[n].toNat:Int) == 95)=true:=by rw [h95,hE]; omega
         have HX2:=Lib.hid (HSL.out (hN.2 (by omega)) (Bool.eq_false_iff.2 (fun e=>by have:=hD.1 e; omega)))
         clear hN hD h95 hE hr
         go_wp2_with fail
         go_roundw
         case rel=>exact ⟨n + 1,hlt,by go_num,HX2,trivial⟩
         case measure=>simp [intOf]; omega
        case neg =>
         by_cases hr:96 ≤ s[n].toNat ∧ s[n].toNat ≤ 96
         case pos =>
          have ta:decide ((65:Int) ≤ (s[n].toNat:Int))=true:=by rw [decide_eq_true_eq]; omega
          have tb:decide ((s[n].toNat:Int) ≤ 90)=false:=by rw [decide_eq_false_iff_not]; omega
          have tc:decide ((97:Int) ≤ (s[n].toNat:Int))=false:=by rw [decide_eq_false_iff_not]; omega
          have td:decide ((s[n].toNat:Int) ≤ 122)=true:=by rw [decide_eq_true_eq]; omega
          have tf:decide ((s[n].toNat:Int) < 48)=false:=by rw [decide_eq_false_iff_not]; omega
          have tg:decide ((57:Int) < (s[n].toNat:Int))=true:=by rw [decide_eq_true_eq]; omega
          have te:((s[n].toNat:Int) == 95)=false:=by rw [h95,Bool.eq_false_iff,Ne,hE]; omega
          by_cases hz:n=0
          ·have HV:Hid (speltB s=false):=Lib.hid (HB.out (Bool.eq_false_iff.2 (fun e=>by have:=hN.1 e; omega)))
           have tz:((n:Int) == 0)=true:=by simp; omega
           clear hz
           clear hN hD h95 hE hr
           go_wp2_with fail
           go_ret
           exact ⟨by rw [HV.out]; rfl,rfl⟩
          ·have HV:Hid (speltB s=false):=Lib.hid (HB.out (Bool.eq_false_iff.2 (fun e=>by have:=hN.1 e; omega)))
           have tz:((n:Int) == 0)=false:=by simp; omega
           clear hz
           clear hN hD h95 hE hr
           go_wp2_with fail
           go_ret
           exact ⟨by rw [HV.out]; rfl,rfl⟩
         case neg =>
          by_cases hr:97 ≤ s[n].toNat ∧ s[n].toNat ≤ 122
          case pos =>
           have ta:decide ((65:Int) ≤ (s[n].toNat:Int))=true:=by rw [decide_eq_true_eq]; omega
           have tb:decide ((s[n].toNat:Int) ≤ 90)=false:=by rw [decide_eq_false_iff_not]; omega
           have tc:decide ((97:Int) ≤ (s[n].toNat:Int))=true:=by rw [decide_eq_true_eq]; omega
           have td:decide ((s[n].toNat:Int) ≤ 122)=true:=by rw [decide_eq_true_eq]; omega
           have tf:decide ((s[n].toNat:Int) < 48)=false:=by rw [decide_eq_false_iff_not]; omega
           have tg:decide ((57:Int) < (s[n].toNat:Int))=true:=by rw [decide_eq_true_eq]; omega
           have te:((s[n].toNat:Int) == 95)=false:=by rw [h95,Bool.eq_false_iff,Ne,hE]; omega
           have HX2:=Lib.hid (HSL.out (hN.2 (by omega)) (Bool.eq_false_iff.2 (fun e=>by have:=hD.1 e; omega)))
           clear hN hD h95 hE hr
           go_wp2_with fail
           go_roundw
           case rel=>exact ⟨n + 1,hlt,by go_num,HX2,trivial⟩
           case measure=>simp [intOf]; omega
          case neg =>
           have hr:123 ≤ s[n].toNat:=by omega
           have ta:decide ((65:Int) ≤ (s[n].toNat:Int))=true:=by rw [decide_eq_true_eq]; omega
           have tb:decide ((s[n].toNat:Int) ≤ 90)=false:=by rw [decide_eq_false_iff_not]; omega
           have tc:decide ((97:Int) ≤ (s[n].toNat:Int))=true:=by rw [decide_eq_true_eq]; omega
           have td:decide ((s[n].toNat:Int) ≤ 122)=false:=by rw [decide_eq_false_iff_not]; omega
           have tf:decide ((s[n].toNat:Int) < 48)=false:=by rw [decide_eq_false_iff_not]; omega
           have tg:decide ((57:Int) < (s[n].toNat:Int))=true:=by rw [decide_eq_true_eq]; omega
           have te:((s[n].toNat:Int) == 95)=false:=by rw [h95,Bool.eq_false_iff,Ne,hE]; omega
           by_cases hz:n=0
           ·have HV:Hid (speltB s=false):=Lib.hid (HB.out (Bool.eq_false_iff.2 (fun e=>by have:=hN.1 e; omega)))
            have tz:((n:Int) == 0)=true:=by simp; omega
            clear hz
            clear hN hD h95 hE hr
            go_wp2_with fail
            go_ret
            exact ⟨by rw [HV.out]; rfl,rfl⟩
           ·have HV:Hid (speltB s=false):=Lib.hid (HB.out (Bool.eq_false_iff.2 (fun e=>by have:=hN.1 e; omega)))
            have tz:((n:Int) == 0)=false:=by simp; omega
            clear hz
            clear hN hD h95 hE hr
            go_wp2_with fail
            go_ret
            exact ⟨by rw [HV.out]; rfl,rfl⟩
theorem word_cells:∀ (n:Nat),n < 22 → wordsV[n]? = some (.string (wordAt n))
 | 0,_=>rfl
 | 1,_=>rfl
 | 2,_=>rfl
 | 3,_=>rfl
 | 4,_=>rfl
 | 5,_=>rfl
 | 6,_=>rfl
 | 7,_=>rfl
 | 8,_=>rfl
 | 9,_=>rfl
 | 10,_=>rfl
 | 11,_=>rfl
 | 12,_=>rfl
 | 13,_=>rfl
 | 14,_=>rfl
 | 15,_=>rfl
 | 16,_=>rfl
 | 17,_=>rfl
 | 18,_=>rfl
 | 19,_=>rfl
 | 20,_=>rfl
 | 21,_=>rfl
 | n + 22,h=>by omega
set_option maxHeartbeats 1000000 in
set_option maxRecDepth 100000 in
theorem refWords_calls (w:World) :
  Calls Tryz.prog 106 #[] w fun e w'=>e=.returned (.slice (some ⟨w.heap.size,0,none⟩) 22 22) ∧ w'=w.alloc (.cells wordsV 9):=by
 go_enter Tryz.func106,Tryz.ntmps106
 go_wp2_with fail
 go_ret
 exact ⟨rfl,rfl⟩
theorem words_lie (w:World) (n:Nat) (h:n < 22):(w.alloc (.cells wordsV 9)).cell? ⟨w.heap.size,n,none⟩=some (.string (wordAt n)):=by
 rw [World.cell?_alloc_at (hn:=rfl)]
 exact word_cells n h
set_option maxHeartbeats 2000000 in
theorem refName_calls (s:ByteArray) (w:World) (hs:s.size ≤ 9223372036854775807) :
  Calls Tryz.prog 45 #[.string s] w fun e w'=>e=.returned (.bool (nameB s)) ∧ Below w.heap.size w w':=by
 have HV0:Hid (nameB s=(speltB s && (!wordB s && !lineB s))):=Lib.hid rfl
 have H1:=Lib.hid (refWords_calls w)
 have H2:=Lib.hid (fun w1=>refSpelt_calls s w1 hs)
 have hb:(s.toList == [95])=lineB s:=by unfold lineB isT; rw [sc_tl ⟨#[95]⟩]
 have H0:Hid (noWord s 0):=Lib.hid (noWord_zero s)
 have HC:=Lib.hid (words_lie w)
 have HB:=Lib.hid ((Below.refl w.heap.size w).alloc (Nat.le_refl _) (.cells wordsV 9))
 have hlt0:w.heap.size < (w.alloc (.cells wordsV 9)).heap.size:=by simp
 clear hs
 generalize lineB s=b3 at hb HV0
 go_enter Tryz.func45,Tryz.ntmps45
 go_wp2_with fail
 refine H1.out.mono ?_
 rintro e w1 ⟨rfl,rfl⟩
 obtain ⟨wq,hwq⟩:∃ wq,wq=w.alloc (.cells wordsV 9):=⟨_,rfl⟩
 rw [← hwq] at HC HB hlt0 ⊢
 clear hwq H1
 go_wp2_with fail
 go_loopw [4] (fun i wr=>∃ (n:Nat),n ≤ 22 ∧ i=.int .i64 n ∧ Hid (noWord s n) ∧ wq=wr) (fun i _=>22 - (intOf i).toNat)
 case atStart=>exact ⟨0,by omega,rfl,H0,rfl⟩
 case round =>
  obtain ⟨n,hn,rfl,HX,rfl⟩:=hrel
  by_cases hlt:n < 22
  case neg =>
   have hw:wordB s=false:=noWord_end (by rw [← show n=22 by omega]; exact HX.out)
   rw [hw] at HV0
   clear hw
   generalize speltB s=b1 at H2 HV0
   cases b1
   ·go_wp2_with fail
    refine (H2.out _).mono ?_
    rintro e w1 ⟨rfl,rfl⟩
    go_wp2_with fail
    go_ret
    exact ⟨by rw [HV0.out]; rfl,HB.out⟩
   ·cases b3
    all_goals
     go_wp2_with fail
     refine (H2.out _).mono ?_
     rintro e w1 ⟨rfl,rfl⟩
     go_wp2_with fail
     go_ret
     exact ⟨by rw [HV0.out]; simp,HB.out⟩
  case pos =>
   have hc:=HC.out n hlt
   cases e:isT s (wordAt n)
   ·have HX2:=Lib.hid (noWord_step HX.out hlt e)
    have t1:((wordAt n).toList == s.toList)=false:=by rw [isT_comm] at e; exact e
    clear e
    generalize wordAt n=x at hc t1
    go_wp2_with fail
    go_roundw
    case rel=>exact ⟨n + 1,hlt,by go_num,HX2,trivial⟩
    case measure=>simp [intOf]; omega
   ·have HV:Hid (nameB s=false):=Lib.hid (by rw [HV0.out,noWord_hit HX.out hlt e]; simp)
    have t1:((wordAt n).toList == s.toList)=true:=by rw [isT_comm] at e; exact e
    clear e
    generalize wordAt n=x at hc t1
    go_wp2_with fail
    go_ret
    exact ⟨by rw [HV.out]; rfl,HB.out⟩
end Go.Proofs.YtiafhfchjhffhaaGreatDoor
