/- paclaim: ScChars ScWord ScSpelt ScWLaid -/
import Derived.Test.YtiafhfchjhffhaaGreatDoorLowMath
import Derived.Laws.Rows
import Derived.Lib.LaidTab
import Derived.LaidMore
import Derived.Stop.Joined
import Derived.Stop.LaidErr
import Derived.ProofKit
namespace Go.Proofs.YtiafhfchjhffhaaGreatDoor
open Go.RowKit
set_option linter.unusedVariables false
set_option maxHeartbeats 400000 in
theorem scDigit_calls (c:UInt8) (w:World) :
  Calls Tryz.prog 237 #[.int .u8 c.toNat] w fun e w'=>e=.returned (.bool (digitB c)) ∧ w=w':=by
 have HV:Hid (digitB c=(decide (48 ≤ c.toNat) && decide (c.toNat ≤ 57))):=Lib.hid rfl
 cases h1:decide (48 ≤ c.toNat)
 all_goals cases h2:decide (c.toNat ≤ 57)
 all_goals
  have t1:decide ((48:Int) ≤ (c.toNat:Int))=_:=byteB c 48 _ h1
  have t2:decide ((c.toNat:Int) ≤ (57:Int))=_:=byteT c 57 _ h2
  rw [h1,h2] at HV
  clear h1 h2
  go_enter Tryz.func237,Tryz.ntmps237
  go_wp2_with fail
  go_ret
  exact ⟨by rw [HV.out]; rfl,rfl⟩
set_option maxHeartbeats 1000000 in
theorem scLetter_calls (c:UInt8) (w:World) :
  Calls Tryz.prog 238 #[.int .u8 c.toNat] w fun e w'=>e=.returned (.bool (letterB c)) ∧ w=w':=by
 have HV:Hid (letterB c=((decide (65 ≤ c.toNat) && decide (c.toNat ≤ 90)) || (decide (97 ≤ c.toNat) && decide (c.toNat ≤ 122)))):=Lib.hid rfl
 cases h1:decide (65 ≤ c.toNat)
 all_goals cases h2:decide (c.toNat ≤ 90)
 all_goals cases h3:decide (97 ≤ c.toNat)
 all_goals cases h4:decide (c.toNat ≤ 122)
 all_goals
  have t1:decide ((65:Int) ≤ (c.toNat:Int))=_:=byteB c 65 _ h1
  have t2:decide ((c.toNat:Int) ≤ (90:Int))=_:=byteT c 90 _ h2
  have t3:decide ((97:Int) ≤ (c.toNat:Int))=_:=byteB c 97 _ h3
  have t4:decide ((c.toNat:Int) ≤ (122:Int))=_:=byteT c 122 _ h4
  rw [h1,h2,h3,h4] at HV
  clear h1 h2 h3 h4
  go_enter Tryz.func238,Tryz.ntmps238
  go_wp2_with fail
  go_ret
  exact ⟨by rw [HV.out]; rfl,rfl⟩
def Wds (w:World):Prop:=∃ t fr,w.heap[2]? = some (.cells wordsV t fr)
theorem gWds : Tryz.prog.globalNamed "proctor/schema.words" = some 2 := by kernel_rfl
theorem wds_of_var {w : World} (h : w.var? Tryz.prog "proctor/schema.words" = some wordsV) : Wds w := by
 unfold World.var? at h
 rw [gWds] at h
 simp only [Option.bind_some] at h
 split at h
 ·rename_i cs t fr e
  obtain rfl:=Option.some.inj h
  exact ⟨t,fr,e⟩
 ·cases h
theorem Wds.below {w w':World} (h:Wds w) (hb:Below w.heap.size w w'):Wds w':=by
 obtain ⟨t,fr,e⟩:=h
 exact ⟨t,fr,(hb.block _ (Array.getElem?_eq_some_iff.1 e).1).trans e⟩
theorem words_info:(Tryz.prog.info? 293).map (·.size)=some wordsV.size:=by kernel_rfl
theorem word_at:∀ (n:Nat),n < 22 → ∀ w,(Instr.index 293 (.agg wordsV) (.int .i64 n)).run Tryz.prog w=.ok (.string (wordAt n)) w
 | 0,_,w=>by kernel_rfl
 | 1,_,w=>by kernel_rfl
 | 2,_,w=>by kernel_rfl
 | 3,_,w=>by kernel_rfl
 | 4,_,w=>by kernel_rfl
 | 5,_,w=>by kernel_rfl
 | 6,_,w=>by kernel_rfl
 | 7,_,w=>by kernel_rfl
 | 8,_,w=>by kernel_rfl
 | 9,_,w=>by kernel_rfl
 | 10,_,w=>by kernel_rfl
 | 11,_,w=>by kernel_rfl
 | 12,_,w=>by kernel_rfl
 | 13,_,w=>by kernel_rfl
 | 14,_,w=>by kernel_rfl
 | 15,_,w=>by kernel_rfl
 | 16,_,w=>by kernel_rfl
 | 17,_,w=>by kernel_rfl
 | 18,_,w=>by kernel_rfl
 | 19,_,w=>by kernel_rfl
 | 20,_,w=>by kernel_rfl
 | 21,_,w=>by kernel_rfl
 | n + 22,h,w=>by omega
set_option maxHeartbeats 2000000 in
set_option maxRecDepth 100000 in
theorem scWord_calls (s:ByteArray) (w:World) (h:Wds w) :
  Calls Tryz.prog 203 #[.string s] w fun e w'=>e=.returned (.bool (wordB s)) ∧ w=w':=by
 obtain ⟨ty,fr,hg⟩:=h
 have HW:=Lib.hid word_at
 have H0:Hid (noWord s 0):=Lib.hid (noWord_zero s)
 go_enter Tryz.func203,Tryz.ntmps203
 go_wp2_with (refine wpList_load_row rfl 293 _ rfl 2 rfl ty _ fr _ hg Tryz.underlying293 rfl words_info ?_)
 clear hg
 generalize (Value.agg wordsV)=V at HW ⊢
 go_loopw [6] (fun i wr=>∃ (n:Nat),n ≤ 22 ∧ i=.int .i64 n ∧ Hid (noWord s n) ∧ w=wr) (fun i _=>22 - (intOf i).toNat)
 case atStart=>exact ⟨0,by omega,rfl,H0,rfl⟩
 case round =>
  obtain ⟨n,hn,rfl,HX,rfl⟩:=hrel
  by_cases hlt:n < 22
  case neg =>
   have HV:Hid (wordB s=false):=Lib.hid (noWord_end (by rw [← show n=22 by omega]; exact HX.out))
   go_wp2_with fail
   go_ret
   exact ⟨by rw [HV.out]; rfl,rfl⟩
  case pos =>
   have hw:=HW.out n hlt
   cases e:isT s (wordAt n)
   ·have HX2:=Lib.hid (noWord_step HX.out hlt e)
    have t1:(s.toList == (wordAt n).toList)=false:=e
    clear e
    generalize wordAt n=x at hw t1
    go_wp2_with fail
    go_roundw
    case rel=>exact ⟨n + 1,hlt,by go_num,HX2,trivial⟩
    case measure=>simp [intOf]; omega
   ·have HV:Hid (wordB s=true):=Lib.hid (noWord_hit HX.out hlt e)
    have t1:(s.toList == (wordAt n).toList)=true:=e
    clear e
    generalize wordAt n=x at hw t1
    go_wp2_with fail
    go_ret
    exact ⟨by rw [HV.out]; rfl,rfl⟩
set_option maxHeartbeats 2000000 in
theorem scSpelt_calls (s:ByteArray) (w:World) (hs:s.size ≤ 9223372036854775807) :
  Calls Tryz.prog 202 #[.string s] w fun e w'=>e=.returned (.bool (speltB s)) ∧ w=w':=by
 have HD:=Lib.hid (fun c w1=>scDigit_calls c w1)
 have HL:=Lib.hid (fun c w1=>scLetter_calls c w1)
 by_cases h0:s.size=0
 ·have HV:Hid (speltB s=false):=Lib.hid (spelt_none h0)
  have he:s=⟨#[]⟩:=sc_eq (t:=[]) (List.length_eq_zero_iff.1 (by rw [← sc_size]; exact h0))
  clear h0 hs
  generalize speltB s=b at HV ⊢
  subst he
  go_enter Tryz.func202,Tryz.ntmps202
  go_wp2_with fail
  go_ret
  exact ⟨by rw [HV.out]; rfl,rfl⟩
 have hp:0 < s.size:=by omega
 have t0:s.toList.isEmpty=false:=by
  rw [sc_tl]
  rw [sc_size] at hp
  cases e:s.data.toList with
  | nil=>rw [e] at hp; simp at hp
  | cons c r=>rfl
 have hne:¬ s=ByteArray.empty:=fun e=>by rw [e] at hp; exact absurd hp (by decide)
 by_cases h1:32 < s.size
 ·have HV:Hid (speltB s=false):=Lib.hid (spelt_long h1)
  have t1:decide ((32:Int) < (s.size:Int))=true:=by simp; omega
  clear h0
  go_enter Tryz.func202,Tryz.ntmps202
  go_wp2_with fail
  go_ret
  exact ⟨by rw [HV.out]; rfl,rfl⟩
 have t1:decide ((32:Int) < (s.size:Int))=false:=by simp; omega
 cases hd:digitB s[0]
 case true =>
  have HV:Hid (speltB s=false):=Lib.hid (spelt_digit hp hd)
  have H1:=Lib.hid (fun w1=>HD.out s[0] w1)
  rw [hd] at H1
  clear hd h0 h1
  go_enter Tryz.func202,Tryz.ntmps202
  go_wp2_with fail
  refine (H1.out _).mono ?_
  rintro e w1 ⟨rfl,rfl⟩
  go_wp2_with fail
  go_ret
  exact ⟨by rw [HV.out]; rfl,rfl⟩
 case false =>
  have H1:=Lib.hid (fun w1=>HD.out s[0] w1)
  rw [hd] at H1
  have HG:Hid (namesTo s s.size → speltB s=true):=Lib.hid (spelt_good hp (by omega) hd)
  have H0:=Lib.hid (namesTo_zero s)
  clear hd h0
  go_enter Tryz.func202,Tryz.ntmps202
  go_wp2_with fail
  refine (H1.out _).mono ?_
  rintro e w1 ⟨rfl,rfl⟩
  go_wp2_with fail
  clear H1
  go_loopw [19] (fun i wr=>∃ (n:Nat),n ≤ s.size ∧ i=.int .i64 n ∧ Hid (namesTo s n) ∧ w=wr) (fun i _=>s.size - (intOf i).toNat)
  case atStart=>exact ⟨0,by omega,rfl,H0,rfl⟩
  case round =>
   obtain ⟨n,hn,rfl,HX,rfl⟩:=hrel
   by_cases hlt:n < s.size
   case neg =>
    have HV:Hid (speltB s=true):=Lib.hid (HG.out (by rw [← show n=s.size by omega]; exact HX.out))
    go_wp2_with fail
    go_ret
    exact ⟨by rw [HV.out]; rfl,rfl⟩
   case pos =>
    have H1:=Lib.hid (fun w1=>HL.out s[n] w1)
    have H2:=Lib.hid (fun w1=>HD.out s[n] w1)
    have HS:=Lib.hid (fun e=>namesTo_step HX.out hlt e)
    have HB:=Lib.hid (fun e=>spelt_bad (s:=s) hlt e)
    have hb:=byte95 s[n]
    cases e1:letterB s[n]
    case true =>
     have HX2:=Lib.hid (HS.out (nameC_letter e1))
     rw [e1] at H1
     clear e1 hb
     go_wp2_with fail
     refine (H1.out _).mono ?_
     rintro e w1 ⟨rfl,hw1⟩
     subst hw1
     go_wp2_with fail
     go_roundw
     case rel=>exact ⟨n + 1,hlt,by go_num,HX2,trivial⟩
     case measure=>simp [intOf]; omega
    case false =>
     rw [e1] at H1
     cases e2:digitB s[n]
     case true =>
      have HX2:=Lib.hid (HS.out (nameC_digit e1 e2))
      rw [e2] at H2
      clear e1 e2 hb
      go_wp2_with fail
      refine (H1.out _).mono ?_
      rintro e w1 ⟨rfl,hw1⟩
      subst hw1
      go_wp2_with fail
      refine (H2.out _).mono ?_
      rintro e w1 ⟨rfl,hw1⟩
      subst hw1
      go_wp2_with fail
      go_roundw
      case rel=>exact ⟨n + 1,hlt,by go_num,HX2,trivial⟩
      case measure=>simp [intOf]; omega
     case false =>
      have hnc:=nameC_line e1 e2
      rw [e2] at H2
      cases e3:(s[n] == 95)
      ·have HV:Hid (speltB s=false):=Lib.hid (HB.out (by rw [hnc,e3]))
       rw [e3] at hb
       have t2:((s[n].toNat:Int) != 95)=true:=by rw [bne,hb]; rfl
       clear e1 e2 e3 hnc hb
       go_wp2_with fail
       refine (H1.out _).mono ?_
       rintro e w1 ⟨rfl,hw1⟩
       subst hw1
       go_wp2_with fail
       refine (H2.out _).mono ?_
       rintro e w1 ⟨rfl,hw1⟩
       subst hw1
       go_wp2_with fail
       go_ret
       exact ⟨by rw [HV.out]; rfl,rfl⟩
      ·have HX2:=Lib.hid (HS.out (by rw [hnc,e3]))
       rw [e3] at hb
       have t2:((s[n].toNat:Int) != 95)=false:=by rw [bne,hb]; rfl
       clear e1 e2 e3 hnc hb
       go_wp2_with fail
       refine (H1.out _).mono ?_
       rintro e w1 ⟨rfl,hw1⟩
       subst hw1
       go_wp2_with fail
       refine (H2.out _).mono ?_
       rintro e w1 ⟨rfl,hw1⟩
       subst hw1
       go_wp2_with fail
       go_roundw
       case rel=>exact ⟨n + 1,hlt,by go_num,HX2,trivial⟩
       case measure=>simp [intOf]; omega
set_option maxHeartbeats 1000000 in
theorem scName_calls (s:ByteArray) (w:World) (hs:s.size ≤ 9223372036854775807) (hw:Wds w) :
  Calls Tryz.prog 147 #[.string s] w fun e w'=>e=.returned (.bool (nameB s)) ∧ w=w':=by
 have HV:Hid (nameB s=(speltB s && (!wordB s && !lineB s))):=Lib.hid rfl
 have H1:=Lib.hid (fun w1=>scSpelt_calls s w1 hs)
 have H2:=Lib.hid (scWord_calls s w hw)
 have hb:(s.toList == [95])=lineB s:=by unfold lineB isT; rw [sc_tl ⟨#[95]⟩]
 clear hs hw
 generalize nameB s=r at HV ⊢
 generalize speltB s=b1 at H1 HV
 generalize wordB s=b2 at H2 HV
 generalize lineB s=b3 at hb HV
 cases b1
 ·go_enter Tryz.func147,Tryz.ntmps147
  go_wp2_with fail
  refine (H1.out _).mono ?_
  rintro e w1 ⟨rfl,rfl⟩
  go_wp2_with fail
  go_ret
  exact ⟨by rw [HV.out]; rfl,rfl⟩
 cases b2
 ·cases b3
  all_goals
   go_enter Tryz.func147,Tryz.ntmps147
   go_wp2_with fail
   refine (H1.out _).mono ?_
   rintro e w1 ⟨rfl,rfl⟩
   go_wp2_with fail
   refine H2.out.mono ?_
   rintro e w1 ⟨rfl,rfl⟩
   go_wp2_with fail
   go_ret
   exact ⟨by rw [HV.out]; simp,rfl⟩
 ·go_enter Tryz.func147,Tryz.ntmps147
  go_wp2_with fail
  refine (H1.out _).mono ?_
  rintro e w1 ⟨rfl,rfl⟩
  go_wp2_with fail
  refine H2.out.mono ?_
  rintro e w1 ⟨rfl,rfl⟩
  go_wp2_with fail
  go_ret
  exact ⟨by rw [HV.out]; rfl,rfl⟩
theorem sc_cellsS:Tryz.prog.cellsOf 9=1:=by kernel_rfl
theorem sc_cellsW:Tryz.prog.cellsOf 293=22:=by kernel_rfl
theorem gWdsType:(Tryz.prog.globals[2]?).map (·.type)=some 293:=by kernel_rfl
theorem words_laid:(Rows.laid_proctor_schema_words:DataW Unit)=.agg (wordsL.map fun s=>.lit (.string s.data.toList)):=rfl
theorem wordsV_list:wordsV.toList=(List.range 22).map fun i=>.string (wordAt i):=rfl
theorem wds_of_head {W : World} {rest : List (String × DataW Unit)} (h : laidMet Tryz.prog (("proctor/schema.words", Rows.laid_proctor_schema_words) :: rest) W) : Wds W := by
 obtain ⟨ps,⟨g',t',cs,fuel,p,q,hg',ht',hvar,hd,_,_⟩,_⟩:=h
 obtain rfl:=Option.some.inj (gWds.symm.trans hg')
 obtain rfl:=Option.some.inj (gWdsType.symm.trans ht')
 refine wds_of_var ?_
 rw [hvar]
 cases fuel with
 | zero=>simp [DataW.trod] at hd
 | succ fuel =>
  simp only [DataW.trod,Tryz.underlying293,sc_cellsW,sc_cellsS] at hd
  split at hd
  ·rename_i hl
   obtain ⟨xs,hm,hx⟩:=Option.map_eq_some_iff.1 hd
   have hxs:xs.map (·.1)=wordsL.map fun s=>.lit (.string s.data.toList):=by
    have:=congrArg Prod.fst hx
    rw [words_laid] at this
    simpa using this
   have key:∀ i,i < 22 → cs.toList[i]? = some (.string (wordAt i)):=by
    intro i hi
    obtain ⟨x,hb,hf⟩:=Lib.mapM_at hm i i (by simp [hi])
    have hx1:x.1=.lit (.string (wordAt i).data.toList):=by
     have h1:(xs.map (·.1))[i]? = some x.1:=by simp [hb]
     rw [hxs] at h1
     have h2:i < wordsL.length:=hi
     simp only [List.getElem?_map,List.getElem?_eq_getElem h2,Option.map_some,Option.some.injEq] at h1
     rw [← h1,wordAt,List.getD,List.getElem?_eq_getElem h2]
     rfl
    obtain ⟨d,pp⟩:=x
    simp only at hx1
    subst hx1
    obtain ⟨s,e,e2,_⟩:=DataW.trod_string Tryz.underlying9 hf
    simp only [Prod.mk.injEq,DataW.lit.injEq,Lit.string.injEq] at e2
    rw [sc_ext e2.1]
    have h3:=congrArg (fun l=>l[0]?) e
    simp only [Nat.mul_one,List.getElem?_take,List.getElem?_drop,Nat.add_zero,List.getElem?_cons_zero] at h3
    simpa using h3
   have hlist:cs.toList=wordsV.toList:=by
    refine List.ext_getElem? (fun i=>?_)
    rw [wordsV_list]
    by_cases hi:i < 22
    ·rw [key i hi]; simp [hi]
    ·rw [List.getElem?_eq_none (by omega),List.getElem?_eq_none (by simp; omega)]
   rw [← Array.toArray_toList (xs:=cs),hlist,Array.toArray_toList]
  ·cases hd
end Go.Proofs.YtiafhfchjhffhaaGreatDoor
