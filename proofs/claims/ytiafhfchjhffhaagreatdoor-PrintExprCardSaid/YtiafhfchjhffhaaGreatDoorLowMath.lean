/- paclaim: QuoteMath ScMath LexMath NumMath NumForm -/
import Derived.WalkSpells
import Derived.Test.YtiafhfchjhffhaaGreatDoorBase
import Derived.Lib.Join
import Derived.WalkKit
import Derived.Lib.ItoaMem
import Derived.Lib.ParseIntB
import Derived.Lib.Strings
namespace Go.Proofs.YtiafhfchjhffhaaGreatDoor
def hx (n:Nat):UInt8:=if n < 10 then UInt8.ofNat (48 + n) else UInt8.ofNat (87 + n)
def one (c:UInt8):List UInt8 :=
 if c=34 then [92,34] else if c=92 then [92,92] else if c=10 then [92,110] else if c=13 then [92,114] else if c=9 then [92,116]
 else if c < 32 ∨ 126 < c then [92,120,hx (c.toNat / 16),hx (c.toNat % 16)] else [c]
def body (l:List UInt8):List UInt8:=l.flatMap one
def quoteL (l:List UInt8):List UInt8:=34 :: (body l ++ [34])
def plB (c:UInt8):Bool:=decide (32 ≤ c.toNat) && (decide (c.toNat ≤ 126) && (c != 34 && c != 92))
def ltB (c:UInt8):Bool:=c == 34 || (c == 92 || (c == 10 || (c == 13 || c == 9)))
def ltN (c:UInt8):UInt8:=if c=34 then 34 else if c=92 then 92 else if c=10 then 110 else if c=13 then 114 else if c=9 then 116 else 0
def chB (c:UInt8):Bool:=c == 34 || (c == 92 || (c == 110 || (c == 114 || c == 116)))
def chN (c:UInt8):UInt8:=if c=34 then 34 else if c=92 then 92 else if c=110 then 10 else if c=114 then 13 else if c=116 then 9 else 0
def ux (c:UInt8):Nat:=if 48 ≤ c.toNat ∧ c.toNat ≤ 57 then c.toNat - 48 else if 97 ≤ c.toNat ∧ c.toNat ≤ 102 then c.toNat - 87 else 16
def fdV (x y:UInt8):UInt8:=UInt8.ofNat (16 * ux x + ux y)
def fdB (x y:UInt8):Bool:=decide (ux x < 16) && (decide (ux y < 16) && (!ltB (fdV x y) && !plB (fdV x y)))
theorem all8 {P:UInt8 → Prop} (h:∀ n:Fin 256,P (UInt8.ofFin n)) (c:UInt8):P c:=by
 have:=h c.toFin
 rwa [show UInt8.ofFin c.toFin=c from rfl] at this
theorem one_plain:∀ c,plB c=true → one c=[c]:=all8 (by decide +kernel)
theorem one_lt:∀ c,ltB c=true → one c=[92,ltN c]:=all8 (by decide +kernel)
theorem one_hex:∀ c,plB c=false → ltB c=false → one c=[92,120,hx (c.toNat / 16),hx (c.toNat % 16)]:=all8 (by decide +kernel)
theorem ch_lt:∀ c,ltB c=true → chB (ltN c)=true ∧ chN (ltN c)=c ∧ ltN c ≠ 120:=all8 (by decide +kernel)
theorem one_ch:∀ d,chB d=true → one (chN d)=[92,d]:=all8 (by decide +kernel)
theorem ux_hx:∀ c:UInt8,fdV (hx (c.toNat / 16)) (hx (c.toNat % 16))=c ∧ ux (hx (c.toNat / 16)) < 16 ∧ ux (hx (c.toNat % 16)) < 16:=all8 (by decide +kernel)
theorem hx_ux:∀ x,ux x < 16 → hx (ux x)=x:=all8 (by decide +kernel)
theorem one_len:∀ c,1 ≤ (one c).length ∧ (one c).length ≤ 4:=all8 (by decide +kernel)
theorem one_head:∀ c,(one c).head? ≠ some 34:=all8 (by decide +kernel)
theorem ch_120:chB 120=false:=by decide
def cc:List UInt8 → UInt8 × Nat
 | []=>(0,0)
 | a :: r=>if plB a=true then (a,1) else if a ≠ 92 then (0,0) else
  match r with
  | []=>(0,0)
  | d :: r'=>if chB d=true then (chN d,2) else if d ≠ 120 then (0,0) else
   match r' with
   | x :: y :: _=>if fdB x y=true then (fdV x y,4) else (0,0)
   | _=>(0,0)
theorem fdB_hx (c:UInt8) (hp:plB c=false) (hl:ltB c=false):fdB (hx (c.toNat / 16)) (hx (c.toNat % 16))=true:=by
 obtain ⟨h1,h2,h3⟩:=ux_hx c
 unfold fdB
 rw [h1,hp,hl]
 simp [h2,h3]
theorem one_fd (x y:UInt8) (h:fdB x y=true):one (fdV x y)=[92,120,x,y]:=by
 unfold fdB at h
 simp only [Bool.and_eq_true,decide_eq_true_eq,Bool.not_eq_true'] at h
 obtain ⟨h1,h2,h3,h4⟩:=h
 rw [one_hex _ h4 h3]
 have e:(fdV x y).toNat=16 * ux x + ux y:=by
  unfold fdV
  rw [UInt8.toNat_ofNat']
  omega
 rw [e,show (16 * ux x + ux y) / 16=ux x by omega,show (16 * ux x + ux y) % 16=ux y by omega,hx_ux x h1,hx_ux y h2]
theorem cc_one (c:UInt8) (x:List UInt8):cc (one c ++ x)=(c,(one c).length):=by
 by_cases hp:plB c=true
 ·rw [one_plain c hp]
  simp [cc,hp]
 have hp':plB c=false:=by simpa using hp
 by_cases hl:ltB c=true
 ·obtain ⟨h1,h2,h3⟩:=ch_lt c hl
  rw [one_lt c hl]
  have p92:plB 92=false:=by decide
  simp [cc,p92,h1,h2]
 ·have hl':ltB c=false:=by simpa using hl
  rw [one_hex c hp' hl']
  have p92:plB 92=false:=by decide
  simp [cc,p92,ch_120,fdB_hx c hp' hl',(ux_hx c).1]
theorem cc_some (l:List UInt8) (h:(cc l).2 ≠ 0):∃ x,l=one (cc l).1 ++ x ∧ (one (cc l).1).length=(cc l).2:=by
 unfold cc at h ⊢
 split at h
 ·simp at h
 ·rename_i a r
  by_cases hp:plB a=true
  ·simp only [if_pos hp]
   exact ⟨r,by rw [one_plain a hp]; rfl,by rw [one_plain a hp]; rfl⟩
  ·simp only [if_neg hp] at h ⊢
   by_cases h92:a ≠ 92
   ·simp [if_pos h92] at h
   ·simp only [if_neg h92] at h ⊢
    have h92':a=92:=by simpa using h92
    subst h92'
    split at h
    ·simp at h
    ·rename_i d r'
     by_cases hd:chB d=true
     ·simp only [if_pos hd]
      exact ⟨r',by rw [one_ch d hd]; rfl,by rw [one_ch d hd]; rfl⟩
     ·simp only [if_neg hd] at h ⊢
      by_cases h120:d ≠ 120
      ·simp [if_pos h120] at h
      ·simp only [if_neg h120] at h ⊢
       have h120':d=120:=by simpa using h120
       subst h120'
       split at h
       ·rename_i x y z
        by_cases hf:fdB x y=true
        ·simp only [if_pos hf]
         exact ⟨z,by rw [one_fd x y hf]; rfl,by rw [one_fd x y hf]; rfl⟩
        ·simp [if_neg hf] at h
       ·simp at h
theorem cc_zero (l:List UInt8) (h:(cc l).2=0):(cc l).1=0:=by
 unfold cc at h ⊢
 split
 ·rfl
 ·rename_i a r
  by_cases hp:plB a=true
  ·simp [if_pos hp] at h
  ·simp only [if_neg hp] at h ⊢
   by_cases h92:a ≠ 92
   ·simp [if_pos h92]
   ·simp only [if_neg h92] at h ⊢
    split
    ·rfl
    ·rename_i d r'
     by_cases hd:chB d=true
     ·simp [if_pos hd] at h
     ·simp only [if_neg hd] at h ⊢
      by_cases h120:d ≠ 120
      ·simp [if_pos h120]
      ·simp only [if_neg h120] at h ⊢
       split
       ·rename_i x y z
        by_cases hf:fdB x y=true
        ·simp [if_pos hf] at h
        ·simp [if_neg hf]
       ·rfl
theorem cc_no (l:List UInt8) (h:∀ c x,l ≠ one c ++ x):cc l=(0,0):=by
 by_cases h0:(cc l).2=0
 ·rw [Prod.ext_iff]
  exact ⟨cc_zero l h0,h0⟩
 ·obtain ⟨x,hx,_⟩:=cc_some l h0
  exact absurd hx (h _ _)
theorem one_inj {c c':UInt8} {x x':List UInt8} (h:one c ++ x=one c' ++ x'):c=c' ∧ x=x':=by
 have h1:=cc_one c x
 rw [h,cc_one c' x'] at h1
 have e:c'=c:=by simpa using (Prod.ext_iff.1 h1).1
 subst e
 exact ⟨rfl,List.append_cancel_left h⟩
theorem body_cons (c:UInt8) (l:List UInt8):body (c :: l)=one c ++ body l:=by simp [body]
theorem body_snoc (l:List UInt8) (c:UInt8):body (l ++ [c])=body l ++ one c:=by simp [body]
theorem one_not34 {c:UInt8} {x y:List UInt8} (h:one c ++ x=34 :: y):False:=by
 have h1:=one_head c
 have h2:=(one_len c).1
 cases hc:one c with
 | nil=>rw [hc] at h2; simp at h2
 | cons a r =>
  rw [hc] at h h1
  simp at h h1
  exact h1 h.1
theorem stuck:∀ (t t' rest y:List UInt8),body t ++ rest=body t' ++ 34 :: y → (∀ z,rest ≠ 34 :: z) → (∀ c x,rest ≠ one c ++ x) → False
 | [],[],rest,y,h,h1,_=>h1 y (by simpa [body] using h)
 | [],c :: t',rest,y,h,_,h2=>h2 c (body t' ++ 34 :: y) (by rw [body_cons,List.append_assoc] at h; simpa [body] using h)
 | c :: t,[],rest,y,h,_,_=>one_not34 (c:=c) (x:=body t ++ rest) (y:=y) (by rw [body_cons,List.append_assoc] at h; simpa [body] using h)
 | c :: t,c' :: t',rest,y,h,h1,h2=>by
  rw [body_cons,body_cons,List.append_assoc,List.append_assoc] at h
  exact stuck t t' rest y (one_inj h).2 h1 h2
theorem body_len (l:List UInt8):l.length ≤ (body l).length ∧ (body l).length ≤ 4 * l.length:=by
 induction l with
 | nil=>simp [body]
 | cons c l ih =>
  rw [body_cons,List.length_append,List.length_cons]
  have:=one_len c
  omega
theorem quote_len (l:List UInt8):(quoteL l).length=(body l).length + 2:=by simp [quoteL]
open Go.RowKit
set_option linter.unusedVariables false
theorem sc_size (s:ByteArray):s.size=s.data.toList.length:=(Array.length_toList (xs:=s.data)).symm
theorem sc_tl (s:ByteArray):s.toList=s.data.toList:=ByteArray.toList_eq s
theorem sc_eq {s:ByteArray} {t:List UInt8} (h:s.data.toList=t):s=⟨t.toArray⟩:=by
 cases s with
 | mk d=>subst h; simp
theorem sc_ext {s t:ByteArray} (h:s.data.toList=t.data.toList):s=t:=(sc_eq (s:=s) h).trans (sc_eq (s:=t) rfl).symm
def letterB (c:UInt8):Bool:=(decide (65 ≤ c.toNat) && decide (c.toNat ≤ 90)) || (decide (97 ≤ c.toNat) && decide (c.toNat ≤ 122))
def digitB (c:UInt8):Bool:=decide (48 ≤ c.toNat) && decide (c.toNat ≤ 57)
def nameC (c:UInt8):Bool:=letterB c || digitB c || c == 95
def speltL:List UInt8 → Bool
 | []=>false
 | c :: r=>decide ((c :: r).length ≤ 32) && (!digitB c && (c :: r).all nameC)
def wordsL:List ByteArray:=[⟨#[97,99,99,101,112,116]⟩,⟨#[97,108,115,111]⟩,⟨#[97,110,100]⟩,⟨#[98,111,111,108]⟩,⟨#[100,111]⟩,⟨#[101,118,101,110,116]⟩,⟨#[101,120,105,115,116,115]⟩,⟨#[102,97,108,115,101]⟩,⟨#[102,111,114,97,108,108]⟩,⟨#[102,114,101,101]⟩,⟨#[105,102]⟩,⟨#[105,110,116]⟩,⟨#[110,101,120,116]⟩,⟨#[110,111,116]⟩,⟨#[111,110]⟩,⟨#[111,114]⟩,⟨#[113,101,97]⟩,⟨#[115,107,105,112]⟩,⟨#[115,116,97,114,116]⟩,⟨#[115,116,114,105,110,103]⟩,⟨#[116,111]⟩,⟨#[116,114,117,101]⟩]
def isT (s t:ByteArray):Bool:=s.toList == t.toList
theorem isT_iff {s t:ByteArray}:isT s t=true ↔ s=t:=by
 unfold isT
 rw [beq_iff_eq,sc_tl,sc_tl]
 exact ⟨sc_ext,fun h=>by rw [h]⟩
theorem isT_comm (s t:ByteArray):isT s t=isT t s:=by
 rw [Bool.eq_iff_iff,isT_iff,isT_iff]
 exact ⟨Eq.symm,Eq.symm⟩
theorem isT_refl (s:ByteArray):isT s s=true:=isT_iff.2 rfl
def wordB (s:ByteArray):Bool:=wordsL.any (isT s)
def speltB (s:ByteArray):Bool:=speltL s.data.toList
def lineB (s:ByteArray):Bool:=isT s ⟨#[95]⟩
def nameB (s:ByteArray):Bool:=speltB s && (!wordB s && !lineB s)
def wordAt (n:Nat):ByteArray:=wordsL.getD n ⟨#[]⟩
theorem words_drop (n:Nat) (h:n < 22):wordsL.drop n=wordAt n :: wordsL.drop (n + 1):=by
 rw [List.drop_eq_getElem_cons (show n < wordsL.length from h),wordAt,List.getD,List.getElem?_eq_getElem (show n < wordsL.length from h)]
 rfl
def noWord (s:ByteArray) (n:Nat):Prop:=wordB s=(wordsL.drop n).any (isT s)
theorem noWord_zero (s:ByteArray):noWord s 0:=rfl
theorem noWord_step {s:ByteArray} {n:Nat} (h:noWord s n) (hn:n < 22) (e:isT s (wordAt n)=false):noWord s (n + 1):=by
 unfold noWord at h ⊢
 rw [h,words_drop n hn,List.any_cons,e]; rfl
theorem noWord_hit {s:ByteArray} {n:Nat} (h:noWord s n) (hn:n < 22) (e:isT s (wordAt n)=true):wordB s=true:=by
 unfold noWord at h
 rw [h,words_drop n hn,List.any_cons,e]; rfl
theorem noWord_end {s:ByteArray} (h:noWord s 22):wordB s=false:=by
 unfold noWord at h
 rw [h]; rfl
theorem spelt_none {s:ByteArray} (h:s.size=0):speltB s=false:=by
 unfold speltB
 rw [sc_size] at h
 rw [List.length_eq_zero_iff.1 h]; rfl
theorem spelt_long {s:ByteArray} (h:32 < s.size):speltB s=false:=by
 unfold speltB
 rw [sc_size] at h
 cases e:s.data.toList with
 | nil=>rw [e] at h; simp at h
 | cons c r =>
  rw [e] at h
  rw [speltL,decide_eq_false (by omega)]; rfl
theorem spelt_digit {s:ByteArray} (h:0 < s.size) (e:digitB (s[0]'h)=true):speltB s=false:=by
 unfold speltB
 have hh:s.data.toList[0]? = some s[0]:=by
  rw [sc_size] at h
  rw [List.getElem?_eq_getElem h]; rfl
 cases e2:s.data.toList with
 | nil=>rw [e2] at hh; simp at hh
 | cons c r =>
  rw [e2] at hh
  have:c=s[0]:=by simpa using hh
  rw [speltL,this,e]
  simp
theorem spelt_at {s:ByteArray} {n:Nat} (h:n < s.size):s.data.toList[n]? = some s[n]:=by
 rw [sc_size] at h
 rw [List.getElem?_eq_getElem h]; rfl
theorem spelt_bad {s:ByteArray} {n:Nat} (h:n < s.size) (e:nameC s[n]=false):speltB s=false:=by
 unfold speltB
 have hm:s[n] ∈ s.data.toList:=List.mem_of_getElem? (spelt_at h)
 cases e2:s.data.toList with
 | nil=>rw [e2] at hm; simp at hm
 | cons c r =>
  rw [e2] at hm
  have:(c :: r).all nameC=false:=by
   rw [Bool.eq_false_iff]
   intro h2
   have:=List.all_eq_true.1 h2 _ hm
   rw [e] at this; cases this
  rw [speltL,this]
  simp
def namesTo (s:ByteArray) (n:Nat):Prop:=∀ c ∈ s.data.toList.take n,nameC c=true
theorem namesTo_zero (s:ByteArray):namesTo s 0:=fun c hc=>by simp at hc
theorem namesTo_step {s:ByteArray} {n:Nat} (h:namesTo s n) (hn:n < s.size) (e:nameC s[n]=true):namesTo s (n + 1):=by
 intro c hc
 rw [List.take_add_one,spelt_at hn] at hc
 rcases List.mem_append.1 hc with h1 | h1
 ·exact h c h1
 ·simp at h1; rw [h1]; exact e
theorem spelt_good {s:ByteArray} (h0:0 < s.size) (h1:s.size ≤ 32) (e:digitB (s[0]'h0)=false) (h:namesTo s s.size):speltB s=true:=by
 unfold speltB
 unfold namesTo at h
 rw [sc_size,List.take_length] at h
 have hh:=spelt_at h0
 rw [sc_size] at h1
 cases e2:s.data.toList with
 | nil=>rw [e2] at hh; simp at hh
 | cons c r =>
  rw [e2] at hh h h1
  have:c=s[0]:=by simpa using hh
  rw [speltL,decide_eq_true h1,List.all_eq_true.2 h,this,e]
  rfl
theorem byteB (c:UInt8) (n:Nat) (b:Bool) (h:decide (n ≤ c.toNat)=b):decide ((n:Int) ≤ (c.toNat:Int))=b:=by
 rw [← h,decide_eq_decide]; omega
theorem byteT (c:UInt8) (n:Nat) (b:Bool) (h:decide (c.toNat ≤ n)=b):decide ((c.toNat:Int) ≤ (n:Int))=b:=by
 rw [← h,decide_eq_decide]; omega
theorem byte95 (c:UInt8):((c.toNat:Int) == 95)=(c == 95):=by
 rw [Bool.eq_iff_iff,beq_iff_eq,beq_iff_eq]
 constructor
 ·intro h; exact UInt8.toNat_inj.1 (by show c.toNat=95; omega)
 ·rintro rfl; rfl
theorem nameC_letter {c:UInt8} (h:letterB c=true):nameC c=true:=by unfold nameC; rw [h]; rfl
theorem nameC_digit {c:UInt8} (h:letterB c=false) (h2:digitB c=true):nameC c=true:=by unfold nameC; rw [h,h2]; rfl
theorem nameC_line {c:UInt8} (h:letterB c=false) (h2:digitB c=false):nameC c=(c == 95):=by unfold nameC; rw [h,h2]; rfl
def wordsV:Array Value:=#[.string ⟨#[97,99,99,101,112,116]⟩,.string ⟨#[97,108,115,111]⟩,.string ⟨#[97,110,100]⟩,.string ⟨#[98,111,111,108]⟩,.string ⟨#[100,111]⟩,.string ⟨#[101,118,101,110,116]⟩,.string ⟨#[101,120,105,115,116,115]⟩,.string ⟨#[102,97,108,115,101]⟩,.string ⟨#[102,111,114,97,108,108]⟩,.string ⟨#[102,114,101,101]⟩,.string ⟨#[105,102]⟩,.string ⟨#[105,110,116]⟩,.string ⟨#[110,101,120,116]⟩,.string ⟨#[110,111,116]⟩,.string ⟨#[111,110]⟩,.string ⟨#[111,114]⟩,.string ⟨#[113,101,97]⟩,.string ⟨#[115,107,105,112]⟩,.string ⟨#[115,116,97,114,116]⟩,.string ⟨#[115,116,114,105,110,103]⟩,.string ⟨#[116,111]⟩,.string ⟨#[116,114,117,101]⟩]
structure Tk where
 k:Nat
 t:List UInt8
 line:Nat
 col:Nat
instance:Inhabited Tk:=⟨⟨0,[],0,0⟩⟩
def blankB (c:UInt8):Bool:=c == 32 || (c == 10 || (c == 13 || c == 9))
def blankN:List UInt8 → Bool → Nat
 | [],_=>0
 | c :: r,true=>if c=10 then blankN r false + 1 else blankN r true + 1
 | c :: r,false=>if c=35 then blankN r true + 1 else if blankB c then blankN r false + 1 else 0
theorem blank_le:∀ (l:List UInt8) (b:Bool),blankN l b ≤ l.length
 | [],_=>by simp [blankN]
 | c :: r,true=>by
  have h1:=blank_le r true
  have h2:=blank_le r false
  rw [blankN,List.length_cons]
  split <;> omega
 | c :: r,false=>by
  have h1:=blank_le r true
  have h2:=blank_le r false
  rw [blankN,List.length_cons]
  split
  ·omega
  ·split <;> omega
def adv:List UInt8 → Nat × Nat → Nat × Nat
 | [],p=>p
 | c :: r,p=>adv r (if c=10 then (p.1 + 1,1) else (p.1,p.2 + 1))
theorem adv_append:∀ (l m:List UInt8) (p:Nat × Nat),adv (l ++ m) p=adv m (adv l p)
 | [],m,p=>rfl
 | c :: r,m,p=>by rw [List.cons_append,adv,adv,adv_append r m]
def signN:List UInt8 → Nat
 | []=>0
 | c :: r=>if (c=61 ∨ c=33 ∨ c=60 ∨ c=62) ∧ r.head? = some 61 then 2 else if c=60 ∨ c=62 ∨ c=61 ∨ c=40 ∨ c=41 ∨ c=44 ∨ c=58 ∨ c=43 ∨ c=45 ∨ c=42 ∨ c=47 ∨ c=37 then 1 else 0
theorem sign_le:∀ l,signN l ≤ l.length
 | []=>by simp [signN]
 | [c]=>by
  rw [signN]
  split
  ·rename_i h; simp at h
  ·split <;> simp
 | c :: d :: r=>by
  rw [signN]
  split
  ·simp
  ·split <;> simp
def runL (l:List UInt8):List UInt8:=l.takeWhile nameC
open Classical in
noncomputable def cutL (l:List UInt8):Option (List UInt8):=if h:∃ t y,l=quoteL t ++ y then some h.choose else none
theorem body_one:∀ (t t' y y':List UInt8),body t ++ 34 :: y=body t' ++ 34 :: y' → t=t'
 | [],[],_,_,_=>rfl
 | [],c :: t',y,y',h=>(one_not34 (c:=c) (x:=body t' ++ 34 :: y') (y:=y) (by rw [body_cons,List.append_assoc] at h; exact (by simpa [body] using h.symm))).elim
 | c :: t,[],y,y',h=>(one_not34 (c:=c) (x:=body t ++ 34 :: y) (y:=y') (by rw [body_cons,List.append_assoc] at h; exact (by simpa [body] using h))).elim
 | c :: t,c' :: t',y,y',h=>by
  rw [body_cons,body_cons,List.append_assoc,List.append_assoc] at h
  obtain ⟨rfl,h2⟩:=one_inj h
  rw [body_one t t' y y' h2]
theorem quote_one {t t' y y':List UInt8} (h:quoteL t ++ y=quoteL t' ++ y'):t=t':=by
 refine body_one t t' y y' ?_
 simpa [quoteL] using h
theorem cut_yes (t y:List UInt8):cutL (quoteL t ++ y)=some t:=by
 have h:∃ t' y',quoteL t ++ y=quoteL t' ++ y':=⟨t,y,rfl⟩
 rw [cutL,dif_pos h]
 obtain ⟨y',hy⟩:=h.choose_spec
 rw [← quote_one hy]
theorem cut_some {l t:List UInt8} (h:cutL l=some t):∃ y,l=quoteL t ++ y:=by
 rw [cutL] at h
 split at h
 ·rename_i h1
  cases h
  exact h1.choose_spec
 ·cases h
def wordT (x:List UInt8):Except Nat (Nat × List UInt8 × Nat) :=
 if x.head?.any digitB=true then
  if x.all digitB=false then .error 4
  else if 1 < x.length ∧ x.head? = some 48 then .error 4
  else if 32 < x.length then .error 3
  else .ok (3,x,x.length)
 else if 32 < x.length then .error 3
 else if (nameB ⟨x.toArray⟩ || x == [95])=true then .ok (1,x,x.length)
 else .ok (2,x,x.length)
noncomputable def firstT (l:List UInt8):Except Nat (Nat × List UInt8 × Nat) :=
 if l.head? = some 34 then
  match cutL l with
  | none=>.error 17
  | some t=>if 4096 < t.length then .error 3 else .ok (4,t,(quoteL t).length)
 else if runL l=[] then (if signN l=0 then .error 15 else .ok (5,l.take (signN l),signN l))
 else wordT (runL l)
theorem word_ok {x t:List UInt8} {k n:Nat} (h:wordT x=.ok (k,t,n)):t=x ∧ n=x.length ∧ 1 ≤ k ∧ k ≤ 3:=by
 unfold wordT at h
 repeat' split at h
 all_goals first | (cases h; exact ⟨rfl,rfl,by omega,by omega⟩) | cases h
def tkL (k:Nat) (t:List UInt8):List UInt8:=if k=4 then quoteL t else t
def endsT (r:List UInt8):Prop:=r=[] ∨ r.head? = some 32
theorem run_ends {x r:List UInt8} (hx:x.all nameC=true) (h:endsT r):runL (x ++ r)=x:=by
 unfold runL
 rw [List.takeWhile_append_of_pos (fun c hc=>List.all_eq_true.1 hx c hc)]
 rcases h with rfl | h
 ·simp
 ·cases r with
  | nil=>cases h
  | cons c r =>
   simp at h
   subst h
   rw [List.takeWhile_cons_of_neg (by decide),List.append_nil]
theorem run_all (l:List UInt8):(runL l).all nameC=true:=List.all_takeWhile
theorem run_pre (l:List UInt8):∃ y,l=runL l ++ y:=⟨l.dropWhile nameC,(List.takeWhile_append_dropWhile).symm⟩
theorem run_head {l:List UInt8} {c:UInt8} {x:List UInt8} (h:runL l=c :: x):l.head? = some c:=by
 obtain ⟨y,hy⟩:=run_pre l
 rw [h] at hy
 rw [hy]; rfl
theorem one_no10:∀ c,(one c).all (fun d=>d != 10)=true:=all8 (by decide +kernel)
theorem name_no:∀ c,nameC c=true → c ≠ 10 ∧ c ≠ 34 ∧ c ≠ 35 ∧ blankB c=false:=all8 (by decide +kernel)
theorem body_no10:∀ (t:List UInt8),∀ c ∈ body t,c ≠ 10
 | [],c,hc=>by simp [body] at hc
 | d :: t,c,hc=>by
  rw [body_cons,List.mem_append] at hc
  rcases hc with h | h
  ·have:=List.all_eq_true.1 (one_no10 d) c h
   simpa using this
  ·exact body_no10 t c h
theorem quote_no10 (t:List UInt8):∀ c ∈ quoteL t,c ≠ 10:=by
 intro c hc
 unfold quoteL at hc
 rw [List.mem_cons,List.mem_append,List.mem_singleton] at hc
 rcases hc with rfl | h | rfl
 ·decide
 ·exact body_no10 t c h
 ·decide
structure Told (l:List UInt8) (k:Nat) (t:List UInt8) (n:Nat):Prop where
 pos:1 ≤ n
 len:n=(tkL k t).length
 pre:∃ y,l=tkL k t ++ y
 no10:∀ c ∈ tkL k t,c ≠ 10
 same:∀ r,endsT r → firstT (tkL k t ++ r)=.ok (k,t,n)
 blank:∀ r,blankN (tkL k t ++ r) false=0
 kind:1 ≤ k ∧ k ≤ 5
theorem sign_two {c:UInt8} {r:List UInt8} (h:signN (c :: r)=2):(c=61 ∨ c=33 ∨ c=60 ∨ c=62) ∧ ∃ y,r=61 :: y:=by
 rw [signN] at h
 split at h
 ·rename_i h1
  refine ⟨h1.1,?_⟩
  cases r with
  | nil=>simp at h1
  | cons d r=>simp at h1; exact ⟨r,by rw [h1.2]⟩
 ·split at h <;> cases h
theorem sign_cases (l:List UInt8):signN l=0 ∨ signN l=1 ∨ signN l=2:=by
 cases l with
 | nil=>exact .inl rfl
 | cons c r =>
  rw [signN]
  split
  ·exact .inr (.inr rfl)
  ·split
   ·exact .inr (.inl rfl)
   ·exact .inl rfl
theorem sign_one {c:UInt8} {r:List UInt8} (h:signN (c :: r)=1):c=60 ∨ c=62 ∨ c=61 ∨ c=40 ∨ c=41 ∨ c=44 ∨ c=58 ∨ c=43 ∨ c=45 ∨ c=42 ∨ c=47 ∨ c=37:=by
 rw [signN] at h
 split at h
 ·cases h
 ·split at h
  ·rename_i h1; exact h1
  ·cases h
theorem ends_61 {r:List UInt8} (h:endsT r):r.head? ≠ some 61:=by
 rcases h with rfl | h
 ·simp
 ·rw [h]; decide
theorem first_run {l:List UInt8} (h:(runL l).isEmpty=false):firstT l=wordT (runL l):=by
 have h0:runL l ≠ []:=by intro e; rw [e] at h; cases h
 rw [firstT,if_neg,if_neg h0]
 intro e
 cases hr:runL l with
 | nil=>exact h0 hr
 | cons c x =>
  have h1:=run_head hr
  rw [h1] at e
  have h2:=List.all_eq_true.1 (run_all l) c (by rw [hr]; simp)
  exact (name_no c h2).2.1 (by simpa using e)
theorem told_first {l:List UInt8} {k n:Nat} {t:List UInt8} (h:firstT l=.ok (k,t,n)):Told l k t n:=by
 by_cases h34:l.head? = some 34
 ·rw [firstT,if_pos h34] at h
  split at h
  ·cases h
  ·rename_i t' hc
   split at h
   ·cases h
   ·rename_i hl
    cases h
    obtain ⟨y,hy⟩:=cut_some hc
    have e4:tkL 4 t=quoteL t:=rfl
    refine ⟨by rw [quote_len]; omega,rfl,⟨y,hy⟩,quote_no10 t,fun r hr=>?_,fun r=>?_,by omega⟩
    ·rw [e4,firstT,if_pos (by rfl),cut_yes]
     simp only
     rw [if_neg hl]
    ·rw [e4]; rfl
 ·by_cases hr:runL l=[]
  ·rw [firstT,if_neg h34,if_pos hr] at h
   split at h
   ·cases h
   ·rename_i hs
    cases h
    cases l with
    | nil=>exact absurd rfl hs
    | cons c r =>
     rcases sign_cases (c :: r) with h0 | h1 | h2
     ·exact absurd h0 hs
     ·have hc:=sign_one h1
      rw [h1]
      have e5:tkL 5 ((c :: r).take 1)=[c]:=rfl
      refine ⟨by omega,rfl,⟨r,rfl⟩,?_,fun x hx=>?_,fun x=>?_,by omega⟩
      ·rw [e5]; intro d hd; rw [List.mem_singleton] at hd; subst hd
       rcases hc with rfl | rfl | rfl | rfl | rfl | rfl | rfl | rfl | rfl | rfl | rfl | rfl <;> decide
      ·have h61:=ends_61 hx
       rw [e5]
       show firstT (c :: x)=_
       have hs1:signN (c :: x)=1:=by
        rw [signN,if_neg (fun hh=>h61 hh.2),if_pos hc]
       rw [firstT,if_neg,if_pos,if_neg (by rw [hs1]; decide),hs1]
       ·rfl
       ·rcases hc with rfl | rfl | rfl | rfl | rfl | rfl | rfl | rfl | rfl | rfl | rfl | rfl <;> rfl
       ·rcases hc with rfl | rfl | rfl | rfl | rfl | rfl | rfl | rfl | rfl | rfl | rfl | rfl <;> simp
      ·rw [e5]
       rcases hc with rfl | rfl | rfl | rfl | rfl | rfl | rfl | rfl | rfl | rfl | rfl | rfl <;> rfl
     ·obtain ⟨hc,y,rfl⟩:=sign_two h2
      rw [h2]
      have e5:tkL 5 ((c :: 61 :: y).take 2)=[c,61]:=rfl
      refine ⟨by omega,rfl,⟨y,rfl⟩,?_,fun x hx=>?_,fun x=>?_,by omega⟩
      ·rw [e5]; intro d hd
       rcases hc with rfl | rfl | rfl | rfl <;> (simp at hd; rcases hd with rfl | rfl <;> decide)
      ·rw [e5]
       show firstT (c :: 61 :: x)=_
       have hs1:signN (c :: 61 :: x)=2:=by rw [signN,if_pos ⟨hc,rfl⟩]
       rw [firstT,if_neg,if_pos,if_neg (by rw [hs1]; decide),hs1]
       ·rfl
       ·rcases hc with rfl | rfl | rfl | rfl <;> rfl
       ·rcases hc with rfl | rfl | rfl | rfl <;> simp
      ·rw [e5]
       rcases hc with rfl | rfl | rfl | rfl <;> rfl
  ·have hne:(runL l).isEmpty=false:=by cases e:runL l with | nil=>exact absurd e hr | cons c x=>rfl
   rw [first_run hne] at h
   obtain ⟨rfl,rfl,hk⟩:=word_ok h
   have hall:=run_all l
   obtain ⟨y,hy⟩:=run_pre l
   have e:tkL k (runL l)=runL l:=by rw [tkL,if_neg (by omega)]
   obtain ⟨x,hx⟩:∃ x,x=runL l:=⟨_,rfl⟩
   rw [← hx] at h hall hy e hne ⊢
   obtain ⟨c,z,hz⟩:∃ c z,x=c :: z:=by cases x with | nil=>cases hne | cons c z=>exact ⟨c,z,rfl⟩
   have hc:=name_no c (List.all_eq_true.1 hall c (by rw [hz]; simp))
   refine ⟨by rw [hz]; simp,by rw [e],⟨y,by rw [e]; exact hy⟩,?_,fun r hr=>?_,fun r=>?_,by omega⟩
   ·rw [e]; intro d hd; exact (name_no d (List.all_eq_true.1 hall d hd)).1
   ·rw [e]
    have hrr:=run_ends hall hr
    rw [first_run (by rw [hrr]; exact hne),hrr]
    exact h
   ·rw [e,hz,List.cons_append,blankN,if_neg hc.2.2.1,if_neg (by rw [hc.2.2.2]; decide)]
noncomputable def stepT (l:List UInt8) (p:Nat × Nat):Except (Nat × Nat × Nat) (Option (Tk × List UInt8 × (Nat × Nat))) :=
 if l.drop (blankN l false)=[] then .ok none
 else match firstT (l.drop (blankN l false)) with
  | .error e=>.error (e,adv (l.take (blankN l false)) p)
  | .ok z=>.ok (some (⟨z.1,z.2.1,(adv (l.take (blankN l false)) p).1,(adv (l.take (blankN l false)) p).2⟩,(l.drop (blankN l false)).drop z.2.2,((adv (l.take (blankN l false)) p).1,(adv (l.take (blankN l false)) p).2 + z.2.2)))
noncomputable def tokF:Nat → List UInt8 → Nat × Nat → Except (Nat × Nat × Nat) (List Tk)
 | 0,_,_=>.ok []
 | f + 1,l,p=>match stepT l p with
  | .error e=>.error e
  | .ok none=>.ok []
  | .ok (some (x,r,q))=>match tokF f r q with
   | .error e=>.error e
   | .ok T=>.ok (x :: T)
noncomputable def tokT (l:List UInt8) (p:Nat × Nat):Except (Nat × Nat × Nat) (List Tk):=tokF (l.length + 1) l p
noncomputable def tokL (l:List UInt8):Except (Nat × Nat × Nat) (List Tk):=if 65536 < l.length then .error (3,1,1) else tokT l (1,1)
theorem step_some {l r:List UInt8} {p q:Nat × Nat} {x:Tk} (h:stepT l p=.ok (some (x,r,q))) :
  ∃ n y,Told (l.drop (blankN l false)) x.k x.t n ∧ l.drop (blankN l false)=tkL x.k x.t ++ r ∧ q=(x.line,x.col + n) ∧ (x.line,x.col)=adv (l.take (blankN l false)) p ∧ y=n ∧ r.length + n ≤ l.length:=by
 unfold stepT at h
 split at h
 ·cases h
 ·split at h
  ·cases h
  ·rename_i z hz
   obtain ⟨k,t,n⟩:=z
   have ht:=told_first hz
   simp only [Except.ok.injEq,Option.some.injEq,Prod.mk.injEq] at h
   obtain ⟨rfl,rfl,rfl⟩:=h
   obtain ⟨y,hy⟩:=ht.pre
   have hd:(l.drop (blankN l false)).drop n=y:=by rw [hy,ht.len,List.drop_left]
   refine ⟨n,n,ht,?_,rfl,rfl,rfl,?_⟩
   ·rw [hd]; exact hy
   ·rw [List.length_drop,List.length_drop]
    have h1:=congrArg List.length hy
    rw [List.length_append,List.length_drop,← ht.len] at h1
    omega
theorem step_less {l r:List UInt8} {p q:Nat × Nat} {x:Tk} (h:stepT l p=.ok (some (x,r,q))):r.length < l.length:=by
 obtain ⟨n,_,ht,_,_,_,_,h1⟩:=step_some h
 have:=ht.pos
 omega
theorem tok_fuel:∀ (f g:Nat) (l:List UInt8) (p:Nat × Nat),l.length < f → l.length < g → tokF f l p=tokF g l p
 | 0,_,l,p,h,_=>by omega
 | _,0,l,p,_,h=>by omega
 | f + 1,g + 1,l,p,hf,hg=>by
  rw [tokF,tokF]
  split
  ·rfl
  ·rfl
  ·rename_i x r q hs
   have:=step_less hs
   rw [tok_fuel f g r q (by omega) (by omega)]
theorem tok_end {l:List UInt8} {p:Nat × Nat} (h:stepT l p=.ok none):tokT l p=.ok []:=by
 rw [tokT,tokF,h]
theorem tok_bad {l:List UInt8} {p:Nat × Nat} {e:Nat × Nat × Nat} (h:stepT l p=.error e):tokT l p=.error e:=by
 rw [tokT,tokF,h]
theorem tok_more {l r:List UInt8} {p q:Nat × Nat} {x:Tk} (h:stepT l p=.ok (some (x,r,q))):tokT l p=match tokT r q with | .error e=>.error e | .ok T=>.ok (x :: T):=by
 have:=step_less h
 rw [tokT,tokF,h]
 simp only
 rw [tok_fuel l.length (r.length + 1) r q this (by omega)]
 rfl
def tokX (l0:List UInt8) (M:List Tk) (l:List UInt8) (p:Nat × Nat):Prop :=
 tokT l0 (1,1)=match tokT l p with | .error e=>.error e | .ok T=>.ok (M ++ T)
theorem tokX_zero (l:List UInt8):tokX l [] l (1,1):=by
 unfold tokX
 split
 ·assumption
 ·rename_i h; rw [h]; rfl
theorem tokX_more {l0 l r:List UInt8} {M:List Tk} {p q:Nat × Nat} {x:Tk} (h:tokX l0 M l p) (hs:stepT l p=.ok (some (x,r,q))):tokX l0 (M ++ [x]) r q:=by
 unfold tokX at h ⊢
 rw [h,tok_more hs]
 cases tokT r q with
 | error e=>rfl
 | ok T=>simp
theorem tokX_end {l0 l:List UInt8} {M:List Tk} {p:Nat × Nat} (h:tokX l0 M l p) (hs:stepT l p=.ok none):tokT l0 (1,1)=.ok M:=by
 unfold tokX at h
 rw [h,tok_end hs]; simp
theorem tokX_bad {l0 l:List UInt8} {M:List Tk} {p:Nat × Nat} {e:Nat × Nat × Nat} (h:tokX l0 M l p) (hs:stepT l p=.error e):tokT l0 (1,1)=.error e:=by
 unfold tokX at h
 rw [h,tok_bad hs]
theorem step_none (p:Nat × Nat):stepT [] p=.ok none:=by
 unfold stepT
 rw [if_pos (show List.drop (blankN [] false) []=([]:List UInt8) from rfl)]
def joinT:List Tk → List UInt8
 | []=>[]
 | [x]=>tkL x.k x.t
 | x :: y :: T=>tkL x.k x.t ++ 32 :: joinT (y :: T)
def isTk (x:Tk):Prop:=∃ l n,Told l x.k x.t n
theorem tok_tks:∀ (f:Nat) (l:List UInt8) (p:Nat × Nat) (T:List Tk),tokF f l p=.ok T → (∀ x ∈ T,isTk x) ∧ (joinT T).length + 1 ≤ 2 * l.length + 1 ∧ T.length ≤ l.length
 | 0,l,p,T,h=>by
  rw [tokF] at h; cases h
  exact ⟨fun x hx=>by simp at hx,by simp [joinT],by simp⟩
 | f + 1,l,p,T,h=>by
  rw [tokF] at h
  split at h
  ·cases h
  ·cases h; exact ⟨fun x hx=>by simp at hx,by simp [joinT],by simp⟩
  ·rename_i x r q hs
   split at h
   ·cases h
   ·rename_i T' hT
    cases h
    obtain ⟨n,_,ht,_,_,_,_,hn⟩:=step_some hs
    obtain ⟨h1,h2,h3⟩:=tok_tks f r q T' hT
    have hp:=ht.pos
    refine ⟨fun y hy=>?_,?_,by rw [List.length_cons]; omega⟩
    ·rcases List.mem_cons.1 hy with rfl | hy
     ·exact ⟨_,_,ht⟩
     ·exact h1 y hy
    ·cases T' with
     | nil=>rw [joinT,← ht.len]; omega
     | cons y T2=>rw [joinT,List.length_append,List.length_cons,← ht.len]; omega
def tn (n:Int):Int:=if -9223372036854775808 ≤ n ∧ n ≤ 9223372036854775807 then n else 0
def te (n:Int):Int:=if -9223372036854775808 ≤ n ∧ n ≤ 9223372036854775807 then 0 else 6
def tb (n:Int):Bool:=decide (-9223372036854775808 ≤ n ∧ n ≤ 9223372036854775807)
theorem tn_yes {n:Int} (h1:-9223372036854775808 ≤ n) (h2:n ≤ 9223372036854775807):tn n=n:=if_pos ⟨h1,h2⟩
theorem tb_yes {n:Int} (h1:-9223372036854775808 ≤ n) (h2:n ≤ 9223372036854775807):tb n=true:=decide_eq_true ⟨h1,h2⟩
theorem tn_no {n:Int} (h:¬ (-9223372036854775808 ≤ n ∧ n ≤ 9223372036854775807)):tn n=0:=if_neg h
theorem tb_no {n:Int} (h:¬ (-9223372036854775808 ≤ n ∧ n ≤ 9223372036854775807)):tb n=false:=decide_eq_false h
def de (a b:Int):Int:=if b=0 then 7 else te (a.tdiv b)
def me (b:Int):Int:=if b=0 then 7 else 0
def isD (c:UInt8):Bool:=decide (48 ≤ c.toNat ∧ c.toNat ≤ 57)
def mag (l:List UInt8):List UInt8:=if l.head? = some 45 then l.tail else l
def formB (l:List UInt8):Bool:=!(mag l).isEmpty && (if (mag l).head? = some 48 then l == [48] else (mag l).all isD)
def dv (acc:Nat) (l:List UInt8):Nat:=l.foldl (fun a c=>a * 10 + (c.toNat - 48)) acc
def vl (l:List UInt8):Int:=if l.head? = some 45 then -(dv 0 (mag l):Int) else (dv 0 (mag l):Int)
def pn (l:List UInt8):Int:=if formB l=true then tn (vl l) else 0
def pe (l:List UInt8):Int:=if formB l=true then (if tb (vl l)=true then 0 else 5) else 4
theorem dv_snoc (acc:Nat) (l:List UInt8) (c:UInt8):dv acc (l ++ [c])=dv acc l * 10 + (c.toNat - 48):=by simp [dv]
theorem dv_cons (acc:Nat) (c:UInt8) (l:List UInt8):dv acc (c :: l)=dv (acc * 10 + (c.toNat - 48)) l:=by simp only [dv,List.foldl_cons]
theorem dv_le (l:List UInt8) (acc:Nat):acc ≤ dv acc l:=by
 induction l generalizing acc with
 | nil=>exact Nat.le_refl _
 | cons c r ih=>rw [dv_cons]; have:=ih (acc * 10 + (c.toNat - 48)); omega
theorem parseUintM_digits:∀ (l:List UInt8) (acc:Nat),l.all isD=true → acc ≤ 18446744073709551615 →
  Lib.parseUintM 18446744073709551615 acc l=if dv acc l ≤ 18446744073709551615 then .ok (dv acc l) else .range
 | [],acc,_,h=>by simp [Lib.parseUintM,dv,h]
 | c :: r,acc,hd,h=>by
  simp only [List.all_cons,Bool.and_eq_true] at hd
  have hc:48 ≤ c.toNat ∧ c.toNat ≤ 57:=by simpa [isD] using hd.1
  have hle:=dv_le r (acc * 10 + (c.toNat - 48))
  rw [dv_cons]
  unfold Lib.parseUintM
  rw [if_pos hc]
  by_cases h1:1844674407370955162 ≤ acc
  ·rw [if_pos h1,if_neg (by omega)]
  ·rw [if_neg h1]
   by_cases h2:18446744073709551615 < acc * 10 + (c.toNat - 48)
   ·rw [if_pos h2,if_neg (by omega)]
   ·rw [if_neg h2]
    exact parseUintM_digits r _ hd.2 (by omega)
theorem form_digits {l:List UInt8} (h:formB l=true):mag l ≠ [] ∧ (mag l).all isD=true:=by
 simp only [formB,Bool.and_eq_true,Bool.not_eq_true',List.isEmpty_eq_false_iff] at h
 refine ⟨h.1,?_⟩
 have h2:=h.2
 split at h2
 ·have e:l=[48]:=by simpa using h2
  subst e; decide
 ·exact h2
theorem pow64:(2:Nat) ^ 64 - 1=18446744073709551615:=by decide
theorem pow63:(2:Nat) ^ (64 - 1)=9223372036854775808:=by decide
theorem parse_form {l:List UInt8} (h:formB l=true) :
  Lib.parseIntB 64 l=if tb (vl l)=true then .ok (vl l) else .range:=by
 obtain ⟨hne,hd⟩:=form_digits h
 cases l with
 | nil=>exact absurd rfl hne
 | cons c r =>
  by_cases hc:c=45
  ·subst hc
   have em:mag (45 :: r)=r:=rfl
   have ev:vl (45 :: r)=-(dv 0 r:Int):=rfl
   rw [em] at hne hd
   rw [ev]
   simp only [Lib.parseIntB,Lib.parseUintB]
   rw [if_pos (Or.inr (by decide)),if_neg hne,pow64,pow63,parseUintM_digits r 0 hd (by omega)]
   by_cases h1:dv 0 r ≤ 18446744073709551615
   ·rw [if_pos h1]
    simp only
    rw [if_neg (by simp),if_pos (show ((45:UInt8).toNat=45) by decide)]
    by_cases h2:9223372036854775808 < dv 0 r
    ·rw [if_pos ⟨by decide,h2⟩,tb_no (by omega)]; rfl
    ·rw [if_neg (fun x=>h2 x.2),tb_yes (by omega) (by omega)]; rfl
   ·rw [if_neg h1,tb_no (by omega)]; rfl
  ·have hh:(c :: r).head? ≠ some 45:=by simpa using hc
   have em:mag (c :: r)=c :: r:=if_neg hh
   have ev:vl (c :: r)=(dv 0 (c :: r):Int):=by unfold vl; rw [if_neg hh,em]
   rw [em] at hd
   have hc2:48 ≤ c.toNat ∧ c.toNat ≤ 57:=by
    simp only [List.all_cons,Bool.and_eq_true] at hd; simpa [isD] using hd.1
   rw [ev]
   simp only [Lib.parseIntB,Lib.parseUintB]
   rw [if_neg (show ¬ (c.toNat=43 ∨ c.toNat=45) by omega),if_neg (show ¬ (c :: r)=[] by simp),pow64,pow63,parseUintM_digits (c :: r) 0 hd (by omega)]
   by_cases h1:dv 0 (c :: r) ≤ 18446744073709551615
   ·rw [if_pos h1]
    simp only
    rw [if_neg (show ¬ c.toNat=45 by omega)]
    by_cases h2:9223372036854775808 ≤ dv 0 (c :: r)
    ·rw [if_pos ⟨by omega,h2⟩,tb_no (by omega)]; rfl
    ·rw [if_neg (fun x=>h2 x.2),if_neg (fun x=>by omega),tb_yes (by omega) (by omega)]; rfl
   ·rw [if_neg h1,tb_no (by omega)]; rfl
theorem byteD (k:Nat) (h:k < 10):(UInt8.ofNat (48 + k)).toNat=48 + k:=by
 simp [UInt8.toNat_ofNat']; omega
theorem isD_byte (k:Nat) (h:k < 10):isD (UInt8.ofNat (48 + k))=true:=by
 unfold isD; rw [byteD k h]; simp; omega
theorem dec_big {u:Nat} (h:¬ u < 10):Lib.decDigits u=Lib.decDigits (u / 10) ++ [UInt8.ofNat (48 + u % 10)]:=by
 rw [Lib.decDigits,dif_neg h]
theorem dv_dec (u:Nat):dv 0 (Lib.decDigits u)=u:=by
 induction u using Nat.strongRecOn with
 | ind u ih =>
  by_cases h:u < 10
  ·rw [Lib.decDigits_one h]
   show 0 * 10 + ((UInt8.ofNat (48 + u)).toNat - 48)=u
   rw [byteD u h]; omega
  ·rw [dec_big h,dv_snoc,ih (u / 10) (by omega),byteD _ (by omega)]; omega
theorem dec_digits (u:Nat):(Lib.decDigits u).all isD=true:=by
 induction u using Nat.strongRecOn with
 | ind u ih =>
  by_cases h:u < 10
  ·rw [Lib.decDigits_one h,List.all_cons,isD_byte u h]; rfl
  ·rw [dec_big h,List.all_append,ih (u / 10) (by omega),List.all_cons,isD_byte (u % 10) (by omega)]; rfl
theorem dec_ne (u:Nat):Lib.decDigits u ≠ []:=by
 by_cases h:u < 10
 ·rw [Lib.decDigits_one h]; simp
 ·rw [dec_big h]; simp
theorem dec_head (u:Nat) (h0:u ≠ 0):(Lib.decDigits u).head? ≠ some 48:=by
 induction u using Nat.strongRecOn with
 | ind u ih =>
  by_cases h:u < 10
  ·rw [Lib.decDigits_one h]
   intro e
   have e2:(UInt8.ofNat (48 + u)).toNat=(48:UInt8).toNat:=by simpa using congrArg UInt8.toNat (Option.some.inj e)
   rw [byteD u h] at e2
   have:(48:UInt8).toNat=48:=rfl
   omega
  ·rw [dec_big h]
   have:=ih (u / 10) (by omega) (by omega)
   cases hd:Lib.decDigits (u / 10) with
   | nil=>exact absurd hd (dec_ne _)
   | cons a t=>rw [hd] at this; simpa using this
theorem dec_head45 (u:Nat):(Lib.decDigits u).head? ≠ some 45:=by
 intro e
 cases hd:Lib.decDigits u with
 | nil=>exact absurd hd (dec_ne _)
 | cons a t =>
  have hall:=dec_digits u
  rw [hd] at e hall
  have ea:a=45:=by simpa using e
  subst ea
  simp [isD] at hall
theorem itoa_form (n:Int):formB (Lib.itoa n)=true ∧ vl (Lib.itoa n)=n:=by
 unfold Lib.itoa
 by_cases hn:n < 0
 ·rw [if_pos hn]
  have em:mag (45 :: Lib.decDigits n.natAbs)=Lib.decDigits n.natAbs:=rfl
  have ev:vl (45 :: Lib.decDigits n.natAbs)=-(dv 0 (Lib.decDigits n.natAbs):Int):=rfl
  refine ⟨?_,by rw [ev,dv_dec]; omega⟩
  unfold formB
  rw [em,if_neg (dec_head _ (by omega)),dec_digits]
  simp [dec_ne]
 ·rw [if_neg hn]
  have em:mag (Lib.decDigits n.toNat)=Lib.decDigits n.toNat:=if_neg (dec_head45 _)
  have ev:vl (Lib.decDigits n.toNat)=(dv 0 (Lib.decDigits n.toNat):Int):=by unfold vl; rw [if_neg (dec_head45 _),em]
  refine ⟨?_,by rw [ev,dv_dec]; omega⟩
  unfold formB
  rw [em]
  by_cases h0:n.toNat=0
  ·rw [h0]; decide +kernel
  ·rw [if_neg (dec_head _ h0),dec_digits]; simp [dec_ne]
end Go.Proofs.YtiafhfchjhffhaaGreatDoor
