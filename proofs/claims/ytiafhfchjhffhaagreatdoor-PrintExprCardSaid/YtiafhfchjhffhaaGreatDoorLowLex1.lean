/- paclaim: LexWalkMath LexRun LexGap LexPlace -/
import Derived.Test.YtiafhfchjhffhaaGreatDoorLowMath
import Derived.Test.YtiafhfchjhffhaaGreatDoorLowCsv
namespace Go.Proofs.YtiafhfchjhffhaaGreatDoor
set_option linter.unusedVariables false
theorem lx_drop {l:List UInt8} {i:Nat} {c:UInt8} (h:l[i]? = some c):l.drop i=c :: l.drop (i + 1):=by
 obtain ⟨hi,rfl⟩:=List.getElem?_eq_some_iff.1 h
 exact List.drop_eq_getElem_cons hi
theorem lx_take {l:List UInt8} {i:Nat} {c:UInt8} (h:l[i]? = some c):l.take (i + 1)=l.take i ++ [c]:=by
 obtain ⟨hi,rfl⟩:=List.getElem?_eq_some_iff.1 h
 exact List.take_succ_eq_append_getElem hi
def blX (l:List UInt8) (i:Nat) (b:Bool):Prop:=blankN l false=i + blankN (l.drop i) b
theorem blX_zero (l:List UInt8):blX l 0 false:=by rw [blX,List.drop_zero,Nat.zero_add]
theorem adv_line10:∀ (l:List UInt8) (p:Nat × Nat),(∀ c ∈ l,c ≠ 10) → adv l p=(p.1,p.2 + l.length)
 | [],p,_=>rfl
 | c :: r,p,h=>by
  rw [adv,if_neg (h c (by simp)),adv_line10 r _ (fun d hd=>h d (by simp [hd])),List.length_cons]
  simp only [Prod.mk.injEq,true_and]; omega
def signsL:List (List UInt8):=[[61,61],[33,61],[60,61],[62,61],[60],[62],[61],[40],[41],[44],[58],[43],[45],[42],[47],[37]]
def signF (l:List UInt8):List UInt8:=(signsL.find? (fun x=>x.isPrefixOf l)).getD []
theorem sign_f1:∀ c:UInt8,signF [c]=[c].take (signN [c]):=all8 (by decide +kernel)
theorem sign_f2:∀ c:UInt8,signF [c,61]=[c,61].take (signN [c,61]):=all8 (by decide +kernel)
theorem sign_f3:∀ c:UInt8,signF [c,0]=[c,0].take (signN [c,0]) ∧ signN [c,0] ≤ 1:=all8 (by decide +kernel)
theorem sign_pre (c d:UInt8) (r:List UInt8):signF (c :: d :: r)=signF [c,d]:=by
 simp [signF,signsL,List.find?,List.isPrefixOf]
theorem sign_f (l:List UInt8):signF l=l.take (signN l):=by
 match l with
 | []=>rfl
 | [c]=>exact sign_f1 c
 | c :: d :: r =>
  rw [sign_pre]
  by_cases hd:d=61
  ·subst hd
   rw [sign_f2 c]
   have e:signN (c :: 61 :: r)=signN [c,61]:=rfl
   rw [e]
   rcases sign_cases [c,61] with h | h | h <;> rw [h] <;> rfl
  ·obtain ⟨h1,h2⟩:=sign_f3 c
   have e1:signF [c,d]=signF [c,0]:=by
    have h61:((61:UInt8) == d)=false:=by rw [beq_eq_false_iff_ne]; exact fun e=>hd e.symm
    simp [signF,signsL,List.find?,List.isPrefixOf,h61]
   have e2:signN (c :: d :: r)=signN [c,0]:=by
    have n1:¬ ((c=61 ∨ c=33 ∨ c=60 ∨ c=62) ∧ (d :: r).head? = some 61):=fun h=>hd (by simpa using h.2)
    have n2:¬ ((c=61 ∨ c=33 ∨ c=60 ∨ c=62) ∧ [(0:UInt8)].head? = some 61):=fun h=>by simp at h
    rw [signN,signN,if_neg n1,if_neg n2]
   rw [e1,h1,e2]
   rcases sign_cases [c,0] with h | h | h
   ·rw [h]; rfl
   ·rw [h]; rfl
   ·omega
def noSign (l:List UInt8) (n:Nat):Prop:=signF l=((signsL.drop n).find? (fun x=>x.isPrefixOf l)).getD []
theorem noSign_zero (l:List UInt8):noSign l 0:=rfl
theorem signs_drop {n:Nat} (h:n < 16):signsL.drop n=signsL.getD n [] :: signsL.drop (n + 1):=by
 have h2:n < signsL.length:=h
 rw [List.drop_eq_getElem_cons h2]
 simp [List.getD,h2]
theorem noSign_more {l:List UInt8} {n:Nat} (h:noSign l n) (hn:n < 16) (e:(signsL.getD n []).isPrefixOf l=false):noSign l (n + 1):=by
 rw [noSign,h,signs_drop hn,List.find?_cons,e]
theorem noSign_hit {l:List UInt8} {n:Nat} (h:noSign l n) (hn:n < 16) (e:(signsL.getD n []).isPrefixOf l=true):signF l=signsL.getD n []:=by
 rw [h,signs_drop hn,List.find?_cons,e]; rfl
theorem noSign_end {l:List UInt8} (h:noSign l 16):signF l=[]:=h
theorem sign_zero {l:List UInt8}:signF l=[] ↔ signN l=0:=by
 rw [sign_f]
 cases l with
 | nil=>exact ⟨fun _=>rfl,fun _=>rfl⟩
 | cons c r =>
  rcases sign_cases (c :: r) with h | h | h <;> rw [h] <;> simp
open Go.RowKit
def twN (p:UInt8 → Bool) (l:List UInt8):Nat:=(l.takeWhile p).length
def twTo (p:UInt8 → Bool) (l:List UInt8) (n:Nat):Prop:=∀ c ∈ l.take n,p c=true
theorem twTo_zero (p:UInt8 → Bool) (l:List UInt8):twTo p l 0:=fun c hc=>by simp at hc
theorem twTo_more {p:UInt8 → Bool} {l:List UInt8} {n:Nat} {c:UInt8} (h:twTo p l n) (hc:l[n]? = some c) (e:p c=true):twTo p l (n + 1):=by
 intro d hd
 rw [lx_take hc,List.mem_append,List.mem_singleton] at hd
 rcases hd with h1 | rfl
 ·exact h d h1
 ·exact e
theorem tw_split {p:UInt8 → Bool} {l:List UInt8} {n:Nat} (h:twTo p l n):l.takeWhile p=l.take n ++ (l.drop n).takeWhile p:=by
 have e:=List.takeWhile_append_of_pos (l₂:=l.drop n) h
 rwa [List.take_append_drop] at e
theorem tw_stop {p:UInt8 → Bool} {l:List UInt8} {n:Nat} {c:UInt8} (h:twTo p l n) (hc:l[n]? = some c) (e:p c=false):twN p l=n:=by
 have hn:=(List.getElem?_eq_some_iff.1 hc).1
 rw [twN,tw_split h,lx_drop hc,List.takeWhile_cons_of_neg (by rw [e]; decide),List.append_nil,List.length_take]
 omega
theorem tw_end {p:UInt8 → Bool} {l:List UInt8} {n:Nat} (h:twTo p l n) (hn:l.length=n):twN p l=n:=by
 rw [twN,tw_split h,List.drop_eq_nil_iff.2 (by omega),List.takeWhile_nil,List.append_nil,List.length_take]
 omega
theorem tw_le (p:UInt8 → Bool) (l:List UInt8):twN p l ≤ l.length:=by
 unfold twN
 exact List.Sublist.length_le (List.takeWhile_sublist p)
def inSet (set:ByteArray) (c:UInt8):Bool:=set.data.toList.contains c
theorem idx_in:∀ (l:List UInt8) (c:UInt8),decide ((0:Int) ≤ Lib.indexByte l c)=l.contains c
 | [],c=>by simp [Lib.indexByte]
 | b :: l,c=>by
  have ih:=idx_in l c
  have hg:=Lib.indexByte_ge l c
  rw [List.contains_cons,Lib.indexByte]
  by_cases h:b=c
  ·subst h; simp
  ·have h1:(b == c)=false:=by simpa using h
   have h2:(c == b)=false:=by simpa using fun e:c=b=>h e.symm
   rw [h1,h2,← ih,Bool.false_or]
   simp only [Bool.false_eq_true,if_false]
   split
   ·rename_i h3
    rw [beq_iff_eq] at h3
    rw [h3]
   ·rename_i h3
    have h4:Lib.indexByte l c ≠ -1:=by simpa using h3
    rw [decide_eq_decide]
    omega
set_option maxHeartbeats 400000 in
theorem among_calls (set:ByteArray) (w:World) :
  Calls Tryz.prog 246 #[.string set] w fun e w'=>e=.returned (.func (.func 261) #[] #[.pointer (some ⟨w.heap.size,0,none⟩)]) ∧ w'=w.alloc (.cells #[.string set] 9):=by
 go_enter Tryz.func246,Tryz.ntmps246
 go_wp2
 go_ret
 exact ⟨rfl,rfl⟩
theorem in_byte (c:UInt8):((c.toNat:Int)).toNat.toUInt8=c:=by
 rw [Int.toNat_natCast]
 exact UInt8.ofNat_toNat
set_option maxHeartbeats 400000 in
theorem amongIn_calls (c:UInt8) (set:ByteArray) (B:Nat) (w:World) (hB:w.cell? ⟨B,0,none⟩=some (.string set)) :
  Calls Tryz.prog 261 #[.int .u8 c.toNat,.pointer (some ⟨B,0,none⟩)] w fun e w'=>e=.returned (.bool (inSet set c)) ∧ w=w':=by
 have H1:=Tryz.strings_IndexByte set (c.toNat:Int) w
 rw [in_byte] at H1
 have h2:=idx_in set.data.toList c
 have HV:Hid (inSet set c=set.data.toList.contains c):=Lib.hid rfl
 have H1:=Lib.hid H1
 generalize inSet set c=r at HV ⊢
 generalize set.data.toList.contains c=q at h2 HV
 generalize Lib.indexByte set.data.toList c=x at H1 h2
 go_enter Tryz.func261,Tryz.ntmps261
 go_wp2_with fail
 refine H1.out.mono ?_
 rintro e w1 ⟨rfl,hw⟩
 subst hw
 go_wp2_with fail
 go_ret
 exact ⟨by rw [HV.out,← h2]; rfl,rfl⟩
def no10 (c:UInt8):Bool:=c != 10
set_option maxHeartbeats 400000 in
theorem no10_calls (c:UInt8) (w:World) :
  Calls Tryz.prog 248 #[.int .u8 c.toNat] w fun e w'=>e=.returned (.bool (no10 c)) ∧ w=w':=by
 have e1:=cs_beq c 10 (by omega)
 have HV:Hid (no10 c=!(c == 10)):=Lib.hid rfl
 generalize no10 c=r at HV ⊢
 cases hq:(c == 10)
 all_goals
  have t1:((c.toNat:Int) == 10)=_:=e1.trans hq
  rw [hq] at HV
  clear e1 hq
  go_enter Tryz.func248,Tryz.ntmps248
  go_wp2_with fail
  go_ret
  refine ⟨?_,rfl⟩
  rw [HV.out]
  show Ending.returned (Value.bool ((c.toNat:Int) != 10))=_
  rw [bne,t1]
set_option maxHeartbeats 1000000 in
theorem runIn_calls (s set:ByteArray) (B:Nat) (w:World) (hs:s.size ≤ 9223372036854775807) (hB:w.cell? ⟨B,0,none⟩=some (.string set)) :
  Calls Tryz.prog 245 #[.string s,.func (.func 261) #[] #[.pointer (some ⟨B,0,none⟩)]] w fun e w'=>e=.returned (.int .i64 (twN (inSet set) s.data.toList:Nat)) ∧ w=w':=by
 have HC:=Lib.hid (fun c=>amongIn_calls c set B w hB)
 have HL:Hid (s.data.toList.length=s.size):=Lib.hid (cs_size s).symm
 clear hB
 generalize inSet set=p at HC ⊢
 go_enter Tryz.func245,Tryz.ntmps245
 go_wp2_with fail
 go_loopw [8] (fun i wr=>∃ (n:Nat),n ≤ s.size ∧ i=.int .i64 n ∧ Hid (twTo p s.data.toList n) ∧ w=wr) (fun i _=>s.size - (intOf i).toNat)
 case atStart=>exact ⟨0,Nat.zero_le _,rfl,Lib.hid (twTo_zero _ _),rfl⟩
 case round =>
  obtain ⟨n,hn,rfl,HP,rfl⟩:=hrel
  by_cases h:n < s.size
  case neg =>
   have HE:Hid (twN p s.data.toList=s.size):=Lib.hid (by rw [tw_end HP.out (by rw [HL.out]; omega)]; omega)
   go_wp2_with fail
   go_ret
   exact ⟨by rw [HE.out]; rfl,rfl⟩
  case pos =>
   have H1:=Lib.hid (HC.out s[n])
   cases hp:p s[n]
   ·have HE:Hid (twN p s.data.toList=n):=Lib.hid (tw_stop HP.out (cs_at s n h) hp)
    rw [hp] at H1
    clear hp
    go_wp2_with fail
    refine H1.out.mono ?_
    rintro e w1 ⟨rfl,rfl⟩
    go_wp2_with fail
    go_ret
    exact ⟨by rw [HE.out]; rfl,rfl⟩
   ·have HE:Hid (twTo p s.data.toList (n + 1)):=Lib.hid (twTo_more HP.out (cs_at s n h) hp)
    rw [hp] at H1
    clear hp
    go_wp2_with fail
    refine H1.out.mono ?_
    rintro e w1 ⟨rfl,rfl⟩
    go_wp2_with fail
    go_roundw
    case rel=>exact ⟨n + 1,h,by go_num,HE,trivial⟩
    case measure=>simp [intOf]; omega
set_option maxHeartbeats 1000000 in
theorem run10_calls (s:ByteArray) (w:World) (hs:s.size ≤ 9223372036854775807) :
  Calls Tryz.prog 245 #[.string s,.func (.func 248) #[] #[]] w fun e w'=>e=.returned (.int .i64 (twN no10 s.data.toList:Nat)) ∧ w=w':=by
 have HC:=Lib.hid (fun c=>no10_calls c w)
 have HL:Hid (s.data.toList.length=s.size):=Lib.hid (cs_size s).symm
 generalize no10=p at HC ⊢
 go_enter Tryz.func245,Tryz.ntmps245
 go_wp2_with fail
 go_loopw [8] (fun i wr=>∃ (n:Nat),n ≤ s.size ∧ i=.int .i64 n ∧ Hid (twTo p s.data.toList n) ∧ w=wr) (fun i _=>s.size - (intOf i).toNat)
 case atStart=>exact ⟨0,Nat.zero_le _,rfl,Lib.hid (twTo_zero _ _),rfl⟩
 case round =>
  obtain ⟨n,hn,rfl,HP,rfl⟩:=hrel
  by_cases h:n < s.size
  case neg =>
   have HE:Hid (twN p s.data.toList=s.size):=Lib.hid (by rw [tw_end HP.out (by rw [HL.out]; omega)]; omega)
   go_wp2_with fail
   go_ret
   exact ⟨by rw [HE.out]; rfl,rfl⟩
  case pos =>
   have H1:=Lib.hid (HC.out s[n])
   cases hp:p s[n]
   ·have HE:Hid (twN p s.data.toList=n):=Lib.hid (tw_stop HP.out (cs_at s n h) hp)
    rw [hp] at H1
    clear hp
    go_wp2_with fail
    refine H1.out.mono ?_
    rintro e w1 ⟨rfl,rfl⟩
    go_wp2_with fail
    go_ret
    exact ⟨by rw [HE.out]; rfl,rfl⟩
   ·have HE:Hid (twTo p s.data.toList (n + 1)):=Lib.hid (twTo_more HP.out (cs_at s n h) hp)
    rw [hp] at H1
    clear hp
    go_wp2_with fail
    refine H1.out.mono ?_
    rintro e w1 ⟨rfl,rfl⟩
    go_wp2_with fail
    go_roundw
    case rel=>exact ⟨n + 1,h,by go_num,HE,trivial⟩
    case measure=>simp [intOf]; omega
theorem tw_head (p:UInt8 → Bool):∀ (l:List UInt8) (c:UInt8),(l.drop (twN p l)).head? = some c → p c=false
 | [],c,h=>by simp at h
 | d :: l,c,h=>by
  by_cases e:p d=true
  ·rw [twN,List.takeWhile_cons_of_pos e,List.length_cons,List.drop_succ_cons] at h
   exact tw_head p l c h
  ·rw [twN,List.takeWhile_cons_of_neg e,List.length_nil,List.drop_zero,List.head?_cons] at h
   cases h
   simpa using e
theorem bl_run:∀ (l:List UInt8),blankN l false=twN blankB l + blankN (l.drop (twN blankB l)) false
 | []=>rfl
 | c :: l=>by
  have ih:=bl_run l
  by_cases e:blankB c=true
  ·have h35:c ≠ 35:=by rintro rfl; exact absurd e (by decide)
   have e2:twN blankB (c :: l)=twN blankB l + 1:=by rw [twN,List.takeWhile_cons_of_pos e,List.length_cons]; rfl
   rw [e2,List.drop_succ_cons,blankN,if_neg h35,if_pos e,ih]
   omega
  ·have e2:twN blankB (c :: l)=0:=by rw [twN,List.takeWhile_cons_of_neg e,List.length_nil]
   rw [e2,List.drop_zero]
   omega
theorem bl_rem:∀ (l:List UInt8),blankN l true=twN no10 l + blankN (l.drop (twN no10 l)) false
 | []=>rfl
 | c :: l=>by
  have ih:=bl_rem l
  by_cases e:c=10
  ·subst e
   have e2:twN no10 (10 :: l)=0:=by rw [twN,List.takeWhile_cons_of_neg (by decide),List.length_nil]
   rw [e2,List.drop_zero,blankN,blankN,if_pos rfl,if_neg (by decide),if_pos (by decide)]
   omega
  ·have e1:no10 c=true:=by simpa [no10] using e
   have e2:twN no10 (c :: l)=twN no10 l + 1:=by rw [twN,List.takeWhile_cons_of_pos e1,List.length_cons]; rfl
   rw [e2,List.drop_succ_cons,blankN,if_neg e,ih]
   omega
theorem gap_stop {l:List UInt8} {n k:Nat} (h:blX l n false) (hk:k=twN blankB (l.drop n)) (hh:((l.drop (n + k)).head? == some 35)=false):blankN l false=n + k:=by
 have h1:=bl_run (l.drop n)
 rw [← hk,List.drop_drop] at h1
 have h2:=tw_head blankB (l.drop n)
 rw [← hk,List.drop_drop] at h2
 have h3:blankN (l.drop (n + k)) false=0:=by
  cases e:l.drop (n + k) with
  | nil=>rfl
  | cons c r =>
   rw [e] at hh h2
   have h35:c ≠ 35:=by simpa using hh
   have hb:=h2 c rfl
   rw [blankN,if_neg h35,if_neg (by rw [hb]; decide)]
 unfold blX at h
 omega
theorem gap_more {l:List UInt8} {n k j:Nat} (h:blX l n false) (hk:k=twN blankB (l.drop n)) (hh:((l.drop (n + k)).head? == some 35)=true) (hj:j=twN no10 (l.drop (n + k))):blX l (n + k + j) false ∧ 0 < j:=by
 have h1:=bl_run (l.drop n)
 rw [← hk,List.drop_drop] at h1
 cases e:l.drop (n + k) with
 | nil=>rw [e] at hh; simp at hh
 | cons c r =>
  rw [e] at hh
  have h35:c=35:=by simpa using hh
  subst h35
  have h2:=bl_rem (l.drop (n + k))
  rw [← hj,List.drop_drop] at h2
  have h3:blankN (35 :: r) false=blankN (35 :: r) true:=by rw [blankN,blankN,if_pos rfl,if_neg (by decide)]
  have h4:0 < j:=by
   rw [hj,e,twN,List.takeWhile_cons_of_pos (by decide),List.length_cons]; omega
  rw [e] at h1 h2
  unfold blX at h ⊢
  exact ⟨by omega,h4⟩
theorem in_blanks:inSet ⟨#[32,9,10,13]⟩=blankB:=by
 funext c
 exact (all8 (P:=fun c=>(inSet ⟨#[32,9,10,13]⟩ c=blankB c)) (by decide +kernel)) c
theorem lx_wrap {x:Int} (h0:0 ≤ x) (h:x ≤ 9223372036854775807):IntKind.i64.wrap x=x:=by
 simp only [IntKind.wrap,IntKind.bits,IntKind.signed]
 simp
 omega
theorem lx_drop_len (s:ByteArray) (k:Nat):(s.extract k s.size).size=s.size - k:=by
 rw [cs_size,cs_drop,List.length_drop,← cs_size]
set_option maxHeartbeats 2000000 in
theorem gap_calls (s:ByteArray) (w:World) (hs:s.size ≤ 4611686018427387904) :
  Calls Tryz.prog 221 #[.string s] w fun e w'=>e=.returned (.int .i64 (blankN s.data.toList false:Nat)) ∧ Below w.heap.size w w':=by
 have HL:Hid (s.data.toList.length=s.size):=Lib.hid (cs_size s).symm
 have HK0:=Lib.hid (Below.refl w.heap.size w)
 obtain ⟨N,hN⟩:∃ N,N=blankN s.data.toList false:=⟨_,rfl⟩
 rw [← hN]
 have HN:=Lib.hid hN
 clear hN
 go_enter Tryz.func221,Tryz.ntmps221
 go_wp2_with fail
 go_loopw [3] (fun v wr=>∃ (n:Nat),n ≤ s.size ∧ v=.int .i64 n ∧ Hid (blX s.data.toList n false) ∧ Hid (Below w.heap.size w wr)) (fun v _=>s.size - (intOf v).toNat)
 case atStart=>exact ⟨0,Nat.zero_le _,rfl,Lib.hid (blX_zero _),HK0⟩
 case round =>
  obtain ⟨n,hn,rfl,HX,HB⟩:=hrel
  obtain ⟨k,hk⟩:∃ k,k=twN blankB (s.data.toList.drop n):=⟨_,rfl⟩
  have hkl:n + k ≤ s.size:=by
   have:=tw_le blankB (s.data.toList.drop n)
   rw [List.length_drop,HL.out] at this
   omega
  have HK:=Lib.hid hk
  obtain ⟨m,hm⟩:∃ m,m=n + k:=⟨_,rfl⟩
  have hms:m ≤ s.size:=by omega
  have HM:=Lib.hid hm
  have HkL:=Lib.hid hkl
  obtain ⟨sn,hsn⟩:∃ sn,sn=s.extract n s.size:=⟨_,rfl⟩
  have HSn:=Lib.hid hsn
  have hsz:sn.size ≤ 9223372036854775807:=by rw [hsn,lx_drop_len]; omega
  have HR:=Lib.hid (fun w1 B (hB:w1.cell? ⟨B,0,none⟩=some (.string ⟨#[32,9,10,13]⟩))=>runIn_calls sn ⟨#[32,9,10,13]⟩ B w1 hsz hB)
  rw [in_blanks,show sn.data.toList=s.data.toList.drop n by rw [hsn,cs_drop],← hk] at HR
  have HAm:=Lib.hid (fun w1=>among_calls ⟨#[32,9,10,13]⟩ w1)
  clear hk hkl hm hsn hsz
  go_wp2_with fail
  refine wp_region_held_drew (S:=fun _=>True) (by kernel_rfl) trivial (fun hH0=>?_)
  refine wpAnyH_take (i:=0) (v:=.int .i64 n) rfl (by kernel_rfl) (by kernel_rfl) (by kernel_rfl) (fun _ _ _ h=>h) (Or.inl ⟨by kernel_rfl,fun wS hSw=>by (try dsimp only at hSw); go_simp⟩) hH0 ?_
  refine wpAnyH_take (i:=1) (v:=.string s) rfl (by kernel_rfl) (by kernel_rfl) (by kernel_rfl) (fun _ _ _ h=>h) (Or.inl ⟨by kernel_rfl,fun wS hSw=>by (try dsimp only at hSw); go_simp⟩) hH0 ?_
  refine wpAnyH_take (i:=2) (v:=.int .i64 n) rfl (by kernel_rfl) (by kernel_rfl) (by kernel_rfl) (fun _ _ _ h=>h) (Or.inl ⟨by kernel_rfl,fun wS hSw=>by (try dsimp only at hSw); go_simp⟩) hH0 ?_
  refine wpAnyH_take (i:=3) (v:=.string sn) rfl (by kernel_rfl) (by kernel_rfl) (by kernel_rfl) (fun _ _ _ h=>h) (Or.inl ⟨by kernel_rfl,fun wS hSw=>by (try dsimp only at hSw); rw [HSn.out]; go_simp⟩) hH0 ?_
  refine wpAnyH_ready (rs:=[4]) (by kernel_rfl) (by simp) ?_
  refine AllReadyH.cons rfl (fun K hK=>?_) AllReadyH.nil
  rw [if_pos (by kernel_rfl)]
  go_simp
  go_at_call 246
  refine (HAm.out _).mono ?_
  rintro e w1 ⟨rfl,hw1⟩
  have HB1:Hid (Below w.heap.size w w1):=Lib.hid (by rw [hw1]; exact HB.out.drew.alloc (by have:=HB.out.size; exact this) _)
  have HC1:Hid (w1.cell? ⟨wr.drew.heap.size,0,none⟩=some (.string ⟨#[32,9,10,13]⟩)):=Lib.hid (by rw [hw1,World.cell?_alloc_at (hn:=rfl)]; rfl)
  clear hw1
  refine hK.out _ _ (trivial) (fun hH1=>?_)
  clear hK K
  refine wpAnyH_ready (rs:=[5]) (by kernel_rfl) (by simp) ?_
  refine AllReadyH.cons rfl (fun K hK=>?_) AllReadyH.nil
  rw [if_pos (by kernel_rfl)]
  go_simp
  go_at_call 245
  refine (HR.out _ _ HC1.out).mono ?_
  rintro e w2 ⟨rfl,rfl⟩
  refine hK.out _ _ (trivial) (fun hH2=>?_)
  clear hK K
  refine wpAnyH_take (i:=6) (v:=.int .i64 (m:Nat)) rfl (by kernel_rfl) (by kernel_rfl) (by kernel_rfl) (fun _ _ _ h=>h) (Or.inl ⟨by kernel_rfl,fun wS hSw=>by (try dsimp only at hSw); rw [HM.out]; have:=HkL.out; go_simp; exact lx_wrap (by omega) (by omega)⟩) hH2 ?_
  refine wpAnyH_take (i:=7) (v:=.int .i64 (m:Nat)) rfl (by kernel_rfl) (by kernel_rfl) (by kernel_rfl) (fun _ _ _ h=>h) (Or.inl ⟨by kernel_rfl,fun wS hSw=>by (try dsimp only at hSw); go_simp⟩) hH2 ?_
  refine wpAnyH_done (by kernel_rfl) ?_ _
  go_simp
  have HP:=Lib.hid (fun w1=>pre_calls1 (s.extract m s.size) 35 w1)
  rw [cs_drop] at HP
  have hme:(s.extract m s.size).size ≤ 9223372036854775807:=by rw [lx_drop_len]; omega
  cases hh:((s.data.toList.drop m).head? == some 35)
  case false =>
   have HE:Hid (N=m):=Lib.hid (by rw [HN.out,HM.out]; exact gap_stop HX.out HK.out (by rw [← HM.out]; exact hh))
   rw [hh] at HP
   clear hh
   go_wp2_with fail
   refine (HP.out _).mono ?_
   rintro e w3 ⟨rfl,hw3⟩
   have HB3:Hid (Below w.heap.size w w3):=Lib.hid (by rw [← hw3]; exact HB1.out)
   clear hw3
   go_wp2_with fail
   go_ret
   exact ⟨by rw [HE.out]; rfl,HB3.out⟩
  case true =>
   obtain ⟨j,hj⟩:∃ j,j=twN no10 (s.data.toList.drop m):=⟨_,rfl⟩
   have hjl:m + j ≤ s.size:=by
    have:=tw_le no10 (s.data.toList.drop m)
    rw [List.length_drop,HL.out] at this
    omega
   obtain ⟨hx,hj0⟩:=gap_more (j:=j) HX.out HK.out (by rw [← HM.out]; exact hh) (by rw [← HM.out]; exact hj)
   rw [← HM.out] at hx
   have HX2:=Lib.hid hx
   have HR2:=Lib.hid (fun w1=>run10_calls (s.extract m s.size) w1 hme)
   rw [cs_drop,← hj] at HR2
   have HJ:=Lib.hid hj
   rw [hh] at HP
   have hnm:n ≤ m:=by rw [HM.out]; omega
   clear hh hj hx
   go_wp2_with fail
   refine (HP.out _).mono ?_
   rintro e w3 ⟨rfl,hw3⟩
   have HB3:Hid (Below w.heap.size w w3):=Lib.hid (by rw [← hw3]; exact HB1.out)
   clear hw3
   go_wp2_with fail
   refine (HR2.out _).mono ?_
   rintro e w4 ⟨rfl,hw4⟩
   subst hw4
   go_wp2_with fail
   go_roundw
   case rel=>exact ⟨m + j,hjl,by go_num,HX2,HB3⟩
   case measure=>simp [intOf]; omega
theorem adv_line:∀ (l:List UInt8) (p:Nat × Nat),(adv l p).1=p.1 + l.count 10
 | [],p=>rfl
 | c :: r,p=>by
  rw [adv,adv_line r,List.count_cons]
  by_cases h:c=10
  ·subst h; simp; omega
  ·have h2:(c == 10)=false:=by simpa using h
   rw [if_neg h,h2]; simp
theorem adv_none {l:List UInt8} (h:l.count 10=0) (p:Nat × Nat):adv l p=(p.1,p.2 + l.length) :=
 adv_line10 l p (fun c hc e=>by subst e; exact absurd h (Nat.ne_of_gt (List.count_pos_iff.2 hc)))
theorem adv_last {a b:List UInt8} (h:∀ c ∈ b,c ≠ 10) (p:Nat × Nat):(adv (a ++ 10 :: b) p).2=b.length + 1:=by
 rw [adv_append,adv,if_pos rfl,adv_line10 b _ h]
 show 1 + b.length=_
 omega
theorem data_bang (s:ByteArray) (j:Nat) (h:j < s.size):s.data[j]! = s[j]:=by
 have h':j < s.data.size:=h
 rw [getElem!_pos s.data j h']; rfl
theorem last_at {s:ByteArray} (h:s.data.toList.count 10 ≠ 0):∃ i:Nat,i < s.size ∧ Lib.lastIndexByte s 10=i ∧ ∀ p,(adv s.data.toList p).2=s.size - i:=by
 rcases Lib.lastIndexByte_spec s 10 with ⟨_,hn⟩ | ⟨i,hi,e,hc,hn⟩
 ·refine absurd (List.count_eq_zero.2 (fun hm=>?_)) h
  obtain ⟨j,hj,e⟩:=List.getElem_of_mem hm
  have hj2:j < s.size:=by rw [cs_size]; exact hj
  refine hn j hj2 ?_
  rw [data_bang s j hj2]
  have h2:=cs_at s j hj2
  rw [List.getElem?_eq_getElem hj,e] at h2
  rw [← Option.some.inj h2]; rfl
 ·refine ⟨i,hi,e,fun p=>?_⟩
  have hx:s[i]=10:=by
   rw [data_bang s i hi] at hc
   exact UInt8.toNat_inj.1 (by have:(s[i].toNat:Int)=10:=hc; show s[i].toNat=10; omega)
  have h1:=cs_cons s i hi
  rw [hx] at h1
  have h2:s.data.toList=s.data.toList.take i ++ 10 :: s.data.toList.drop (i + 1):=by rw [← h1,List.take_append_drop]
  have h3:∀ c ∈ s.data.toList.drop (i + 1),c ≠ 10:=by
   intro c hm ec
   subst ec
   obtain ⟨j,hj,e⟩:=List.getElem_of_mem hm
   rw [List.length_drop,← cs_size] at hj
   have hj2:i + 1 + j < s.size:=by omega
   refine hn (i + 1 + j) (by omega) hj2 ?_
   rw [data_bang s _ hj2]
   have h4:=cs_at s _ hj2
   rw [List.getElem_drop] at e
   rw [List.getElem?_eq_getElem (by rw [← cs_size]; exact hj2),e] at h4
   rw [← Option.some.inj h4]; rfl
  have h4:=adv_last (a:=s.data.toList.take i) h3 p
  rw [← h2,List.length_drop,← cs_size] at h4
  omega
def placeV (p:Nat × Nat):Value:=.agg #[.int .i64 (p.1:Nat),.int .i64 (p.2:Nat)]
theorem place_new (w:World) (u v x y:Value) (t:TypeId):Below w.heap.size w (((w.alloc (.cells #[u,v] t)).alloc (.cells #[x,y] t))):=((Below.refl _ _).alloc (Nat.le_refl _) _).alloc (by simp) _
theorem place_set {B g:Nat} {a w:World} (h:Below B a w) (hg:B ≤ g) (x y:Value):Below B a ((w.setCell ⟨g,0,none⟩ x).setCell ⟨g,1,none⟩ y):=(h.setCell hg _).setCell hg _
set_option maxHeartbeats 2000000 in
theorem behind_calls (a b:Nat) (s:ByteArray) (w:World) (ha:a + s.size ≤ 4611686018427387903) (hb:b + s.size ≤ 4611686018427387903) :
  Calls Tryz.prog 222 #[placeV (a,b),.string s] w fun e w'=>e=.returned (placeV (adv s.data.toList (a,b))) ∧ Below w.heap.size w w':=by
 have HC:=Lib.hid (fun w1=>Tryz.strings_Count_one s 10 w1)
 have HI:=Lib.hid (fun w1=>Tryz.strings_LastIndex_one s ⟨#[10]⟩ rfl (by omega) w1)
 have HL:Hid (s.data.toList.length=s.size):=Lib.hid (cs_size s).symm
 obtain ⟨k,hk⟩:∃ k,k=s.data.toList.count 10:=⟨_,rfl⟩
 have hkl:k ≤ s.size:=by rw [hk,← HL.out]; exact List.count_le_length
 have HN:=Lib.hid (place_new w (.int .i64 (a:Nat)) (.int .i64 (b:Nat)) (.int .i64 0) (.int .i64 0) 226)
 rw [show Lib.countByte s.data.toList 10=k from hk.symm] at HC
 by_cases hz:k=0
 case pos =>
  subst hz
  have HA:Hid (adv s.data.toList (a,b)=(a,b + s.size)):=Lib.hid (by rw [adv_none hk.symm,HL.out])
  rw [HA.out]
  clear hk hkl HI
  unfold placeV
  go_enter Tryz.func222,Tryz.ntmps222
  go_wp2_with fail
  refine (HC.out _).mono ?_
  rintro e w1 ⟨rfl,hw⟩
  subst hw
  go_wp2_with fail
  refine bodyPost_ret (v:=.agg #[.int .i64 (a:Nat),.int .i64 ((b + s.size:Nat))]) ?_ rfl ⟨rfl,?_⟩
  ·refine cs_result1 rfl _ _ _ (a:=⟨w.heap.size + 1,0,none⟩) (by rfl) ?_
   go_simp
  ·exact place_new w _ _ _ _ _
 case neg =>
  obtain ⟨i,hi,e1,e2⟩:=last_at (s:=s) (by omega)
  have HA:Hid (adv s.data.toList (a,b)=(a + k,s.size - i)):=Lib.hid (Prod.ext (by rw [adv_line,hk]) (e2 _))
  have hI2:Lib.lastIndexByte s (((⟨#[10]⟩:ByteArray)[0]'(by decide)).toNat:Int)=i:=e1
  have HI2:Hid (∀ w1,Calls Tryz.prog 250 #[.string s,.string ⟨#[10]⟩] w1 fun e w'=>e=.returned (.int .i64 (i:Nat)) ∧ w'=w1):=Lib.hid (fun w1=>by have:=HI.out w1; rw [hI2] at this; exact this)
  rw [HA.out]
  have t1:((k:Int) == 0)=false:=by rw [beq_eq_false_iff_ne]; omega
  obtain ⟨d,hd⟩:∃ d,d=s.size - i:=⟨_,rfl⟩
  have hdi:(s.size:Int) - (i:Int)=(d:Int):=by omega
  have hds:d ≤ s.size:=by omega
  rw [← hd]
  have HD:=Lib.hid hdi
  obtain ⟨m,hm⟩:∃ m,m=a + k:=⟨_,rfl⟩
  rw [← hm]
  have hml:m ≤ 4611686018427387903:=by omega
  have HM:=Lib.hid hm
  have hak:a + k ≤ 4611686018427387903:=by omega
  have HAK:=Lib.hid hak
  clear hk e1 e2 hI2 HI hd hdi hm hz hak
  unfold placeV
  go_enter Tryz.func222,Tryz.ntmps222
  go_wp2_with fail
  refine (HC.out _).mono ?_
  rintro e w1 ⟨rfl,hw⟩
  subst hw
  go_wp2_with fail
  refine wp_region_held_drew (S:=(fun W=>W.cell? ⟨w.heap.size,0,none⟩=some (.int .i64 (a:Nat)))) (by kernel_rfl) (by go_simp) (fun hH0=>?_)
  refine wpAnyH_take (i:=0) (v:=.pointer (some ⟨w.heap.size,0,none⟩)) rfl (by kernel_rfl) (by kernel_rfl) (by kernel_rfl) (fun _ _ _ h=>h) (Or.inl ⟨by kernel_rfl,fun wS hSw=>by (try dsimp only at hSw); go_simp⟩) hH0 ?_
  refine wpAnyH_take (i:=1) (v:=.int .i64 (a:Nat)) rfl (by kernel_rfl) (by kernel_rfl) (by kernel_rfl) (fun _ _ _ h=>h) (Or.inl ⟨by kernel_rfl,fun wS hSw=>by (try dsimp only at hSw); go_simp⟩) hH0 ?_
  refine wpAnyH_take (i:=2) (v:=.int .i64 (k:Nat)) rfl (by kernel_rfl) (by kernel_rfl) (by kernel_rfl) (fun _ _ _ h=>h) (Or.inl ⟨by kernel_rfl,fun wS hSw=>by (try dsimp only at hSw); go_simp⟩) hH0 ?_
  refine wpAnyH_take (i:=3) (v:=.int .i64 (m:Nat)) rfl (by kernel_rfl) (by kernel_rfl) (by kernel_rfl) (fun _ _ _ h=>h) (Or.inl ⟨by kernel_rfl,fun wS hSw=>by (try dsimp only at hSw); rw [HM.out]; have:=HAK.out; go_simp; exact lx_wrap (by omega) (by omega)⟩) hH0 ?_
  refine wpAnyH_take (i:=4) (v:=.string s) rfl (by kernel_rfl) (by kernel_rfl) (by kernel_rfl) (fun _ _ _ h=>h) (Or.inl ⟨by kernel_rfl,fun wS hSw=>by (try dsimp only at hSw); go_simp⟩) hH0 ?_
  refine wpAnyH_take (i:=5) (v:=.int .i64 (s.size:Nat)) rfl (by kernel_rfl) (by kernel_rfl) (by kernel_rfl) (fun _ _ _ h=>h) (Or.inl ⟨by kernel_rfl,fun wS hSw=>by (try dsimp only at hSw); go_simp⟩) hH0 ?_
  refine wpAnyH_take (i:=6) (v:=.string s) rfl (by kernel_rfl) (by kernel_rfl) (by kernel_rfl) (fun _ _ _ h=>h) (Or.inl ⟨by kernel_rfl,fun wS hSw=>by (try dsimp only at hSw); go_simp⟩) hH0 ?_
  refine wpAnyH_ready (rs:=[7]) (by kernel_rfl) (by simp) ?_
  refine AllReadyH.cons rfl (fun K hK=>?_) AllReadyH.nil
  rw [if_pos (by kernel_rfl)]
  go_simp
  refine (HI2.out _).mono ?_
  rintro e w2 ⟨rfl,hw⟩
  subst hw
  refine hK.out _ _ (by go_simp) (fun hH1=>?_)
  clear hK K
  refine wpAnyH_take (i:=8) (v:=.int .i64 (d:Nat)) rfl (by kernel_rfl) (by kernel_rfl) (by kernel_rfl) (fun _ _ _ h=>h) (Or.inl ⟨by kernel_rfl,fun wS hSw=>by (try dsimp only at hSw); rw [← HD.out]; go_simp; exact lx_wrap (by omega) (by omega)⟩) hH1 ?_
  refine wpAnyH_take (i:=9) (v:=.agg #[.int .i64 (m:Nat),.int .i64 (d:Nat)]) rfl (by kernel_rfl) (by kernel_rfl) (by kernel_rfl) (fun _ _ _ h=>h) (Or.inl ⟨by kernel_rfl,fun wS hSw=>by (try dsimp only at hSw); go_simp⟩) hH1 ?_
  refine wpAnyH_ready (rs:=[10]) (by kernel_rfl) (by simp) ?_
  refine AllReadyH.cons rfl (fun K hK=>?_) AllReadyH.nil
  rw [if_pos (by kernel_rfl)]
  go_simp
  refine hK.out _ _ (by go_simp) (fun hH2=>?_)
  clear hK K
  refine wpAnyH_done (by kernel_rfl) ?_ _
  go_simp
  go_wp2_with fail
  refine bodyPost_ret (v:=.agg #[.int .i64 (m:Nat),.int .i64 (d:Nat)]) ?_ rfl ⟨rfl,?_⟩
  ·refine cs_result1 rfl _ _ _ (a:=⟨w.heap.size + 1,0,none⟩) (by rfl) ?_
   go_simp
  ·exact (place_new w _ _ _ _ _).drew
end Go.Proofs.YtiafhfchjhffhaaGreatDoor
