/- paclaim: QuoteRef QuoteRefOne QuoteRefB QuoteRefC -/
import Derived.Test.YtmknmmbfaljkbaaGreatDoorLowQuo
import Derived.IntWalk
import Derived.Laws.IdiomStrings
namespace Go.Proofs.YtmknmmbfaljkbaaGreatDoor
open Go.RowKit
theorem hex_at (k:Nat) (h:k < 16):(⟨#[48,49,50,51,52,53,54,55,56,57,97,98,99,100,101,102]⟩:ByteArray).extract k (k + 1)=⟨#[hx k]⟩:=by
 have:∀ k:Fin 16,(⟨#[48,49,50,51,52,53,54,55,56,57,97,98,99,100,101,102]⟩:ByteArray).extract k.val (k.val + 1)=⟨#[hx k.val]⟩:=by decide +kernel
 exact this ⟨k,h⟩
set_option maxHeartbeats 400000 in
theorem hex_calls (k:Nat) (h:k < 16) (w:World) :
  Calls Tryz.prog 80 #[.int .i64 k] w fun e w'=>e=.returned (.string ⟨#[hx k]⟩) ∧ w=w':=by
 have HD:=Lib.hid (hex_at k h)
 go_enter Tryz.func80,Tryz.ntmps80
 go_wp2_with fail
 go_ret
 exact ⟨ret_str HD.out,rfl⟩
set_option maxHeartbeats 400000 in
theorem refOne_calls (c:UInt8) (w:World) :
  Calls Tryz.prog 64 #[.int .u8 c.toNat] w fun e w'=>e=.returned (.string ⟨(one c).toArray⟩) ∧ Below w.heap.size w w':=by
 by_cases h0:c=34
 ·subst h0
  go_enter Tryz.func64,Tryz.ntmps64
  go_wp2
  go_ret
  exact ⟨rfl,Below.refl _ _⟩
 by_cases h1:c=92
 ·subst h1
  clear h0
  go_enter Tryz.func64,Tryz.ntmps64
  go_wp2
  go_ret
  exact ⟨rfl,Below.refl _ _⟩
 by_cases h2:c=10
 ·subst h2
  clear h0 h1
  go_enter Tryz.func64,Tryz.ntmps64
  go_wp2
  go_ret
  exact ⟨rfl,Below.refl _ _⟩
 by_cases h3:c=13
 ·subst h3
  clear h0 h1 h2
  go_enter Tryz.func64,Tryz.ntmps64
  go_wp2
  go_ret
  exact ⟨rfl,Below.refl _ _⟩
 by_cases h4:c=9
 ·subst h4
  clear h0 h1 h2 h3
  go_enter Tryz.func64,Tryz.ntmps64
  go_wp2
  go_ret
  exact ⟨rfl,Below.refl _ _⟩
 have t0:((c.toNat:Int) == 34)=false:=by rw [show ((c.toNat:Int) == 34)=(c == 34) from byte_beq c 34 (by omega)]; simpa using h0
 have t1:((c.toNat:Int) == 92)=false:=by rw [show ((c.toNat:Int) == 92)=(c == 92) from byte_beq c 92 (by omega)]; simpa using h1
 have t2:((c.toNat:Int) == 10)=false:=by rw [show ((c.toNat:Int) == 10)=(c == 10) from byte_beq c 10 (by omega)]; simpa using h2
 have t3:((c.toNat:Int) == 13)=false:=by rw [show ((c.toNat:Int) == 13)=(c == 13) from byte_beq c 13 (by omega)]; simpa using h3
 have t4:((c.toNat:Int) == 9)=false:=by rw [show ((c.toNat:Int) == 9)=(c == 9) from byte_beq c 9 (by omega)]; simpa using h4
 have hl:ltB c=false:=by unfold ltB; simp [h0,h1,h2,h3,h4]
 have hlt:c.toNat < 256:=c.toNat_lt
 by_cases hp:plB c=true
 ·rw [one_plain c hp]
  have hr:32 ≤ c.toNat ∧ c.toNat ≤ 126:=by
   unfold plB at hp
   simp only [Bool.and_eq_true,decide_eq_true_eq] at hp
   exact ⟨hp.1,hp.2.1⟩
  obtain ⟨g1,g2⟩:=hr
  have t5:decide ((c.toNat:Int) < 32)=false:=by simp; omega
  have t6:decide ((126:Int) < (c.toNat:Int))=false:=by simp; omega
  have hc:(convert 43 9 (.slice (some ⟨w.heap.size,0,none⟩) 1 1)).run Tryz.prog (w.alloc (.cells #[.int .u8 c.toNat] 5))=.ok (.string ⟨#[c]⟩) (w.alloc (.cells #[.int .u8 c.toNat] 5)) :=
   run_convert_bytes_back _ 43 9 5 ⟨w.heap.size,0,none⟩ 1 [c] Tryz.underlying43 Tryz.underlying5 Tryz.underlying9 (by
    intro j hj
    have:j=0:=by simpa using hj
    subst this
    simp [Addr.add])
  clear h0 h1 h2 h3 h4 hp hl g1 g2
  go_enter Tryz.func64,Tryz.ntmps64
  go_wp2
  go_ret
  exact ⟨rfl,(Below.refl _ _).alloc (Nat.le_refl _) _⟩
 ·have hp':plB c=false:=by simpa using hp
  rw [one_hex c hp' hl]
  obtain ⟨d1,e1⟩:∃ d,d=hx (c.toNat / 16):=⟨_,rfl⟩
  obtain ⟨d2,e2⟩:∃ d,d=hx (c.toNat % 16):=⟨_,rfl⟩
  have k1:=fun w=>hex_calls (c.toNat / 16) (by omega) w
  have k2:=fun w=>hex_calls (c.toNat % 16) (by omega) w
  rw [← e1] at k1 ⊢
  rw [← e2] at k2 ⊢
  rw [show (((c.toNat / 16:Nat)):Int)=(c.toNat:Int) / 16 by omega] at k1
  rw [show (((c.toNat % 16:Nat)):Int)=(c.toNat:Int) % 16 by omega] at k2
  have H1:=Lib.hid k1
  have H2:=Lib.hid k2
  by_cases hs:c.toNat < 32
  ·have t5:decide ((c.toNat:Int) < 32)=true:=by simp; omega
   clear h0 h1 h2 h3 h4 hp hl hp' hs e1 e2 k1 k2
   go_enter Tryz.func64,Tryz.ntmps64
   go_wp2_with fail
   refine (H1.out _).mono ?_
   rintro e w' ⟨rfl,rfl⟩
   go_wp2_with fail
   refine (H2.out _).mono ?_
   rintro e w' ⟨rfl,rfl⟩
   go_wp2_with fail
   go_ret
   exact ⟨rfl,Below.refl _ _⟩
  ·have hb:126 < c.toNat:=by
    refine Nat.lt_of_not_le fun hle=>?_
    rw [show plB c=true by unfold plB; simp [h0,h1,hle,Nat.le_of_not_lt hs]] at hp'
    exact absurd hp' (by decide)
   have t5:decide ((c.toNat:Int) < 32)=false:=by simp; omega
   have t6:decide ((126:Int) < (c.toNat:Int))=true:=by simp; omega
   clear h0 h1 h2 h3 h4 hp hl hp' hs e1 e2 k1 k2
   go_enter Tryz.func64,Tryz.ntmps64
   go_wp2_with fail
   refine (H1.out _).mono ?_
   rintro e w' ⟨rfl,rfl⟩
   go_wp2_with fail
   refine (H2.out _).mono ?_
   rintro e w' ⟨rfl,rfl⟩
   go_wp2_with fail
   go_ret
   exact ⟨rfl,Below.refl _ _⟩
theorem refOne_named (c:UInt8):∃ b:ByteArray,Hid (b.data.toList=one c) ∧ Hid (∀ w,Calls Tryz.prog 64 #[.int .u8 c.toNat] w fun e w'=>e=.returned (.string b) ∧ Below w.heap.size w w') :=
 ⟨⟨(one c).toArray⟩,Lib.hid rfl,Lib.hid (refOne_calls c)⟩
theorem refOne_num (k:Nat) (hk:k < 256):∃ b:ByteArray,Hid (b.data.toList=one (UInt8.ofNat k)) ∧ Hid (∀ w,Calls Tryz.prog 64 #[.int .u8 (k:Int)] w fun e w'=>e=.returned (.string b) ∧ Below w.heap.size w w'):=by
 obtain ⟨b,hb,hc⟩:=refOne_named (UInt8.ofNat k)
 have e:(UInt8.ofNat k).toNat=k:=by rw [UInt8.toNat_ofNat']; omega
 have hc':=hc.out
 rw [e] at hc'
 exact ⟨b,hb,Lib.hid hc'⟩
theorem head_eq (s b:ByteArray) (_hle:b.size ≤ s.size):(s.extract 0 b.size=b) ↔ ∃ x,s.data.toList=b.data.toList ++ x:=by
 have e1:(s.extract 0 b.size).data.toList=s.data.toList.take b.data.toList.length:=by
  rw [ByteArray.data_extract]; simp
 constructor
 ·intro h
  have:=congrArg (·.data.toList) h
  simp only [e1] at this
  exact ⟨s.data.toList.drop b.data.toList.length,by conv=>lhs; rw [← List.take_append_drop b.data.toList.length s.data.toList,this]⟩
 ·rintro ⟨x,hx⟩
  have:(s.extract 0 b.size).data.toList=b.data.toList:=by rw [e1,hx]; simp
  exact ByteArray.ext (Array.toList_inj.1 this)
theorem head_yes (s b:ByteArray) (h:∃ x,s.data.toList=b.data.toList ++ x):b.size ≤ s.size ∧ ((s.extract 0 b.size).toList == b.toList)=true:=by
 have hle:b.size ≤ s.size:=by
  obtain ⟨x,hx⟩:=h
  rw [ba_size,ba_size,hx,List.length_append]; omega
 exact ⟨hle,by rw [(head_eq s b hle).2 h]; simp⟩
theorem head_no (s b:ByteArray) (hle:b.size ≤ s.size) (h:∀ x,s.data.toList ≠ b.data.toList ++ x):((s.extract 0 b.size).toList == b.toList)=false:=by
 rw [beq_eq_false_iff_ne]
 intro e
 have e':s.extract 0 b.size=b:=by
  rw [ByteArray.toList_eq,ByteArray.toList_eq] at e
  exact ByteArray.ext (Array.toList_inj.1 e)
 obtain ⟨x,hx⟩:=(head_eq s b hle).1 e'
 exact h x hx
set_option maxHeartbeats 1000000 in
set_option maxRecDepth 100000 in
theorem byteOf_yes (s:ByteArray) (c:UInt8) (x:List UInt8) (w:World) (_hs:s.size ≤ 9223372036854775807) (h:s.data.toList=one c ++ x) :
  Calls Tryz.prog 46 #[.string s] w fun e w'=>e=.returned (.tuple #[.int .u8 c.toNat,.int .i64 (one c).length]) ∧ Below w.heap.size w w':=by
 have H:=Lib.hid h
 clear h
 have hc:c.toNat < 256:=c.toNat_lt
 go_enter Tryz.func46,Tryz.ntmps46
 go_wp2_with fail
 go_loopw [4] (fun i wr=>∃ k:Nat,k ≤ c.toNat ∧ i=.int .i64 k ∧ Below w.heap.size w wr) (fun i _=>256 - (intOf i).toNat)
 case atStart=>exact ⟨0,Nat.zero_le _,rfl,Below.refl _ _⟩
 case round =>
  obtain ⟨k,hk,rfl,hb⟩:=hrel
  obtain ⟨b,HB,HO⟩:=refOne_num k (by omega)
  have t0:decide ((k:Int) < 256)=true:=by simp; omega
  have hk256:k < 256:=by omega
  by_cases hkc:k=c.toNat
  ·have hbc:b.data.toList=one c:=by rw [HB.out,hkc]; simp
   obtain ⟨hle,t1⟩:=head_yes s b ⟨x,by rw [hbc]; exact H.out⟩
   have HKC:=Lib.hid hkc
   have HBC:=Lib.hid hbc
   clear hk hc hkc hbc
   go_wp2_with (go_at_call 64; refine (HO.out _).mono ?_; rintro e w1 ⟨rfl,hb1⟩)
   go_ret2
   refine ⟨?_,hb.trans (hb1.mono hb.size)⟩
   rw [HKC.out,ba_size,HBC.out]
   rfl
  ·have hne:∀ y,s.data.toList ≠ b.data.toList ++ y:=by
    intro y hy
    rw [H.out,HB.out] at hy
    have:=(one_inj hy).1
    rw [this,UInt8.toNat_ofNat'] at hkc
    omega
   have hlt:k < c.toNat:=by omega
   by_cases hle:b.size ≤ s.size
   ·have t1:=head_no s b hle hne
    clear hk hc hkc hne
    go_wp2_with (go_at_call 64; refine (HO.out _).mono ?_; rintro e w1 ⟨rfl,hb1⟩)
    go_roundw
    case rel=>exact ⟨k + 1,by omega,by go_num,hb.trans (hb1.mono hb.size)⟩
    case measure=>simp [intOf]; omega
   ·have t1:decide (b.size ≤ s.size)=false:=by simpa using hle
    clear hk hc hkc hne hle
    go_wp2_with (go_at_call 64; refine (HO.out _).mono ?_; rintro e w1 ⟨rfl,hb1⟩)
    go_roundw
    case rel=>exact ⟨k + 1,by omega,by go_num,hb.trans (hb1.mono hb.size)⟩
    case measure=>simp [intOf]; omega
set_option maxHeartbeats 1000000 in
set_option maxRecDepth 100000 in
theorem byteOf_no (s:ByteArray) (w:World) (_hs:s.size ≤ 9223372036854775807) (h:∀ c x,s.data.toList ≠ one c ++ x) :
  Calls Tryz.prog 46 #[.string s] w fun e w'=>e=.returned (.tuple #[.int .u8 0,.int .i64 0]) ∧ Below w.heap.size w w':=by
 have H:=Lib.hid h
 clear h
 go_enter Tryz.func46,Tryz.ntmps46
 go_wp2_with fail
 go_loopw [4] (fun i wr=>∃ k:Nat,k ≤ 256 ∧ i=.int .i64 k ∧ Below w.heap.size w wr) (fun i _=>256 - (intOf i).toNat)
 case atStart=>exact ⟨0,Nat.zero_le _,rfl,Below.refl _ _⟩
 case round =>
  obtain ⟨k,hk,rfl,hb⟩:=hrel
  by_cases hk256:k < 256
  ·obtain ⟨b,HB,HO⟩:=refOne_num k (by omega)
   have t0:decide ((k:Int) < 256)=true:=by simp; omega
   have hne:∀ y,s.data.toList ≠ b.data.toList ++ y:=by
    intro y hy
    rw [HB.out] at hy
    exact H.out _ _ hy
   by_cases hle:b.size ≤ s.size
   ·have t1:=head_no s b hle hne
    clear hk hne
    go_wp2_with (go_at_call 64; refine (HO.out _).mono ?_; rintro e w1 ⟨rfl,hb1⟩)
    go_roundw
    case rel=>exact ⟨k + 1,by omega,by go_num,hb.trans (hb1.mono hb.size)⟩
    case measure=>simp [intOf]; omega
   ·have t1:decide (b.size ≤ s.size)=false:=by simpa using hle
    clear hk hne hle
    go_wp2_with (go_at_call 64; refine (HO.out _).mono ?_; rintro e w1 ⟨rfl,hb1⟩)
    go_roundw
    case rel=>exact ⟨k + 1,by omega,by go_num,hb.trans (hb1.mono hb.size)⟩
    case measure=>simp [intOf]; omega
  ·have t0:decide ((k:Int) < 256)=false:=by simp; omega
   clear hk hk256
   go_wp2_with fail
   go_ret2
   exact ⟨rfl,hb⟩
def RefPost (l:List UInt8) (B:Nat) (w:World) (e:Ending) (w':World):Prop :=
 ∃ t n ok,CutTold l t n ok ∧ e=.returned (.tuple #[.string ⟨t.toArray⟩,.int .i64 (n:Int)]) ∧ Below B w w'
theorem owns_below {B:Nat} {v:Value} {n:Nat} {xs:List Value} {w w':World} (h:w.ownsRow B 5 1 v n xs) (hb:Below w.heap.size w w'):w'.ownsRow B 5 1 v n xs:=by
 obtain ⟨hl,hown⟩:=h
 refine ⟨hl,?_⟩
 rcases hown with hn | ⟨g,cap,cur,rfl,h1,hg,rest⟩
 ·exact .inl hn
 ·have hglt:g < w.heap.size:=(Array.getElem?_eq_some_iff.1 hg).1
  exact .inr ⟨g,cap,cur,rfl,h1,by rw [hb.block g hglt]; exact hg,rest⟩
theorem gathered {B:Nat} {v:Value} {t:List UInt8} {w:World} (h:w.ownsRow B 5 1 v t.length (Lib.byteCells t)) :
  (convert 43 9 v).run Tryz.prog w=.ok (.string ⟨t.toArray⟩) w:=by
 obtain ⟨hl,hown⟩:=h
 rcases hown with ⟨rfl,h0⟩ | ⟨g,cap,cur,rfl,h1,hg,hcap,hm,hsz,htk⟩
 ·have:t=[]:=List.length_eq_zero_iff.1 h0
  subst this
  rw [run_convert_bytes_string w 43 9 5 none 0 0 Tryz.underlying43 Tryz.underlying5 Tryz.underlying9]
  simp [Conv.bytesToString]
  rfl
 ·refine run_convert_bytes_back w 43 9 5 ⟨g,0,none⟩ cap t Tryz.underlying43 Tryz.underlying5 Tryz.underlying9 fun j hj=>?_
  have hadd:(⟨g,0,none⟩:Addr).add j=⟨g,j,none⟩:=by unfold Addr.add; split <;> simp_all
  rw [hadd,cell_of_row w g j cur 5 (0,0) hg]
  have h2:(Lib.byteCells t)[j]? = some (.int .u8 (t[j].toNat:Int)):=by simp [Lib.byteCells,hj]
  rw [← htk,Nat.mul_one,List.getElem?_take,if_pos hj] at h2
  simpa using h2
set_option maxHeartbeats 1000000 in
theorem refCut_calls (s:ByteArray) (w:World) (hs:s.size ≤ 4294967296) :
  Calls Tryz.prog 27 #[.string s] w (RefPost s.data.toList w.heap.size w):=by
 obtain ⟨l,hl⟩:∃ l,l=s.data.toList:=⟨_,rfl⟩
 have hlen:s.size=l.length:=by rw [hl,ba_size]
 rw [← hl]
 have HL:=Lib.hid hl
 have HN:=Lib.hid hlen
 by_cases h0:s.size=0
 ·have HT:Hid (CutTold l [] 0 false):=Lib.hid (told_none (by rw [List.length_eq_zero_iff.1 (hlen.symm.trans h0)]; simp))
  have e1:s.toList=[]:=by rw [ByteArray.toList_eq,← hl]; exact List.length_eq_zero_iff.1 (hlen.symm.trans h0)
  have t0:((s.size:Int) == 0)=true:=by rw [h0]; rfl
  have t0':s.toList.isEmpty=true:=by rw [e1]; rfl
  clear hl hlen h0
  go_enter Tryz.func27,Tryz.ntmps27
  go_wp2_with fail
  go_ret2
  exact ⟨[],0,false,HT.out,rfl,Below.refl _ _⟩
 have h1s:1 ≤ s.size:=by omega
 have h0s:0 < s.size:=h1s
 have e1:¬ s.toList=[]:=by rw [ByteArray.toList_eq,← hl]; intro e; rw [e,List.length_nil] at hlen; omega
 have t0:((s.size:Int) == 0)=false:=by rw [beq_eq_false_iff_ne]; omega
 have t0':s.toList.isEmpty=false:=by simpa using e1
 obtain ⟨c0,rest0,hr0⟩:∃ c r,l=c :: r:=by
  cases l with
  | nil=>rw [List.length_nil] at hlen; omega
  | cons c r=>exact ⟨c,r,rfl⟩
 have hc0:s[0]=c0:=byte_at s 0 h0s c0 (by rw [← hl,hr0]; rfl)
 by_cases h34:c0=34
 case neg =>
  have HT:Hid (CutTold l [] 0 false):=Lib.hid (told_none (by rw [hr0]; simpa using h34))
  have t1:((s[0].toNat:Int) != 34)=true:=by rw [bne,show ((s[0].toNat:Int) == 34)=(s[0] == 34) from byte_beq s[0] 34 (by omega),hc0]; simpa using h34
  clear hl hlen h0 e1 hr0 hc0 h34
  go_enter Tryz.func27,Tryz.ntmps27
  go_wp2_with fail
  go_ret2
  exact ⟨[],0,false,HT.out,rfl,Below.refl _ _⟩
 case pos =>
  subst h34
  have HR:=Lib.hid hr0
  have t1:((s[0].toNat:Int) != 34)=false:=by rw [hc0]; rfl
  obtain ⟨i0,hi,hz0,hz1,hz2⟩:=info_parts infoByte
  have HI:=Lib.hid hi
  have HZ0:=Lib.hid hz0
  have HZ1:=Lib.hid hz1
  have HZ2:=Lib.hid hz2
  clear hl hlen h0 hr0 hc0 hi hz0 hz1 hz2
  go_enter Tryz.func27,Tryz.ntmps27
  go_wp2_with fail
  go_loopw [4,5] (fun o i wr=>∃ (k:Nat) (t rest:List UInt8),k ≤ s.size ∧ i=.int .i64 k ∧ Hid (l=34 :: (body t ++ rest)) ∧ Hid (k=1 + (body t).length) ∧ Hid (wr.ownsRow w.heap.size 5 1 o t.length (Lib.byteCells t)) ∧ Below w.heap.size w wr) (fun _ i _=>s.size - (intOf i).toNat)
  case atStart=>exact ⟨1,[],rest0,h1s,rfl,Lib.hid (by rw [HR.out]; rfl),Lib.hid rfl,Lib.hid ⟨rfl,.inl ⟨rfl,rfl⟩⟩,Below.refl _ _⟩
  case round =>
   rename_i o _
   obtain ⟨k,t,rest,hk,rfl,HT,HK,HO,k2⟩:=hrel
   have htl:t.length ≤ 4294967296:=by
    have h1:=(body_len t).1
    have h2:=HK.out
    omega
   have hdrop:s.data.toList.drop k=rest:=by
    rw [← HL.out,HT.out,HK.out,Nat.add_comm]
    simp
   by_cases hlt:k < s.size
   case neg =>
    have hr:rest=[]:=by
     rw [← hdrop,List.drop_eq_nil_iff,← ba_size]; omega
    have HX:=Lib.hid (told_no HT.out (by rw [hr]; simp) (by rw [hr]; intro c x e; have:=(one_len c).1; have h3:=congrArg List.length e; simp at h3; omega))
    have t2:decide (k < s.size)=false:=by simpa using hlt
    have t3:decide (s.size ≤ k)=true:=by simp; omega
    clear hdrop hr
    go_wp2_with fail
    go_ret2
    exact ⟨[],0,false,HX.out,rfl,k2⟩
   case pos =>
    have hrl:rest=s[k] :: s.data.toList.drop (k + 1):=by
     rw [← hdrop,List.drop_eq_getElem_cons (by rw [← ba_size]; exact hlt)]; rfl
    have t2:decide (k < s.size)=true:=by simpa using hlt
    have t3:decide (s.size ≤ k)=false:=by simp; omega
    by_cases h34:s[k]=34
    ·have HX:=Lib.hid (told_yes (l:=l) (t:=t) (y:=s.data.toList.drop (k + 1)) (by rw [HT.out,hrl,h34]))
     have t1:((s[k].toNat:Int) != 34)=false:=by rw [h34]; rfl
     have HKn:Hid (((body t).length + 2:Nat)=k + 1):=Lib.hid (by rw [HK.out]; omega)
     have hcv:=gathered HO.out
     clear hdrop hrl h34
     go_wp2_with fail
     go_ret2
     have h5:=HX.out
     rw [HKn.out] at h5
     exact ⟨t,k + 1,true,h5,by go_num,k2⟩
    ·have t1:((s[k].toNat:Int) != 34)=true:=by rw [bne,show ((s[k].toNat:Int) == 34)=(s[k] == 34) from byte_beq s[k] 34 (by omega)]; simpa using h34
     have hex:(s.extract k s.size).data.toList=rest:=by rw [extract_list,hdrop]
     have hexs:(s.extract k s.size).size ≤ 9223372036854775807:=by
      rw [ba_size,hex,← hdrop,List.length_drop,← ba_size]; omega
     by_cases hc:∃ c x,rest=one c ++ x
     ·obtain ⟨c,x,hcx⟩:=hc
      have H5:=Lib.hid (fun w1=>byteOf_yes (s.extract k s.size) c x w1 hexs (hex.trans hcx))
      obtain ⟨n,hn⟩:∃ n,n=(one c).length:=⟨_,rfl⟩
      rw [← hn] at H5
      have hn1:1 ≤ n ∧ n ≤ 4:=by rw [hn]; exact one_len c
      obtain ⟨hn1,hn4⟩:=hn1
      have HT2:Hid (l=34 :: (body (t ++ [c]) ++ x)):=Lib.hid (by rw [HT.out,hcx,body_snoc,List.append_assoc])
      have hkn:k + n ≤ s.size:=by
       rw [HN.out,HT2.out,HK.out,hn,body_snoc]
       simp only [List.length_cons,List.length_append]
       omega
      have t4:((n:Int) == 0)=false:=by rw [beq_eq_false_iff_ne]; omega
      have HK2:Hid (k + n=1 + (body (t ++ [c])).length):=Lib.hid (by rw [HK.out,hn,body_snoc,List.length_append]; omega)
      clear hdrop hrl h34 hex hexs hcx hn
      go_wp2_with fail
      refine (H5.out _).mono ?_
      rintro e w1 ⟨rfl,k3⟩
      have k4:=k2.trans (k3.mono k2.size)
      have HO1:=Lib.hid (owns_below HO.out k3)
      clear k2 k3 HO
      go_wp2_with (at_builtin; refine wpList_append_own _ rfl _ _ 43 rfl w.heap.size 5 i0 (.int .u8 0) 1 1 Tryz.underlying43 HI.out HZ0.out HZ1.out HZ2.out rfl (by decide) _ _ _ rfl (HO1.out.alloc _) ⟨w1.heap.size,0,none⟩ 1 1 [.int .u8 c.toNat] rfl rfl ?c1 ?c2 ?c3 ?c4 ?c5 ?_)
      case c1 =>
       intro j u hj
       match j,hj with
       | 0,hj=>simp at hj; subst hj; simp [Addr.add]
      case c2=>intro u hu; simp at hu; subst hu; rfl
      case c3=>unfold maxLen; omega
      case c4=>omega
      case c5=>have:=k4.size; simp; omega
      intro v' w2 hown' hgrow _
      have k5:=(k4.alloc k4.size _).grown hgrow (by have:=k4.size; simp; omega) (fun k hk=>(HO1.out.lt k hk).1)
      have HO2:Hid (w2.ownsRow w.heap.size 5 1 v' (t ++ [c]).length (Lib.byteCells (t ++ [c]))):=Lib.hid (by rw [← cells_snoc,List.length_append]; exact hown')
      clear hown' hgrow k4 HO1
      go_wp2_with fail
      go_roundw
      case rel=>exact ⟨k + n,t ++ [c],x,hkn,by go_num,HT2,HK2,HO2,k5⟩
      case measure=>simp [intOf]; omega
     ·have hno:∀ c x,rest ≠ one c ++ x:=fun c x e=>hc ⟨c,x,e⟩
      have HX:=Lib.hid (told_no HT.out (by rw [hrl]; intro z e; exact h34 (List.cons.inj e).1) hno)
      have H5:=Lib.hid (fun w1=>byteOf_no (s.extract k s.size) w1 hexs (by rw [hex]; exact hno))
      clear hdrop hrl h34 hex hexs hc hno
      go_wp2_with fail
      refine (H5.out _).mono ?_
      rintro e w1 ⟨rfl,k3⟩
      have k4:=k2.trans (k3.mono k2.size)
      clear k2 k3
      go_wp2_with fail
      go_ret2
      exact ⟨[],0,false,HX.out,rfl,k4⟩
end Go.Proofs.YtmknmmbfaljkbaaGreatDoor
