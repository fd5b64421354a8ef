/- paclaim: ShelfCsv CsvText CsvOwn CsvKeep CsvFail -/
import Derived.Test.YtiafhfchjhffhaaGreatDoorShelfAll
import Derived.Test.YtiafhfchjhffhaaGreatDoorBase
import Derived.WalkKit
import Derived.WalkSpells
import Derived.WalkLawsBesides
import Derived.Lib.Hide
import Derived.LoopTactic
import Derived.Test.YtiafhfchjhffhaaGreatDoorLowMem
import Derived.Maps.AppendAt
import Derived.OwnWalk
import Derived.Laws.StructEq
namespace Go.Proofs.YtiafhfchjhffhaaGreatDoor
open Go.RowKit
set_option linter.unusedVariables false
theorem cs_size (a:ByteArray):a.size=a.data.toList.length:=by rw [Array.length_toList]; rfl
theorem cs_tl (a:ByteArray):a.toList=a.data.toList:=ByteArray.toList_eq a
theorem cs_drop (s:ByteArray) (k:Nat):(s.extract k s.size).data.toList=s.data.toList.drop k:=by
 rw [ByteArray.data_extract]
 simp
 exact List.take_of_length_le (by simp)
theorem cs_take (s:ByteArray) (k:Nat):(s.extract 0 k).data.toList=s.data.toList.take k:=by
 rw [ByteArray.data_extract]
 simp
theorem cs_at (s:ByteArray) (k:Nat) (h:k < s.size):s.data.toList[k]? = some s[k]:=by
 have h':k < s.data.toList.length:=by rw [← cs_size]; exact h
 rw [List.getElem?_eq_getElem h']; rfl
theorem cs_cons (s:ByteArray) (k:Nat) (h:k < s.size):s.data.toList.drop k=s[k] :: s.data.toList.drop (k + 1):=by
 rw [List.drop_eq_getElem_cons (by rw [← cs_size]; exact h)]; rfl
theorem cs_ne {c:UInt8} {n:Nat} (hn:n < 256):c=UInt8.ofNat n ↔ c.toNat=n:=by
 constructor
 ·rintro rfl; simp; omega
 ·intro h; exact UInt8.toNat_inj.1 (by simp; omega)
theorem cs_beq (c:UInt8) (n:Nat) (hn:n < 256):((c.toNat:Int) == (n:Int))=(c == UInt8.ofNat n):=by
 rw [Bool.eq_iff_iff,beq_iff_eq,beq_iff_eq,cs_ne hn]; omega
theorem hp_one (l:List UInt8) (c:UInt8):Lib.hasPrefix l [c]=(l.head? == some c):=by
 unfold Lib.hasPrefix
 cases l with
 | nil=>rfl
 | cons d r =>
  by_cases h:c=d
  ·subst h; simp
  ·have h2:(c == d)=false:=by simpa using h
   have h3:(d == c)=false:=by simpa using fun e:d=c=>h e.symm
   simp [List.isPrefixOf,h2,h3]
theorem pre_calls1 (s:ByteArray) (c:UInt8) (w:World) :
  Calls Tryz.prog 247 #[.string s,.string ⟨#[c]⟩] w fun e w'=>e=.returned (.bool (s.data.toList.head? == some c)) ∧ w=w':=by
 refine (Tryz.strings_HasPrefix s ⟨#[c]⟩ w).mono ?_
 rintro e w' ⟨rfl,rfl⟩
 refine ⟨?_,rfl⟩
 rw [show (⟨#[c]⟩:ByteArray).data.toList=[c] from rfl,hp_one]
structure TIn (w:World) (a:Option Addr) (len:Nat) (L:List (List UInt8)):Prop where
 leng:L.length=len
 small:len ≤ 9223372036854775807
 row:0 < len → ∃ g off,a=some ⟨g,off,none⟩ ∧ g < w.heap.size ∧ ∀ j t,L[j]? = some t → w.cell? ⟨g,off + j,none⟩=some (.string ⟨t.toArray⟩)
theorem TIn.below {w w':World} {a:Option Addr} {len:Nat} {L:List (List UInt8)} (h:TIn w a len L) (hb:Below w.heap.size w w'):TIn w' a len L :=
 ⟨h.leng,h.small,fun h0=>by
  obtain ⟨g,off,e,hg,hr⟩:=h.row h0
  exact ⟨g,off,e,Nat.lt_of_lt_of_le hg hb.size,fun j t hj=>(hb.cell (p:=⟨g,off + j,none⟩) hg).trans (hr j t hj)⟩⟩
theorem TIn.nil {w:World} {a:Option Addr}:TIn w a 0 []:=⟨rfl,by omega,fun h=>by omega⟩
theorem TIn.grown {w w':World} {row:Option Nat} {a:Option Addr} {len:Nat} {L:List (List UInt8)} (h:TIn w a len L) (hg:w.grownBy w' row) (hne:∀ g off,a=some ⟨g,off,none⟩ → some g ≠ row):TIn w' a len L :=
 ⟨h.leng,h.small,fun h0=>by
  obtain ⟨g,off,e,hlt,hr⟩:=h.row h0
  exact ⟨g,off,e,Nat.lt_of_lt_of_le hlt hg.size,fun j t hj=>(World.cell?_of_block (a:=⟨g,off + j,none⟩) (hg.block g hlt (hne g off e))).trans (hr j t hj)⟩⟩
theorem TIn.at' {w w':World} {a:Option Addr} {len:Nat} {L:List (List UInt8)} (h:TIn w a len L) (hb:Below w.heap.size w w') {n:Nat} (hn:n < len) :
  ∃ g off,a=some ⟨g,off,none⟩ ∧ w'.cell? ⟨g,off + n,none⟩=some (.string ⟨(L.getD n []).toArray⟩):=by
 obtain ⟨g,off,e,hg,hr⟩:=(h.below hb).row (by omega)
 have:L[n]? = some (L.getD n []):=by
  have hl:n < L.length:=by rw [h.leng]; exact hn
  simp [List.getD,hl]
 exact ⟨g,off,e,hr n _ this⟩
def TObj (w:World) (a:Option Addr):Prop:=∀ g off,a=some ⟨g,off,none⟩ → CBlk w g 9
theorem TObj.below {w w':World} {a:Option Addr} (h:TObj w a) (hb:Below w.heap.size w w'):TObj w' a:=fun g off e=>(h g off e).below hb
theorem TObj.grown {w w':World} {a:Option Addr} {u:TypeId} {r:Nat} (h:TObj w a) (hr:CBlk w r u) (hne:9 ≠ u) (hg:w.grownBy w' (some r)):TObj w' a:=fun g off e =>
 (h g off e).grown hg (fun k=>(h g off e).ne hr hne (Option.some.inj k))
theorem TObj.ne {w:World} {a:Option Addr} {u:TypeId} {r:Nat} (h:TObj w a) (hr:CBlk w r u) (hne:9 ≠ u):∀ g off,a=some ⟨g,off,none⟩ → some g ≠ some r:=fun g off e k =>
 (h g off e).ne hr hne (Option.some.inj k)
structure Rs (w:World) (us:List Value) (LL:List (List (List UInt8))):Prop where
 leng:us.length=LL.length
 at':∀ n,n < LL.length → ∃ a c,us[n]? = some (.slice a (LL.getD n []).length c) ∧ TIn w a (LL.getD n []).length (LL.getD n []) ∧ TObj w a
theorem Rs.nil (w:World):Rs w [] []:=⟨rfl,fun n hn=>by simp at hn⟩
theorem Rs.below {w w':World} {us:List Value} {LL:List (List (List UInt8))} (h:Rs w us LL) (hb:Below w.heap.size w w'):Rs w' us LL:=⟨h.leng,fun n hn=>by
 obtain ⟨a,c,e,hs,ho⟩:=h.at' n hn
 exact ⟨a,c,e,hs.below hb,ho.below hb⟩⟩
theorem Rs.grown {w w':World} {us:List Value} {LL:List (List (List UInt8))} {u:TypeId} {r:Nat} (h:Rs w us LL) (hr:CBlk w r u) (hne:9 ≠ u) (hg:w.grownBy w' (some r)):Rs w' us LL:=⟨h.leng,fun n hn=>by
 obtain ⟨a,c,e,hs,ho⟩:=h.at' n hn
 exact ⟨a,c,e,hs.grown hg (ho.ne hr hne),ho.grown hr hne hg⟩⟩
structure RIn (w:World) (a:Option Addr) (len:Nat) (LL:List (List (List UInt8))) (vs:List Value):Prop where
 vals:Rs w vs LL
 leng:LL.length=len
 small:len ≤ 9223372036854775807
 row:0 < len → ∃ g off,a=some ⟨g,off,none⟩ ∧ g < w.heap.size ∧ ∀ j u,vs[j]? = some u → w.cell? ⟨g,off + j,none⟩=some u
theorem RIn.below {w w':World} {a:Option Addr} {len:Nat} {LL:List (List (List UInt8))} {vs:List Value} (h:RIn w a len LL vs) (hb:Below w.heap.size w w'):RIn w' a len LL vs :=
 ⟨h.vals.below hb,h.leng,h.small,fun h0=>by
  obtain ⟨g,off,e,hg,hr⟩:=h.row h0
  exact ⟨g,off,e,Nat.lt_of_lt_of_le hg hb.size,fun j u hj=>(hb.cell (p:=⟨g,off + j,none⟩) hg).trans (hr j u hj)⟩⟩
theorem RIn.at' {w w':World} {a:Option Addr} {len:Nat} {LL:List (List (List UInt8))} {vs:List Value} (h:RIn w a len LL vs) (hb:Below w.heap.size w w') {n:Nat} (hn:n < len) :
  ∃ g off b c,a=some ⟨g,off,none⟩ ∧ w'.cell? ⟨g,off + n,none⟩=some (.slice b (LL.getD n []).length c) ∧ TIn w' b (LL.getD n []).length (LL.getD n []):=by
 have h':=h.below hb
 obtain ⟨g,off,e,hg,hr⟩:=h'.row (by omega)
 obtain ⟨b,c,e1,hs,_⟩:=h'.vals.at' n (by rw [h'.leng]; exact hn)
 exact ⟨g,off,b,c,e,hr n _ e1,hs⟩
def ErrT (w:World):Prop:=w.cell? ⟨1,0,none⟩=some (.iface 277 (.agg #[.pointer (some ⟨11,75,none⟩)]))
theorem ErrT.below {w w':World} (h:ErrT w) (hb:Below w.heap.size w w'):ErrT w':=(hb.cell (p:=⟨1,0,none⟩) (block_lt_of_cell h)).trans h
def failV (e line col:Nat):Value:=.agg #[.int .i64 (e:Nat),.int .i64 (line:Nat),.int .i64 (col:Nat)]
set_option maxRecDepth 100000 in
theorem failEq (e l c e' l' c':Nat) (w:World):(Op.equalIn 10000 46 (.agg #[.int .i64 (e:Nat),.int .i64 (l:Nat),.int .i64 (c:Nat)]) (.agg #[.int .i64 (e':Nat),.int .i64 (l':Nat),.int .i64 (c':Nat)])).run Tryz.prog w=.ok (decide (e=e' ∧ l=l' ∧ c=c')) w:=by
 rw [run_equalIn_agg w 9999 _ _ _ (by simp only [Program.fieldsOf,Tryz.underlying46]) (by kernel_rfl)]
 simp only [Program.fieldsOf,Tryz.underlying46]
 go_simp
 repeat' split
 all_goals simp_all
 all_goals omega
theorem failGuard:Tryz.prog.eqGuardType Tryz.prog.depth 46=false:=by kernel_rfl
end Go.Proofs.YtiafhfchjhffhaaGreatDoor
