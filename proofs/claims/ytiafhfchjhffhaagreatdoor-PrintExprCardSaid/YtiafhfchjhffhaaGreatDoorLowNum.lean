/- paclaim: ParIs ShelfParse NumHasForm NumTab ErrIs NumParse -/
import Derived.Test.YtiafhfchjhffhaaGreatDoorRows
import Derived.WalkKit
import Derived.LaidEql
import Derived.Lib.IfaceEq
import Derived.Lib.Hide
import Derived.Stop.Asserts
import Derived.RowKitTokens
import Derived.Test.YtiafhfchjhffhaaGreatDoorShelfAll
import Derived.Test.YtiafhfchjhffhaaGreatDoorLowMath
import Derived.Test.YtiafhfchjhffhaaGreatDoorBase
import Derived.LoopTactic
import Derived.RegionTactic
import Derived.Deep.QuietTactic
import Derived.BigQuiet
import Derived.Lib.AppendIntMem
import Derived.Lib.LaidTab
import Derived.LaidMore
import Derived.Stop.Joined
import Derived.Stop.LaidErr
import Derived.ProofKit
import Derived.Lib.AtoiErrMem
import Derived.WalkSmall
import Derived.LaidLaws
namespace Go.Proofs.YtiafhfchjhffhaaGreatDoor
open Go.RowKit Go.Extern.Stop Go.Stop Go.Extern
set_option linter.unusedVariables false
theorem pi_typeOf (v:Value) (w:World):(Extern.ReflectliteType.typeOf #[.iface 44 v]).run Tryz.prog w=.ok (.iface 277 (.agg #[.pointer (some ⟨11,44,none⟩)])) w:=by kernel_rfl
def pi_cmpFn : Array Value → Sem Value := Extern.ReflectliteType.method fun t => do Extern.Rtype.noPackHeld "Comparable" t; pure (.bool (← typeInfo t).comparable)
theorem pi_comparable (w:World):(pi_cmpFn #[.agg #[.pointer (some ⟨11,44,none⟩)]]).run Tryz.prog w=.ok (.bool true) w:=by kernel_rfl
theorem pi_methodComparable (v : Value) (w : World) : (Go.method 479 277 v "Comparable").run Tryz.prog w = .ok (336, v) w := by kernel_rfl
theorem pi_comp:(Tryz.prog.info? 44).map (·.comparable)=some true:=by kernel_rfl
theorem pi_noIs (v:Value) (xT:TypeId) (w:World):(Instr.typeAssert (.iface 168 v) xT 311 true).run Tryz.prog w=.ok (.tuple #[.nilIface,.bool false]) w:=run_typeAssert_lacksB Tryz.underlying311 (by kernel_rfl) (by kernel_rfl) v xT w
theorem pi_noIsE (v:Value) (xT:TypeId) (w:World):(Instr.typeAssert (.iface 44 v) xT 311 true).run Tryz.prog w=.ok (.tuple #[.nilIface,.bool false]) w:=run_typeAssert_lacksB Tryz.underlying311 (by kernel_rfl) (by kernel_rfl) v xT w
theorem pi_hasUnwrap (v:Value) (xT:TypeId) (w:World):(Instr.typeAssert (.iface 168 v) xT 285 true).run Tryz.prog w=.ok (.tuple #[.iface 168 v,.bool true]) w:=run_typeAssert_hasB Tryz.underlying285 (by kernel_rfl) v xT w
theorem pi_noUnwrapE (v:Value) (xT:TypeId) (w:World):(Instr.typeAssert (.iface 44 v) xT 285 true).run Tryz.prog w=.ok (.tuple #[.nilIface,.bool false]) w:=run_typeAssert_lacksB Tryz.underlying285 (by kernel_rfl) (by kernel_rfl) v xT w
theorem pi_noUnwrapsE (v:Value) (xT:TypeId) (w:World):(Instr.typeAssert (.iface 44 v) xT 287 true).run Tryz.prog w=.ok (.tuple #[.nilIface,.bool false]) w:=run_typeAssert_lacksB Tryz.underlying287 (by kernel_rfl) (by kernel_rfl) v xT w
theorem pi_methodUnwrap (v : Value) (w : World) : (Go.method 479 168 v "Unwrap").run Tryz.prog w = .ok (328, v) w := by kernel_rfl
set_option maxHeartbeats 2000000 in
theorem pi_is (N:Nat) (d x:Int) (w:World) (h1:w.cell? ⟨N,2,none⟩=some (.iface 44 (.int .i64 d))) (b:Bool) (hb:(d == x)=b) :
  Calls Tryz.prog 183 #[.iface 168 (.pointer (some ⟨N,0,none⟩)),.iface 44 (.int .i64 x)] w fun e w'=>e=.returned (.bool b) ∧ w=w':=by
 have h8:=@run_callFunc_extern Tryz.prog 226 _ Extern.ReflectliteType.typeOf Tryz.func226 (by kernel_rfl) (by kernel_rfl) (by kernel_rfl) (by kernel_rfl)
 have h32:=@run_callFunc_extern Tryz.prog 336 _ pi_cmpFn Tryz.func336 (by kernel_rfl) (by kernel_rfl) (by kernel_rfl) (by kernel_rfl)
 have tT:=pi_typeOf
 have cT:=pi_comparable
 have mR:=pi_methodComparable
 have nW:=pi_noIs
 have nE:=pi_noIsE
 have uW:=pi_hasUnwrap
 have uE:=pi_noUnwrapE
 have uS:=pi_noUnwrapsE
 have mU:=pi_methodUnwrap
 have heq:∀ w1,(binOp .eql 75 (.iface 44 (.int .i64 d)) (.iface 44 (.int .i64 x))).run Tryz.prog w1=.ok (.bool b) w1:=fun w1=>by
  have:=Lib.run_eql_iface_int (P:=Tryz.prog) w1 (k:=.i64) d x Tryz.underlying75 pi_comp Tryz.underlying44
  rw [hb] at this
  exact this
 have hty:=fun v w1=>run_eql_iface_types (P:=Tryz.prog) 168 44 (.pointer (some ⟨N,0,none⟩)) v Tryz.underlying75 (by decide) w1
 clear hb
 cases b
 ·go_enter Tryz.func183,Tryz.ntmps183
  go_wp2
  refine wp_loop_rounds 2 ?_
  rw [rounds_succ]
  go_wp2
  rw [rounds_succ]
  go_wp2
  go_ret
  exact ⟨rfl,rfl⟩
 ·go_enter Tryz.func183,Tryz.ntmps183
  go_wp2
  refine wp_loop_rounds 2 ?_
  rw [rounds_succ]
  go_wp2
  rw [rounds_succ]
  go_wp2
  go_ret
  exact ⟨rfl,rfl⟩
set_option maxHeartbeats 2000000 in
theorem pe_is (d x:Int) (w:World) (b:Bool) (hb:(d == x)=b) :
  Calls Tryz.prog 183 #[.iface 44 (.int .i64 d),.iface 44 (.int .i64 x)] w fun e w'=>e=.returned (.bool b) ∧ w=w':=by
 have h8:=@run_callFunc_extern Tryz.prog 226 _ Extern.ReflectliteType.typeOf Tryz.func226 (by kernel_rfl) (by kernel_rfl) (by kernel_rfl) (by kernel_rfl)
 have h32:=@run_callFunc_extern Tryz.prog 336 _ pi_cmpFn Tryz.func336 (by kernel_rfl) (by kernel_rfl) (by kernel_rfl) (by kernel_rfl)
 have tT:=pi_typeOf
 have cT:=pi_comparable
 have mR:=pi_methodComparable
 have nE:=pi_noIsE
 have uE:=pi_noUnwrapE
 have uS:=pi_noUnwrapsE
 have heq:∀ w1,(binOp .eql 75 (.iface 44 (.int .i64 d)) (.iface 44 (.int .i64 x))).run Tryz.prog w1=.ok (.bool b) w1:=fun w1=>by
  have:=Lib.run_eql_iface_int (P:=Tryz.prog) w1 (k:=.i64) d x Tryz.underlying75 pi_comp Tryz.underlying44
  rw [hb] at this
  exact this
 clear hb
 cases b
 ·go_enter Tryz.func183,Tryz.ntmps183
  go_wp2
  refine wp_loop_rounds 1 ?_
  rw [rounds_succ]
  go_wp2
  go_ret
  exact ⟨rfl,rfl⟩
 ·go_enter Tryz.func183,Tryz.ntmps183
  go_wp2
  refine wp_loop_rounds 1 ?_
  rw [rounds_succ]
  go_wp2
  go_ret
  exact ⟨rfl,rfl⟩
set_option maxHeartbeats 1000000 in
theorem preason_calls (N:Nat) (d:Nat) (w:World) (h1:w.cell? ⟨N,2,none⟩=some (.iface 44 (.int .i64 d))) (hd:d=16 ∨ d=5 ∨ d=13) :
  Calls Tryz.prog 114 #[.iface 168 (.pointer (some ⟨N,0,none⟩))] w fun e w'=>e=.returned (.int .i64 d) ∧ w=w':=by
 have H5:=Lib.hid (fun b hb=>pi_is N d 5 w h1 b hb)
 have H13:=Lib.hid (fun b hb=>pi_is N d 13 w h1 b hb)
 clear h1
 rcases hd with rfl | rfl | rfl
 ·go_enter Tryz.func114,Tryz.ntmps114
  go_wp2_with fail
  refine (H5.out false (by decide)).mono ?_
  rintro e w1 ⟨rfl,rfl⟩
  go_wp2_with fail
  refine (H13.out false (by decide)).mono ?_
  rintro e w1 ⟨rfl,rfl⟩
  go_wp2_with fail
  go_ret
  exact ⟨rfl,rfl⟩
 ·go_enter Tryz.func114,Tryz.ntmps114
  go_wp2_with fail
  refine (H5.out true (by decide)).mono ?_
  rintro e w1 ⟨rfl,rfl⟩
  go_wp2_with fail
  go_ret
  exact ⟨rfl,rfl⟩
 ·go_enter Tryz.func114,Tryz.ntmps114
  go_wp2_with fail
  refine (H5.out false (by decide)).mono ?_
  rintro e w1 ⟨rfl,rfl⟩
  go_wp2_with fail
  refine (H13.out true (by decide)).mono ?_
  rintro e w1 ⟨rfl,rfl⟩
  go_wp2_with fail
  go_ret
  exact ⟨rfl,rfl⟩
open Go.RowKit
theorem trim_mag (l:List UInt8):Lib.trimPrefix l [45]=mag l:=by
 unfold Lib.trimPrefix Lib.hasPrefix mag
 cases l with
 | nil=>rfl
 | cons c r =>
  by_cases h:c=45
  ·subst h; rfl
  ·have h2:([45]:List UInt8).isPrefixOf (c :: r)=false:=by
    simp only [List.isPrefixOf,Bool.and_true,beq_eq_false_iff_ne,ne_eq]
    exact fun e=>h e.symm
   rw [h2,if_neg (show ¬ (c :: r).head? = some 45 from fun e=>h (Option.some.inj e))]; rfl
theorem all_take (l:List UInt8) (k:Nat) (h:k < l.length):(l.take (k + 1)).all isD=((l.take k).all isD && isD l[k]):=by
 rw [List.take_succ_eq_append_getElem h,List.all_append,List.all_cons,List.all_nil,Bool.and_true]
theorem all_dead (l:List UInt8) (k:Nat) (h:k < l.length) (hd:isD l[k]=false):l.all isD=false:=by
 rw [List.all_eq_false]
 exact ⟨l[k],List.getElem_mem h,by simp [hd]⟩
set_option maxHeartbeats 400000 in
theorem trim_calls (s:ByteArray) (w:World) :
  Calls Tryz.prog 282 #[.string s,.string ⟨#[45]⟩] w fun e w'=>e=.returned (.string ⟨(mag s.data.toList).toArray⟩) ∧ w=w':=by
 refine (Tryz.strings_TrimPrefix s ⟨#[45]⟩ w).mono ?_
 rintro e w' ⟨rfl,rfl⟩
 refine ⟨?_,rfl⟩
 rw [show (⟨#[45]⟩:ByteArray).data.toList=[45] from rfl,trim_mag]
set_option maxHeartbeats 400000 in
theorem hasForm_calls (s:ByteArray) (w:World) (hs:s.size ≤ 9223372036854775807) :
  Calls Tryz.prog 271 #[.string s] w fun e w'=>e=.returned (.bool (formB s.data.toList)) ∧ w=w':=by
 have HT:=Lib.hid (trim_calls s w)
 obtain ⟨d,hd⟩:∃ d:ByteArray,d=⟨(mag s.data.toList).toArray⟩:=⟨_,rfl⟩
 have ed:d.data.toList=mag s.data.toList:=by rw [hd]
 rw [← hd] at HT
 clear hd
 have hlen:d.size=(mag s.data.toList).length:=by rw [← ed,← Lib.size_eq]
 by_cases h0:mag s.data.toList=[]
 ·have hf:formB s.data.toList=false:=by unfold formB; rw [h0]; rfl
  rw [hf]
  have e0:d.toList=[]:=by rw [Lib.toList_data,ed,h0]
  have e1:d.toList.isEmpty=true:=by rw [e0]; rfl
  clear hlen ed hf h0
  go_enter Tryz.func271,Tryz.ntmps271
  go_wp2_with (go_at_call 282; refine HT.out.mono ?_; rintro e w' ⟨rfl,rfl⟩)
  go_ret
  exact ⟨rfl,rfl⟩
 have hpos:0 < d.size:=by rw [hlen]; exact List.length_pos_iff.2 h0
 have e1:d.toList.isEmpty=false:=by rw [Lib.toList_data,ed]; simpa using h0
 have hne:¬ d.toList=[]:=by rw [Lib.toList_data,ed]; exact h0
 obtain ⟨c,hc⟩:∃ c,c=d[0]:=⟨_,rfl⟩
 have ehead:(mag s.data.toList).head? = some c:=by
  rw [← ed,hc,List.head?_eq_getElem?,List.getElem?_eq_getElem (by rw [← Lib.size_eq]; exact hpos)]; rfl
 by_cases h48:c=48
 ·have hf:formB s.data.toList=(s.data.toList == [48]):=by
   unfold formB; rw [ehead,h48,if_pos rfl]
   cases hm:mag s.data.toList with
   | nil=>exact absurd hm h0
   | cons a r=>rfl
  rw [hf,← Lib.toList_data]
  have t0:((d[0].toNat:Int) == 48)=true:=by rw [← hc,h48]; rfl
  clear hlen ed hf h0 ehead hc h48
  go_enter Tryz.func271,Tryz.ntmps271
  go_wp2_with (go_at_call 282; refine HT.out.mono ?_; rintro e w' ⟨rfl,rfl⟩)
  go_ret
  exact ⟨rfl,rfl⟩
 have t0:((d[0].toNat:Int) == 48)=false:=by
  rw [← hc,beq_eq_false_iff_ne]
  intro e
  exact h48 (UInt8.toNat_inj.1 (by have:(48:UInt8).toNat=48:=rfl; omega))
 have HF:Hid (formB s.data.toList=(mag s.data.toList).all isD):=by
  refine Lib.hid ?_
  unfold formB
  rw [ehead,if_neg (fun e=>h48 (Option.some.inj e))]
  cases hm:mag s.data.toList with
  | nil=>exact absurd hm h0
  | cons a r=>rfl
 obtain ⟨m,hm⟩:∃ m,m=mag s.data.toList:=⟨_,rfl⟩
 rw [← hm] at HF ed hlen
 have hmax:d.size ≤ 9223372036854775807:=by
  rw [hlen,hm,← trim_mag]
  exact Nat.le_trans (Lib.trimPrefix_le _ _) (by rw [← Lib.size_eq]; exact hs)
 have HE:=Lib.hid ed
 have HL:=Lib.hid hlen
 clear ehead hc h48 h0 hm ed hlen hs
 go_enter Tryz.func271,Tryz.ntmps271
 go_wp2_with (go_at_call 282; refine HT.out.mono ?_; rintro e w' ⟨rfl,rfl⟩)
 go_loop [16] (fun i=>∃ k:Nat,k ≤ d.size ∧ i=.int .i64 k ∧ Hid ((m.take k).all isD=true)) (fun i=>d.size - (intOf i).toNat)
 case atStart=>exact ⟨0,Nat.zero_le _,rfl,Lib.hid rfl⟩
 case round =>
  obtain ⟨k,hk,rfl,HA⟩:=hrel
  by_cases hlt:k < d.size
  ·have hkm:k < m.length:=by rw [← HL.out]; exact hlt
   have HC:Hid (m[k]=d[k]):=Lib.hid (by
    have:=HE.out
    subst this
    rfl)
   by_cases hdig:48 ≤ d[k].toNat ∧ d[k].toNat ≤ 57
   ·obtain ⟨g1,g2⟩:=hdig
    have HN:Hid ((m.take (k + 1)).all isD=true):=Lib.hid (by rw [all_take m k hkm,HA.out,HC.out]; simp [isD,g1,g2])
    have t1:decide ((d[k].toNat:Int) < 48)=false:=by simp; omega
    have t2:decide ((57:Int) < (d[k].toNat:Int))=false:=by simp; omega
    clear HC g1 g2
    go_wp2
    go_round
    case rel=>exact ⟨k + 1,by omega,by go_num,HN⟩
    case measure=>simp [intOf]; omega
   ·have HD:Hid (m.all isD=false):=Lib.hid (all_dead m k hkm (by rw [HC.out]; unfold isD; simpa using hdig))
    by_cases hlow:d[k].toNat < 48
    ·have t1:decide ((d[k].toNat:Int) < 48)=true:=by simp; omega
     clear HC hdig hlow
     go_wp2
     go_ret
     rw [HF.out,HD.out]
     exact ⟨rfl,rfl⟩
    ·have t1:decide ((d[k].toNat:Int) < 48)=false:=by simp; omega
     have t2:decide ((57:Int) < (d[k].toNat:Int))=true:=by simp; omega
     clear HC hdig hlow
     go_wp2
     go_ret
     rw [HF.out,HD.out]
     exact ⟨rfl,rfl⟩
  ·have HX:Hid (m.all isD=true):=Lib.hid (by have:=HA.out; rwa [List.take_of_length_le (by rw [← HL.out]; omega)] at this)
   go_wp2
   go_ret
   rw [HF.out,HX.out]
   exact ⟨rfl,rfl⟩
abbrev Tab (w : World) : Prop := Lib.TabIs Tryz.prog w "internal/strconv.uint64pow10" .u64 Lib.pow10Tab
theorem gPow : Tryz.prog.globalNamed "internal/strconv.uint64pow10" = some 6 := by kernel_rfl
theorem gPowType:(Tryz.prog.globals[6]?).map (·.type)=some 319:=by kernel_rfl
theorem cellsPow:Tryz.prog.cellsOf 319=20:=by kernel_rfl
theorem cellsU64:Tryz.prog.cellsOf 297=1:=by kernel_rfl
theorem isTypeOf (v:Value) (w:World):(Extern.ReflectliteType.typeOf #[.iface 350 v]).run Tryz.prog w=.ok (.iface 277 (.agg #[.pointer (some ⟨11,350,none⟩)])) w:=by kernel_rfl
def cmpFn : Array Value → Sem Value := Extern.ReflectliteType.method fun t => do Extern.Rtype.noPackHeld "Comparable" t; pure (.bool (← typeInfo t).comparable)
theorem isComparable (w:World):(cmpFn #[.agg #[.pointer (some ⟨11,350,none⟩)]]).run Tryz.prog w=.ok (.bool true) w:=by kernel_rfl
theorem isMethodComparable (v : Value) (w : World) : (Go.method 479 277 v "Comparable").run Tryz.prog w = .ok (336, v) w := by kernel_rfl
theorem isComp:(Tryz.prog.info? 350).map (·.comparable)=some true:=by kernel_rfl
theorem isSize:(Tryz.prog.info? 352).map (·.size)=some 1:=by kernel_rfl
theorem noIsW (v:Value) (xT:TypeId) (w:World):(Instr.typeAssert (.iface 342 v) xT 311 true).run Tryz.prog w=.ok (.tuple #[.nilIface,.bool false]) w:=run_typeAssert_lacksB Tryz.underlying311 (by kernel_rfl) (by kernel_rfl) v xT w
theorem hasUnwrapW (v:Value) (xT:TypeId) (w:World):(Instr.typeAssert (.iface 342 v) xT 285 true).run Tryz.prog w=.ok (.tuple #[.iface 342 v,.bool true]) w:=run_typeAssert_hasB Tryz.underlying285 (by kernel_rfl) v xT w
theorem methodUnwrap (v : Value) (w : World) : (Go.method 479 342 v "Unwrap").run Tryz.prog w = .ok (347, v) w := by kernel_rfl
set_option maxHeartbeats 400000 in
theorem is_nil (b:Addr) (w:World) :
  Calls Tryz.prog 183 #[.nilIface,.iface 350 (.pointer (some b))] w fun e w'=>e=.returned (.bool false) ∧ w=w':=by
 have hn:=run_eql_iface_nil_left (P:=Tryz.prog) w 350 (.pointer (some b)) Tryz.underlying75
 go_enter Tryz.func183,Tryz.ntmps183
 go_wp2
 go_ret
 exact ⟨rfl,rfl⟩
set_option maxHeartbeats 1000000 in
theorem is_num_same (N:Nat) (b:Addr) (w:World) (h1:w.cell? ⟨N,2,none⟩=some (.iface 350 (.pointer (some b)))) :
  Calls Tryz.prog 183 #[.iface 342 (.pointer (some ⟨N,0,none⟩)),.iface 350 (.pointer (some b))] w fun e w'=>e=.returned (.bool true) ∧ w=w':=by
 obtain ⟨i,hi,hcmp⟩:=Option.map_eq_some_iff.1 isComp
 obtain ⟨j,hj,hjs⟩:=Option.map_eq_some_iff.1 isSize
 have h8:=@run_callFunc_extern Tryz.prog 226 _ Extern.ReflectliteType.typeOf Tryz.func226 (by kernel_rfl) (by kernel_rfl) (by kernel_rfl) (by kernel_rfl)
 have h32:=@run_callFunc_extern Tryz.prog 336 _ cmpFn Tryz.func336 (by kernel_rfl) (by kernel_rfl) (by kernel_rfl) (by kernel_rfl)
 have tT:=isTypeOf
 have cT:=isComparable
 have mR:=isMethodComparable
 have nW:=noIsW
 have uW:=hasUnwrapW
 have mU:=methodUnwrap
 have heq:=run_eql_iface_ptr_same (P:=Tryz.prog) w b Tryz.underlying75 Tryz.underlying350 hi hcmp hj
 have hty:=run_eql_iface_types (P:=Tryz.prog) 342 350 (.pointer (some ⟨N,0,none⟩)) (.pointer (some b)) Tryz.underlying75 (by decide) w
 go_enter Tryz.func183,Tryz.ntmps183
 go_wp2
 refine wp_loop_rounds 2 ?_
 rw [rounds_succ]
 go_wp2
 rw [rounds_succ]
 go_wp2
 go_ret
 exact ⟨rfl,rfl⟩
abbrev ErrR (w : World) (a : Addr) : Prop := w.var? Tryz.prog "strconv.ErrRange" = some #[.iface 350 (.pointer (some a))]
theorem gErr : Tryz.prog.globalNamed "strconv.ErrRange" = some 7 := by kernel_rfl
theorem gErrType:(Tryz.prog.globals[7]?).map (·.type)=some 75:=by kernel_rfl
theorem errCell {w:World} {a:Addr} (h:ErrR w a):w.cell? ⟨7,0,none⟩=some (.iface 350 (.pointer (some a))):=by
 have:=World.var?_cell gErr h 0
 simpa using this
theorem errR_below {w w':World} {a:Addr} (h:ErrR w a) (hb:Below w.heap.size w w'):ErrR w' a:=var?_below hb gErr (var_lt gErr h) h
theorem tab_below {w w':World} (h:Tab w) (hb:Below w.heap.size w w'):Tab w':=var?_below hb gPow (var_lt gPow h) h
set_option maxHeartbeats 400000 in
theorem parse_calls (s:ByteArray) (a:Addr) (w:World) (hs:s.size ≤ 281474976710656) (hv:ErrR w a) :
  Calls Tryz.prog 253 #[.string s] w fun e w'=>e=.returned (.tuple #[.int .i64 (pn s.data.toList),.int .i64 (pe s.data.toList)]) ∧ Below w.heap.size w w':=by
 have h1:=hasForm_calls s w (by omega)
 by_cases hf:formB s.data.toList=true
 ·rw [hf] at h1
  have H1:=Lib.hid h1
  have hp:=parse_form hf
  unfold pn pe
  rw [if_pos hf,if_pos hf]
  clear h1
  by_cases hb:tb (vl s.data.toList)=true
  ·rw [if_pos hb] at hp
   rw [if_pos hb]
   have en:tn (vl s.data.toList)=vl s.data.toList:=by
    have:-9223372036854775808 ≤ vl s.data.toList ∧ vl s.data.toList ≤ 9223372036854775807:=by simpa [tb] using hb
    exact tn_yes this.1 this.2
   rw [en]
   obtain ⟨v,hev⟩:∃ v,v=vl s.data.toList:=⟨_,rfl⟩
   rw [← hev] at hp ⊢
   have H2:=Lib.hid (Tryz.strconv_ParseInt_10_at64_ok s (by omega) v hp w)
   have HV:=Lib.hid hv
   clear hp hev en hb hf hs hv
   go_enter Tryz.func253,Tryz.ntmps253
   go_wp2_with (go_at_call 271; refine H1.out.mono ?_; rintro e w' ⟨rfl,rfl⟩)
   go_wp2_with fail
   refine H2.out.mono ?_
   rintro e w1 ⟨rfl,hw1⟩
   have hb1:Below w.heap.size w w1:=by
    rcases hw1 with rfl | ⟨t,rfl⟩
    ·exact Below.refl _ _
    ·exact Lib.bytesWorld_below _ _ _
   have hc:=errCell (errR_below HV.out hb1)
   clear hw1
   go_wp2_with (go_at_call 183; refine (is_nil a _).mono ?_; rintro e w' ⟨rfl,rfl⟩)
   go_ret2
   exact ⟨rfl,hb1⟩
  ·rw [if_neg hb] at hp
   rw [if_neg hb]
   have en:tn (vl s.data.toList)=0:=by
    have:¬ (-9223372036854775808 ≤ vl s.data.toList ∧ vl s.data.toList ≤ 9223372036854775807):=by simpa [tb] using hb
    exact tn_no this
   rw [en]
   have H2:=Lib.hid (Tryz.strconv_ParseInt_10_at64_range_var s hs hp _ _ w hv)
   have HV:=Lib.hid hv
   clear hp en hb hf hs hv
   go_enter Tryz.func253,Tryz.ntmps253
   go_wp2_with (go_at_call 271; refine H1.out.mono ?_; rintro e w' ⟨rfl,rfl⟩)
   go_wp2_with fail
   refine H2.out.mono ?_
   rintro e w1 ⟨N,rfl,hN,hblk,hb1⟩
   have hc:=errCell (errR_below HV.out hb1)
   have hc2:w1.cell? ⟨N,2,none⟩=some (.iface 350 (.pointer (some a))):=by simp [World.cell?,hblk]
   have HC2:=Lib.hid hc2
   clear hblk hN hc2
   go_wp2_with (go_at_call 183; refine (is_num_same N a _ HC2.out).mono ?_; rintro e w' ⟨rfl,rfl⟩)
   go_ret2
   exact ⟨rfl,hb1⟩
 ·have hf2:formB s.data.toList=false:=by simpa using hf
  rw [hf2] at h1
  have H1:=Lib.hid h1
  unfold pn pe
  rw [if_neg hf,if_neg hf]
  clear h1 hf hf2 hv hs
  go_enter Tryz.func253,Tryz.ntmps253
  go_wp2_with (go_at_call 271; refine H1.out.mono ?_; rintro e w' ⟨rfl,rfl⟩)
  go_ret2
  exact ⟨rfl,Below.refl _ _⟩
end Go.Proofs.YtiafhfchjhffhaaGreatDoor
