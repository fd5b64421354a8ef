/- paclaim: ParNext ParWithin RegTail ParJoined -/
import Derived.Test.YtiafhfchjhffhaaGreatDoorLowPa4
import Derived.Test.YtiafhfchjhffhaaGreatDoorLowPa5
import Derived.Shelf.Abstract
import Derived.OrdersHeld
import Derived.Deep.RegionHeld
import Derived.Test.YtiafhfchjhffhaaGreatDoorBase
import Derived.Test.YtiafhfchjhffhaaGreatDoorLowPa3
namespace Go.Proofs.YtiafhfchjhffhaaGreatDoor
open Go.RowKit
set_option linter.unusedVariables false
theorem par_result2 {fn:Func} {t u:Tmp} (h:fn.results=#[.tmp t,.tmp u]) (tmps:Array Value) (P:Program) (w:World):(results fn tmps).run P w=.ok (.tuple #[tmps.getD t undef,tmps.getD u undef]) w:=by
 simp [results,h]
set_option maxHeartbeats 2000000 in
theorem nextOr_calls (g tl tc:Nat) (ta:Option Addr) (M:List Tk) (p:Pl) (w:World) (h:PlAt w g ta tl tc M p) (hm:M.length ≤ 1000000) :
  Calls Tryz.prog 146 #[.pointer (some ⟨g,0,none⟩)] w fun e w'=>e=.returned (.int .i64 (firstOp M p (opsL 1):Nat)) ∧ Below w.heap.size w w':=by
 have HP:=Lib.hid h
 have HC:=Lib.hid (fun s w1 h1=>comes_calls g tl tc ta M p s w1 h1 hm)
 have HFO:Hid (firstOp M p (opsL 1)=if isP M p [111,114]=true then 7 else 0):=Lib.hid rfl
 clear h
 cases h0:isP M p [111,114]
 case true =>
  have HV:Hid (firstOp M p (opsL 1)=7):=Lib.hid (by rw [HFO.out,h0,if_pos rfl])
  have HC0:Hid (∀ w1,PlAt w1 g ta tl tc M p → Calls Tryz.prog 119 #[.pointer (some ⟨g,0,none⟩),.string ⟨#[111,114]⟩] w1 fun e w'=>e=.returned (.bool true) ∧ Below w1.heap.size w1 w'):=Lib.hid (fun w1 hq=>by have:=HC.out ⟨#[111,114]⟩ w1 hq; rw [show (⟨#[111,114]⟩:ByteArray).data.toList=[111,114] from rfl,h0] at this; exact this)
  clear h0 HC HFO
  go_enter Tryz.func146,Tryz.ntmps146
  go_wp2_with fail
  refine (HC0.out _ HP.out).mono ?_
  rintro e w1 ⟨rfl,k1⟩
  have HB0:=Lib.hid (k1)
  clear k1
  go_wp2_with fail
  go_ret
  exact ⟨by rw [HV.out]; rfl,HB0.out⟩
 case false =>
  have HV:Hid (firstOp M p (opsL 1)=0):=Lib.hid (by rw [HFO.out,h0,if_neg (by decide)])
  have HC0:Hid (∀ w1,PlAt w1 g ta tl tc M p → Calls Tryz.prog 119 #[.pointer (some ⟨g,0,none⟩),.string ⟨#[111,114]⟩] w1 fun e w'=>e=.returned (.bool false) ∧ Below w1.heap.size w1 w'):=Lib.hid (fun w1 hq=>by have:=HC.out ⟨#[111,114]⟩ w1 hq; rw [show (⟨#[111,114]⟩:ByteArray).data.toList=[111,114] from rfl,h0] at this; exact this)
  clear h0 HC HFO
  go_enter Tryz.func146,Tryz.ntmps146
  go_wp2_with fail
  refine (HC0.out _ HP.out).mono ?_
  rintro e w1 ⟨rfl,k1⟩
  have HB0:=Lib.hid (k1)
  clear k1
  go_wp2_with fail
  go_ret
  exact ⟨by rw [HV.out]; rfl,HB0.out⟩
set_option maxHeartbeats 2000000 in
theorem nextAnd_calls (g tl tc:Nat) (ta:Option Addr) (M:List Tk) (p:Pl) (w:World) (h:PlAt w g ta tl tc M p) (hm:M.length ≤ 1000000) :
  Calls Tryz.prog 201 #[.pointer (some ⟨g,0,none⟩)] w fun e w'=>e=.returned (.int .i64 (firstOp M p (opsL 3):Nat)) ∧ Below w.heap.size w w':=by
 have HP:=Lib.hid h
 have HC:=Lib.hid (fun s w1 h1=>comes_calls g tl tc ta M p s w1 h1 hm)
 have HFO:Hid (firstOp M p (opsL 3)=if isP M p [97,110,100]=true then 6 else 0):=Lib.hid rfl
 clear h
 cases h0:isP M p [97,110,100]
 case true =>
  have HV:Hid (firstOp M p (opsL 3)=6):=Lib.hid (by rw [HFO.out,h0,if_pos rfl])
  have HC0:Hid (∀ w1,PlAt w1 g ta tl tc M p → Calls Tryz.prog 119 #[.pointer (some ⟨g,0,none⟩),.string ⟨#[97,110,100]⟩] w1 fun e w'=>e=.returned (.bool true) ∧ Below w1.heap.size w1 w'):=Lib.hid (fun w1 hq=>by have:=HC.out ⟨#[97,110,100]⟩ w1 hq; rw [show (⟨#[97,110,100]⟩:ByteArray).data.toList=[97,110,100] from rfl,h0] at this; exact this)
  clear h0 HC HFO
  go_enter Tryz.func201,Tryz.ntmps201
  go_wp2_with fail
  refine (HC0.out _ HP.out).mono ?_
  rintro e w1 ⟨rfl,k1⟩
  have HB0:=Lib.hid (k1)
  clear k1
  go_wp2_with fail
  go_ret
  exact ⟨by rw [HV.out]; rfl,HB0.out⟩
 case false =>
  have HV:Hid (firstOp M p (opsL 3)=0):=Lib.hid (by rw [HFO.out,h0,if_neg (by decide)])
  have HC0:Hid (∀ w1,PlAt w1 g ta tl tc M p → Calls Tryz.prog 119 #[.pointer (some ⟨g,0,none⟩),.string ⟨#[97,110,100]⟩] w1 fun e w'=>e=.returned (.bool false) ∧ Below w1.heap.size w1 w'):=Lib.hid (fun w1 hq=>by have:=HC.out ⟨#[97,110,100]⟩ w1 hq; rw [show (⟨#[97,110,100]⟩:ByteArray).data.toList=[97,110,100] from rfl,h0] at this; exact this)
  clear h0 HC HFO
  go_enter Tryz.func201,Tryz.ntmps201
  go_wp2_with fail
  refine (HC0.out _ HP.out).mono ?_
  rintro e w1 ⟨rfl,k1⟩
  have HB0:=Lib.hid (k1)
  clear k1
  go_wp2_with fail
  go_ret
  exact ⟨by rw [HV.out]; rfl,HB0.out⟩
set_option maxHeartbeats 2000000 in
theorem nextSum_calls (g tl tc:Nat) (ta:Option Addr) (M:List Tk) (p:Pl) (w:World) (h:PlAt w g ta tl tc M p) (hm:M.length ≤ 1000000) :
  Calls Tryz.prog 274 #[.pointer (some ⟨g,0,none⟩)] w fun e w'=>e=.returned (.int .i64 (firstOp M p (opsL 7):Nat)) ∧ Below w.heap.size w w':=by
 have HP:=Lib.hid h
 have HC:=Lib.hid (fun s w1 h1=>comes_calls g tl tc ta M p s w1 h1 hm)
 have HFO:Hid (firstOp M p (opsL 7)=if isP M p [43]=true then 8 else if isP M p [45]=true then 9 else 0):=Lib.hid rfl
 clear h
 cases h0:isP M p [43]
 case true =>
  have HV:Hid (firstOp M p (opsL 7)=8):=Lib.hid (by rw [HFO.out,h0,if_pos rfl])
  have HC0:Hid (∀ w1,PlAt w1 g ta tl tc M p → Calls Tryz.prog 119 #[.pointer (some ⟨g,0,none⟩),.string ⟨#[43]⟩] w1 fun e w'=>e=.returned (.bool true) ∧ Below w1.heap.size w1 w'):=Lib.hid (fun w1 hq=>by have:=HC.out ⟨#[43]⟩ w1 hq; rw [show (⟨#[43]⟩:ByteArray).data.toList=[43] from rfl,h0] at this; exact this)
  clear h0 HC HFO
  go_enter Tryz.func274,Tryz.ntmps274
  go_wp2_with fail
  refine (HC0.out _ HP.out).mono ?_
  rintro e w1 ⟨rfl,k1⟩
  have HB0:=Lib.hid (k1)
  clear k1
  go_wp2_with fail
  go_ret
  exact ⟨by rw [HV.out]; rfl,HB0.out⟩
 case false =>
  cases h1:isP M p [45]
  case true =>
   have HV:Hid (firstOp M p (opsL 7)=9):=Lib.hid (by rw [HFO.out,h0,if_neg (by decide),h1,if_pos rfl])
   have HC0:Hid (∀ w1,PlAt w1 g ta tl tc M p → Calls Tryz.prog 119 #[.pointer (some ⟨g,0,none⟩),.string ⟨#[43]⟩] w1 fun e w'=>e=.returned (.bool false) ∧ Below w1.heap.size w1 w'):=Lib.hid (fun w1 hq=>by have:=HC.out ⟨#[43]⟩ w1 hq; rw [show (⟨#[43]⟩:ByteArray).data.toList=[43] from rfl,h0] at this; exact this)
   have HC1:Hid (∀ w1,PlAt w1 g ta tl tc M p → Calls Tryz.prog 119 #[.pointer (some ⟨g,0,none⟩),.string ⟨#[45]⟩] w1 fun e w'=>e=.returned (.bool true) ∧ Below w1.heap.size w1 w'):=Lib.hid (fun w1 hq=>by have:=HC.out ⟨#[45]⟩ w1 hq; rw [show (⟨#[45]⟩:ByteArray).data.toList=[45] from rfl,h1] at this; exact this)
   clear h0 h1 HC HFO
   go_enter Tryz.func274,Tryz.ntmps274
   go_wp2_with fail
   refine (HC0.out _ HP.out).mono ?_
   rintro e w1 ⟨rfl,k1⟩
   have HB0:=Lib.hid (k1)
   clear k1
   go_wp2_with fail
   refine (HC1.out _ (HP.out.below HB0.out)).mono ?_
   rintro e w2 ⟨rfl,k1⟩
   have HB1:=Lib.hid (HB0.out.trans (k1.mono HB0.out.size))
   clear k1
   go_wp2_with fail
   go_ret
   exact ⟨by rw [HV.out]; rfl,HB1.out⟩
  case false =>
   have HV:Hid (firstOp M p (opsL 7)=0):=Lib.hid (by rw [HFO.out,h0,if_neg (by decide),h1,if_neg (by decide)])
   have HC0:Hid (∀ w1,PlAt w1 g ta tl tc M p → Calls Tryz.prog 119 #[.pointer (some ⟨g,0,none⟩),.string ⟨#[43]⟩] w1 fun e w'=>e=.returned (.bool false) ∧ Below w1.heap.size w1 w'):=Lib.hid (fun w1 hq=>by have:=HC.out ⟨#[43]⟩ w1 hq; rw [show (⟨#[43]⟩:ByteArray).data.toList=[43] from rfl,h0] at this; exact this)
   have HC1:Hid (∀ w1,PlAt w1 g ta tl tc M p → Calls Tryz.prog 119 #[.pointer (some ⟨g,0,none⟩),.string ⟨#[45]⟩] w1 fun e w'=>e=.returned (.bool false) ∧ Below w1.heap.size w1 w'):=Lib.hid (fun w1 hq=>by have:=HC.out ⟨#[45]⟩ w1 hq; rw [show (⟨#[45]⟩:ByteArray).data.toList=[45] from rfl,h1] at this; exact this)
   clear h0 h1 HC HFO
   go_enter Tryz.func274,Tryz.ntmps274
   go_wp2_with fail
   refine (HC0.out _ HP.out).mono ?_
   rintro e w1 ⟨rfl,k1⟩
   have HB0:=Lib.hid (k1)
   clear k1
   go_wp2_with fail
   refine (HC1.out _ (HP.out.below HB0.out)).mono ?_
   rintro e w2 ⟨rfl,k1⟩
   have HB1:=Lib.hid (HB0.out.trans (k1.mono HB0.out.size))
   clear k1
   go_wp2_with fail
   go_ret
   exact ⟨by rw [HV.out]; rfl,HB1.out⟩
set_option maxHeartbeats 2000000 in
theorem nextProduct_calls (g tl tc:Nat) (ta:Option Addr) (M:List Tk) (p:Pl) (w:World) (h:PlAt w g ta tl tc M p) (hm:M.length ≤ 1000000) :
  Calls Tryz.prog 286 #[.pointer (some ⟨g,0,none⟩)] w fun e w'=>e=.returned (.int .i64 (firstOp M p (opsL 9):Nat)) ∧ Below w.heap.size w w':=by
 have HP:=Lib.hid h
 have HC:=Lib.hid (fun s w1 h1=>comes_calls g tl tc ta M p s w1 h1 hm)
 have HFO:Hid (firstOp M p (opsL 9)=if isP M p [42]=true then 10 else if isP M p [47]=true then 11 else if isP M p [37]=true then 12 else 0):=Lib.hid rfl
 clear h
 cases h0:isP M p [42]
 case true =>
  have HV:Hid (firstOp M p (opsL 9)=10):=Lib.hid (by rw [HFO.out,h0,if_pos rfl])
  have HC0:Hid (∀ w1,PlAt w1 g ta tl tc M p → Calls Tryz.prog 119 #[.pointer (some ⟨g,0,none⟩),.string ⟨#[42]⟩] w1 fun e w'=>e=.returned (.bool true) ∧ Below w1.heap.size w1 w'):=Lib.hid (fun w1 hq=>by have:=HC.out ⟨#[42]⟩ w1 hq; rw [show (⟨#[42]⟩:ByteArray).data.toList=[42] from rfl,h0] at this; exact this)
  clear h0 HC HFO
  go_enter Tryz.func286,Tryz.ntmps286
  go_wp2_with fail
  refine (HC0.out _ HP.out).mono ?_
  rintro e w1 ⟨rfl,k1⟩
  have HB0:=Lib.hid (k1)
  clear k1
  go_wp2_with fail
  go_ret
  exact ⟨by rw [HV.out]; rfl,HB0.out⟩
 case false =>
  cases h1:isP M p [47]
  case true =>
   have HV:Hid (firstOp M p (opsL 9)=11):=Lib.hid (by rw [HFO.out,h0,if_neg (by decide),h1,if_pos rfl])
   have HC0:Hid (∀ w1,PlAt w1 g ta tl tc M p → Calls Tryz.prog 119 #[.pointer (some ⟨g,0,none⟩),.string ⟨#[42]⟩] w1 fun e w'=>e=.returned (.bool false) ∧ Below w1.heap.size w1 w'):=Lib.hid (fun w1 hq=>by have:=HC.out ⟨#[42]⟩ w1 hq; rw [show (⟨#[42]⟩:ByteArray).data.toList=[42] from rfl,h0] at this; exact this)
   have HC1:Hid (∀ w1,PlAt w1 g ta tl tc M p → Calls Tryz.prog 119 #[.pointer (some ⟨g,0,none⟩),.string ⟨#[47]⟩] w1 fun e w'=>e=.returned (.bool true) ∧ Below w1.heap.size w1 w'):=Lib.hid (fun w1 hq=>by have:=HC.out ⟨#[47]⟩ w1 hq; rw [show (⟨#[47]⟩:ByteArray).data.toList=[47] from rfl,h1] at this; exact this)
   clear h0 h1 HC HFO
   go_enter Tryz.func286,Tryz.ntmps286
   go_wp2_with fail
   refine (HC0.out _ HP.out).mono ?_
   rintro e w1 ⟨rfl,k1⟩
   have HB0:=Lib.hid (k1)
   clear k1
   go_wp2_with fail
   refine (HC1.out _ (HP.out.below HB0.out)).mono ?_
   rintro e w2 ⟨rfl,k1⟩
   have HB1:=Lib.hid (HB0.out.trans (k1.mono HB0.out.size))
   clear k1
   go_wp2_with fail
   go_ret
   exact ⟨by rw [HV.out]; rfl,HB1.out⟩
  case false =>
   cases h2:isP M p [37]
   case true =>
    have HV:Hid (firstOp M p (opsL 9)=12):=Lib.hid (by rw [HFO.out,h0,if_neg (by decide),h1,if_neg (by decide),h2,if_pos rfl])
    have HC0:Hid (∀ w1,PlAt w1 g ta tl tc M p → Calls Tryz.prog 119 #[.pointer (some ⟨g,0,none⟩),.string ⟨#[42]⟩] w1 fun e w'=>e=.returned (.bool false) ∧ Below w1.heap.size w1 w'):=Lib.hid (fun w1 hq=>by have:=HC.out ⟨#[42]⟩ w1 hq; rw [show (⟨#[42]⟩:ByteArray).data.toList=[42] from rfl,h0] at this; exact this)
    have HC1:Hid (∀ w1,PlAt w1 g ta tl tc M p → Calls Tryz.prog 119 #[.pointer (some ⟨g,0,none⟩),.string ⟨#[47]⟩] w1 fun e w'=>e=.returned (.bool false) ∧ Below w1.heap.size w1 w'):=Lib.hid (fun w1 hq=>by have:=HC.out ⟨#[47]⟩ w1 hq; rw [show (⟨#[47]⟩:ByteArray).data.toList=[47] from rfl,h1] at this; exact this)
    have HC2:Hid (∀ w1,PlAt w1 g ta tl tc M p → Calls Tryz.prog 119 #[.pointer (some ⟨g,0,none⟩),.string ⟨#[37]⟩] w1 fun e w'=>e=.returned (.bool true) ∧ Below w1.heap.size w1 w'):=Lib.hid (fun w1 hq=>by have:=HC.out ⟨#[37]⟩ w1 hq; rw [show (⟨#[37]⟩:ByteArray).data.toList=[37] from rfl,h2] at this; exact this)
    clear h0 h1 h2 HC HFO
    go_enter Tryz.func286,Tryz.ntmps286
    go_wp2_with fail
    refine (HC0.out _ HP.out).mono ?_
    rintro e w1 ⟨rfl,k1⟩
    have HB0:=Lib.hid (k1)
    clear k1
    go_wp2_with fail
    refine (HC1.out _ (HP.out.below HB0.out)).mono ?_
    rintro e w2 ⟨rfl,k1⟩
    have HB1:=Lib.hid (HB0.out.trans (k1.mono HB0.out.size))
    clear k1
    go_wp2_with fail
    refine (HC2.out _ (HP.out.below HB1.out)).mono ?_
    rintro e w3 ⟨rfl,k1⟩
    have HB2:=Lib.hid (HB1.out.trans (k1.mono HB1.out.size))
    clear k1
    go_wp2_with fail
    go_ret
    exact ⟨by rw [HV.out]; rfl,HB2.out⟩
   case false =>
    have HV:Hid (firstOp M p (opsL 9)=0):=Lib.hid (by rw [HFO.out,h0,if_neg (by decide),h1,if_neg (by decide),h2,if_neg (by decide)])
    have HC0:Hid (∀ w1,PlAt w1 g ta tl tc M p → Calls Tryz.prog 119 #[.pointer (some ⟨g,0,none⟩),.string ⟨#[42]⟩] w1 fun e w'=>e=.returned (.bool false) ∧ Below w1.heap.size w1 w'):=Lib.hid (fun w1 hq=>by have:=HC.out ⟨#[42]⟩ w1 hq; rw [show (⟨#[42]⟩:ByteArray).data.toList=[42] from rfl,h0] at this; exact this)
    have HC1:Hid (∀ w1,PlAt w1 g ta tl tc M p → Calls Tryz.prog 119 #[.pointer (some ⟨g,0,none⟩),.string ⟨#[47]⟩] w1 fun e w'=>e=.returned (.bool false) ∧ Below w1.heap.size w1 w'):=Lib.hid (fun w1 hq=>by have:=HC.out ⟨#[47]⟩ w1 hq; rw [show (⟨#[47]⟩:ByteArray).data.toList=[47] from rfl,h1] at this; exact this)
    have HC2:Hid (∀ w1,PlAt w1 g ta tl tc M p → Calls Tryz.prog 119 #[.pointer (some ⟨g,0,none⟩),.string ⟨#[37]⟩] w1 fun e w'=>e=.returned (.bool false) ∧ Below w1.heap.size w1 w'):=Lib.hid (fun w1 hq=>by have:=HC.out ⟨#[37]⟩ w1 hq; rw [show (⟨#[37]⟩:ByteArray).data.toList=[37] from rfl,h2] at this; exact this)
    clear h0 h1 h2 HC HFO
    go_enter Tryz.func286,Tryz.ntmps286
    go_wp2_with fail
    refine (HC0.out _ HP.out).mono ?_
    rintro e w1 ⟨rfl,k1⟩
    have HB0:=Lib.hid (k1)
    clear k1
    go_wp2_with fail
    refine (HC1.out _ (HP.out.below HB0.out)).mono ?_
    rintro e w2 ⟨rfl,k1⟩
    have HB1:=Lib.hid (HB0.out.trans (k1.mono HB0.out.size))
    clear k1
    go_wp2_with fail
    refine (HC2.out _ (HP.out.below HB1.out)).mono ?_
    rintro e w3 ⟨rfl,k1⟩
    have HB2:=Lib.hid (HB1.out.trans (k1.mono HB1.out.size))
    clear k1
    go_wp2_with fail
    go_ret
    exact ⟨by rw [HV.out]; rfl,HB2.out⟩
def cmpV (o:Nat):Value:=if 100 < o then .tuple #[.int .i64 ((o - 100:Nat):Int),.bool true] else .tuple #[.int .i64 (o:Nat),.bool false]
set_option maxHeartbeats 2000000 in
theorem nextCmp_calls (g tl tc:Nat) (ta:Option Addr) (M:List Tk) (p:Pl) (w:World) (h:PlAt w g ta tl tc M p) (hm:M.length ≤ 1000000) :
  Calls Tryz.prog 255 #[.pointer (some ⟨g,0,none⟩)] w fun e w'=>e=.returned (cmpV (firstOp M p cmpS)) ∧ Below w.heap.size w w':=by
 have HP:=Lib.hid h
 have HC:=Lib.hid (fun s w1 h1=>comes_calls g tl tc ta M p s w1 h1 hm)
 have HFO:Hid (firstOp M p cmpS=if isP M p [61,61]=true then 13 else if isP M p [33,61]=true then 14 else if isP M p [60]=true then 15 else if isP M p [60,61]=true then 16 else if isP M p [62]=true then 115 else if isP M p [62,61]=true then 116 else 0):=Lib.hid rfl
 clear h
 cases h0:isP M p [61,61]
 case true =>
  have HV:Hid (firstOp M p cmpS=13):=Lib.hid (by rw [HFO.out,h0,if_pos rfl])
  have HC0:Hid (∀ w1,PlAt w1 g ta tl tc M p → Calls Tryz.prog 119 #[.pointer (some ⟨g,0,none⟩),.string ⟨#[61,61]⟩] w1 fun e w'=>e=.returned (.bool true) ∧ Below w1.heap.size w1 w'):=Lib.hid (fun w1 hq=>by have:=HC.out ⟨#[61,61]⟩ w1 hq; rw [show (⟨#[61,61]⟩:ByteArray).data.toList=[61,61] from rfl,h0] at this; exact this)
  clear h0 HC HFO
  go_enter Tryz.func255,Tryz.ntmps255
  go_wp2_with fail
  refine (HC0.out _ HP.out).mono ?_
  rintro e w1 ⟨rfl,k1⟩
  have HB0:=Lib.hid (k1)
  clear k1
  go_wp2_with fail
  refine bodyPost_ret (par_result2 rfl _ _ _) rfl ?_
  exact ⟨by rw [HV.out]; rfl,HB0.out⟩
 case false =>
  cases h1:isP M p [33,61]
  case true =>
   have HV:Hid (firstOp M p cmpS=14):=Lib.hid (by rw [HFO.out,h0,if_neg (by decide),h1,if_pos rfl])
   have HC0:Hid (∀ w1,PlAt w1 g ta tl tc M p → Calls Tryz.prog 119 #[.pointer (some ⟨g,0,none⟩),.string ⟨#[61,61]⟩] w1 fun e w'=>e=.returned (.bool false) ∧ Below w1.heap.size w1 w'):=Lib.hid (fun w1 hq=>by have:=HC.out ⟨#[61,61]⟩ w1 hq; rw [show (⟨#[61,61]⟩:ByteArray).data.toList=[61,61] from rfl,h0] at this; exact this)
   have HC1:Hid (∀ w1,PlAt w1 g ta tl tc M p → Calls Tryz.prog 119 #[.pointer (some ⟨g,0,none⟩),.string ⟨#[33,61]⟩] w1 fun e w'=>e=.returned (.bool true) ∧ Below w1.heap.size w1 w'):=Lib.hid (fun w1 hq=>by have:=HC.out ⟨#[33,61]⟩ w1 hq; rw [show (⟨#[33,61]⟩:ByteArray).data.toList=[33,61] from rfl,h1] at this; exact this)
   clear h0 h1 HC HFO
   go_enter Tryz.func255,Tryz.ntmps255
   go_wp2_with fail
   refine (HC0.out _ HP.out).mono ?_
   rintro e w1 ⟨rfl,k1⟩
   have HB0:=Lib.hid (k1)
   clear k1
   go_wp2_with fail
   refine (HC1.out _ (HP.out.below HB0.out)).mono ?_
   rintro e w2 ⟨rfl,k1⟩
   have HB1:=Lib.hid (HB0.out.trans (k1.mono HB0.out.size))
   clear k1
   go_wp2_with fail
   refine bodyPost_ret (par_result2 rfl _ _ _) rfl ?_
   exact ⟨by rw [HV.out]; rfl,HB1.out⟩
  case false =>
   cases h2:isP M p [60]
   case true =>
    have HV:Hid (firstOp M p cmpS=15):=Lib.hid (by rw [HFO.out,h0,if_neg (by decide),h1,if_neg (by decide),h2,if_pos rfl])
    have HC0:Hid (∀ w1,PlAt w1 g ta tl tc M p → Calls Tryz.prog 119 #[.pointer (some ⟨g,0,none⟩),.string ⟨#[61,61]⟩] w1 fun e w'=>e=.returned (.bool false) ∧ Below w1.heap.size w1 w'):=Lib.hid (fun w1 hq=>by have:=HC.out ⟨#[61,61]⟩ w1 hq; rw [show (⟨#[61,61]⟩:ByteArray).data.toList=[61,61] from rfl,h0] at this; exact this)
    have HC1:Hid (∀ w1,PlAt w1 g ta tl tc M p → Calls Tryz.prog 119 #[.pointer (some ⟨g,0,none⟩),.string ⟨#[33,61]⟩] w1 fun e w'=>e=.returned (.bool false) ∧ Below w1.heap.size w1 w'):=Lib.hid (fun w1 hq=>by have:=HC.out ⟨#[33,61]⟩ w1 hq; rw [show (⟨#[33,61]⟩:ByteArray).data.toList=[33,61] from rfl,h1] at this; exact this)
    have HC2:Hid (∀ w1,PlAt w1 g ta tl tc M p → Calls Tryz.prog 119 #[.pointer (some ⟨g,0,none⟩),.string ⟨#[60]⟩] w1 fun e w'=>e=.returned (.bool true) ∧ Below w1.heap.size w1 w'):=Lib.hid (fun w1 hq=>by have:=HC.out ⟨#[60]⟩ w1 hq; rw [show (⟨#[60]⟩:ByteArray).data.toList=[60] from rfl,h2] at this; exact this)
    clear h0 h1 h2 HC HFO
    go_enter Tryz.func255,Tryz.ntmps255
    go_wp2_with fail
    refine (HC0.out _ HP.out).mono ?_
    rintro e w1 ⟨rfl,k1⟩
    have HB0:=Lib.hid (k1)
    clear k1
    go_wp2_with fail
    refine (HC1.out _ (HP.out.below HB0.out)).mono ?_
    rintro e w2 ⟨rfl,k1⟩
    have HB1:=Lib.hid (HB0.out.trans (k1.mono HB0.out.size))
    clear k1
    go_wp2_with fail
    refine (HC2.out _ (HP.out.below HB1.out)).mono ?_
    rintro e w3 ⟨rfl,k1⟩
    have HB2:=Lib.hid (HB1.out.trans (k1.mono HB1.out.size))
    clear k1
    go_wp2_with fail
    refine bodyPost_ret (par_result2 rfl _ _ _) rfl ?_
    exact ⟨by rw [HV.out]; rfl,HB2.out⟩
   case false =>
    cases h3:isP M p [60,61]
    case true =>
     have HV:Hid (firstOp M p cmpS=16):=Lib.hid (by rw [HFO.out,h0,if_neg (by decide),h1,if_neg (by decide),h2,if_neg (by decide),h3,if_pos rfl])
     have HC0:Hid (∀ w1,PlAt w1 g ta tl tc M p → Calls Tryz.prog 119 #[.pointer (some ⟨g,0,none⟩),.string ⟨#[61,61]⟩] w1 fun e w'=>e=.returned (.bool false) ∧ Below w1.heap.size w1 w'):=Lib.hid (fun w1 hq=>by have:=HC.out ⟨#[61,61]⟩ w1 hq; rw [show (⟨#[61,61]⟩:ByteArray).data.toList=[61,61] from rfl,h0] at this; exact this)
     have HC1:Hid (∀ w1,PlAt w1 g ta tl tc M p → Calls Tryz.prog 119 #[.pointer (some ⟨g,0,none⟩),.string ⟨#[33,61]⟩] w1 fun e w'=>e=.returned (.bool false) ∧ Below w1.heap.size w1 w'):=Lib.hid (fun w1 hq=>by have:=HC.out ⟨#[33,61]⟩ w1 hq; rw [show (⟨#[33,61]⟩:ByteArray).data.toList=[33,61] from rfl,h1] at this; exact this)
     have HC2:Hid (∀ w1,PlAt w1 g ta tl tc M p → Calls Tryz.prog 119 #[.pointer (some ⟨g,0,none⟩),.string ⟨#[60]⟩] w1 fun e w'=>e=.returned (.bool false) ∧ Below w1.heap.size w1 w'):=Lib.hid (fun w1 hq=>by have:=HC.out ⟨#[60]⟩ w1 hq; rw [show (⟨#[60]⟩:ByteArray).data.toList=[60] from rfl,h2] at this; exact this)
     have HC3:Hid (∀ w1,PlAt w1 g ta tl tc M p → Calls Tryz.prog 119 #[.pointer (some ⟨g,0,none⟩),.string ⟨#[60,61]⟩] w1 fun e w'=>e=.returned (.bool true) ∧ Below w1.heap.size w1 w'):=Lib.hid (fun w1 hq=>by have:=HC.out ⟨#[60,61]⟩ w1 hq; rw [show (⟨#[60,61]⟩:ByteArray).data.toList=[60,61] from rfl,h3] at this; exact this)
     clear h0 h1 h2 h3 HC HFO
     go_enter Tryz.func255,Tryz.ntmps255
     go_wp2_with fail
     refine (HC0.out _ HP.out).mono ?_
     rintro e w1 ⟨rfl,k1⟩
     have HB0:=Lib.hid (k1)
     clear k1
     go_wp2_with fail
     refine (HC1.out _ (HP.out.below HB0.out)).mono ?_
     rintro e w2 ⟨rfl,k1⟩
     have HB1:=Lib.hid (HB0.out.trans (k1.mono HB0.out.size))
     clear k1
     go_wp2_with fail
     refine (HC2.out _ (HP.out.below HB1.out)).mono ?_
     rintro e w3 ⟨rfl,k1⟩
     have HB2:=Lib.hid (HB1.out.trans (k1.mono HB1.out.size))
     clear k1
     go_wp2_with fail
     refine (HC3.out _ (HP.out.below HB2.out)).mono ?_
     rintro e w4 ⟨rfl,k1⟩
     have HB3:=Lib.hid (HB2.out.trans (k1.mono HB2.out.size))
     clear k1
     go_wp2_with fail
     refine bodyPost_ret (par_result2 rfl _ _ _) rfl ?_
     exact ⟨by rw [HV.out]; rfl,HB3.out⟩
    case false =>
     cases h4:isP M p [62]
     case true =>
      have HV:Hid (firstOp M p cmpS=115):=Lib.hid (by rw [HFO.out,h0,if_neg (by decide),h1,if_neg (by decide),h2,if_neg (by decide),h3,if_neg (by decide),h4,if_pos rfl])
      have HC0:Hid (∀ w1,PlAt w1 g ta tl tc M p → Calls Tryz.prog 119 #[.pointer (some ⟨g,0,none⟩),.string ⟨#[61,61]⟩] w1 fun e w'=>e=.returned (.bool false) ∧ Below w1.heap.size w1 w'):=Lib.hid (fun w1 hq=>by have:=HC.out ⟨#[61,61]⟩ w1 hq; rw [show (⟨#[61,61]⟩:ByteArray).data.toList=[61,61] from rfl,h0] at this; exact this)
      have HC1:Hid (∀ w1,PlAt w1 g ta tl tc M p → Calls Tryz.prog 119 #[.pointer (some ⟨g,0,none⟩),.string ⟨#[33,61]⟩] w1 fun e w'=>e=.returned (.bool false) ∧ Below w1.heap.size w1 w'):=Lib.hid (fun w1 hq=>by have:=HC.out ⟨#[33,61]⟩ w1 hq; rw [show (⟨#[33,61]⟩:ByteArray).data.toList=[33,61] from rfl,h1] at this; exact this)
      have HC2:Hid (∀ w1,PlAt w1 g ta tl tc M p → Calls Tryz.prog 119 #[.pointer (some ⟨g,0,none⟩),.string ⟨#[60]⟩] w1 fun e w'=>e=.returned (.bool false) ∧ Below w1.heap.size w1 w'):=Lib.hid (fun w1 hq=>by have:=HC.out ⟨#[60]⟩ w1 hq; rw [show (⟨#[60]⟩:ByteArray).data.toList=[60] from rfl,h2] at this; exact this)
      have HC3:Hid (∀ w1,PlAt w1 g ta tl tc M p → Calls Tryz.prog 119 #[.pointer (some ⟨g,0,none⟩),.string ⟨#[60,61]⟩] w1 fun e w'=>e=.returned (.bool false) ∧ Below w1.heap.size w1 w'):=Lib.hid (fun w1 hq=>by have:=HC.out ⟨#[60,61]⟩ w1 hq; rw [show (⟨#[60,61]⟩:ByteArray).data.toList=[60,61] from rfl,h3] at this; exact this)
      have HC4:Hid (∀ w1,PlAt w1 g ta tl tc M p → Calls Tryz.prog 119 #[.pointer (some ⟨g,0,none⟩),.string ⟨#[62]⟩] w1 fun e w'=>e=.returned (.bool true) ∧ Below w1.heap.size w1 w'):=Lib.hid (fun w1 hq=>by have:=HC.out ⟨#[62]⟩ w1 hq; rw [show (⟨#[62]⟩:ByteArray).data.toList=[62] from rfl,h4] at this; exact this)
      clear h0 h1 h2 h3 h4 HC HFO
      go_enter Tryz.func255,Tryz.ntmps255
      go_wp2_with fail
      refine (HC0.out _ HP.out).mono ?_
      rintro e w1 ⟨rfl,k1⟩
      have HB0:=Lib.hid (k1)
      clear k1
      go_wp2_with fail
      refine (HC1.out _ (HP.out.below HB0.out)).mono ?_
      rintro e w2 ⟨rfl,k1⟩
      have HB1:=Lib.hid (HB0.out.trans (k1.mono HB0.out.size))
      clear k1
      go_wp2_with fail
      refine (HC2.out _ (HP.out.below HB1.out)).mono ?_
      rintro e w3 ⟨rfl,k1⟩
      have HB2:=Lib.hid (HB1.out.trans (k1.mono HB1.out.size))
      clear k1
      go_wp2_with fail
      refine (HC3.out _ (HP.out.below HB2.out)).mono ?_
      rintro e w4 ⟨rfl,k1⟩
      have HB3:=Lib.hid (HB2.out.trans (k1.mono HB2.out.size))
      clear k1
      go_wp2_with fail
      refine (HC4.out _ (HP.out.below HB3.out)).mono ?_
      rintro e w5 ⟨rfl,k1⟩
      have HB4:=Lib.hid (HB3.out.trans (k1.mono HB3.out.size))
      clear k1
      go_wp2_with fail
      refine bodyPost_ret (par_result2 rfl _ _ _) rfl ?_
      exact ⟨by rw [HV.out]; rfl,HB4.out⟩
     case false =>
      cases h5:isP M p [62,61]
      case true =>
       have HV:Hid (firstOp M p cmpS=116):=Lib.hid (by rw [HFO.out,h0,if_neg (by decide),h1,if_neg (by decide),h2,if_neg (by decide),h3,if_neg (by decide),h4,if_neg (by decide),h5,if_pos rfl])
       have HC0:Hid (∀ w1,PlAt w1 g ta tl tc M p → Calls Tryz.prog 119 #[.pointer (some ⟨g,0,none⟩),.string ⟨#[61,61]⟩] w1 fun e w'=>e=.returned (.bool false) ∧ Below w1.heap.size w1 w'):=Lib.hid (fun w1 hq=>by have:=HC.out ⟨#[61,61]⟩ w1 hq; rw [show (⟨#[61,61]⟩:ByteArray).data.toList=[61,61] from rfl,h0] at this; exact this)
       have HC1:Hid (∀ w1,PlAt w1 g ta tl tc M p → Calls Tryz.prog 119 #[.pointer (some ⟨g,0,none⟩),.string ⟨#[33,61]⟩] w1 fun e w'=>e=.returned (.bool false) ∧ Below w1.heap.size w1 w'):=Lib.hid (fun w1 hq=>by have:=HC.out ⟨#[33,61]⟩ w1 hq; rw [show (⟨#[33,61]⟩:ByteArray).data.toList=[33,61] from rfl,h1] at this; exact this)
       have HC2:Hid (∀ w1,PlAt w1 g ta tl tc M p → Calls Tryz.prog 119 #[.pointer (some ⟨g,0,none⟩),.string ⟨#[60]⟩] w1 fun e w'=>e=.returned (.bool false) ∧ Below w1.heap.size w1 w'):=Lib.hid (fun w1 hq=>by have:=HC.out ⟨#[60]⟩ w1 hq; rw [show (⟨#[60]⟩:ByteArray).data.toList=[60] from rfl,h2] at this; exact this)
       have HC3:Hid (∀ w1,PlAt w1 g ta tl tc M p → Calls Tryz.prog 119 #[.pointer (some ⟨g,0,none⟩),.string ⟨#[60,61]⟩] w1 fun e w'=>e=.returned (.bool false) ∧ Below w1.heap.size w1 w'):=Lib.hid (fun w1 hq=>by have:=HC.out ⟨#[60,61]⟩ w1 hq; rw [show (⟨#[60,61]⟩:ByteArray).data.toList=[60,61] from rfl,h3] at this; exact this)
       have HC4:Hid (∀ w1,PlAt w1 g ta tl tc M p → Calls Tryz.prog 119 #[.pointer (some ⟨g,0,none⟩),.string ⟨#[62]⟩] w1 fun e w'=>e=.returned (.bool false) ∧ Below w1.heap.size w1 w'):=Lib.hid (fun w1 hq=>by have:=HC.out ⟨#[62]⟩ w1 hq; rw [show (⟨#[62]⟩:ByteArray).data.toList=[62] from rfl,h4] at this; exact this)
       have HC5:Hid (∀ w1,PlAt w1 g ta tl tc M p → Calls Tryz.prog 119 #[.pointer (some ⟨g,0,none⟩),.string ⟨#[62,61]⟩] w1 fun e w'=>e=.returned (.bool true) ∧ Below w1.heap.size w1 w'):=Lib.hid (fun w1 hq=>by have:=HC.out ⟨#[62,61]⟩ w1 hq; rw [show (⟨#[62,61]⟩:ByteArray).data.toList=[62,61] from rfl,h5] at this; exact this)
       clear h0 h1 h2 h3 h4 h5 HC HFO
       go_enter Tryz.func255,Tryz.ntmps255
       go_wp2_with fail
       refine (HC0.out _ HP.out).mono ?_
       rintro e w1 ⟨rfl,k1⟩
       have HB0:=Lib.hid (k1)
       clear k1
       go_wp2_with fail
       refine (HC1.out _ (HP.out.below HB0.out)).mono ?_
       rintro e w2 ⟨rfl,k1⟩
       have HB1:=Lib.hid (HB0.out.trans (k1.mono HB0.out.size))
       clear k1
       go_wp2_with fail
       refine (HC2.out _ (HP.out.below HB1.out)).mono ?_
       rintro e w3 ⟨rfl,k1⟩
       have HB2:=Lib.hid (HB1.out.trans (k1.mono HB1.out.size))
       clear k1
       go_wp2_with fail
       refine (HC3.out _ (HP.out.below HB2.out)).mono ?_
       rintro e w4 ⟨rfl,k1⟩
       have HB3:=Lib.hid (HB2.out.trans (k1.mono HB2.out.size))
       clear k1
       go_wp2_with fail
       refine (HC4.out _ (HP.out.below HB3.out)).mono ?_
       rintro e w5 ⟨rfl,k1⟩
       have HB4:=Lib.hid (HB3.out.trans (k1.mono HB3.out.size))
       clear k1
       go_wp2_with fail
       refine (HC5.out _ (HP.out.below HB4.out)).mono ?_
       rintro e w6 ⟨rfl,k1⟩
       have HB5:=Lib.hid (HB4.out.trans (k1.mono HB4.out.size))
       clear k1
       go_wp2_with fail
       refine bodyPost_ret (par_result2 rfl _ _ _) rfl ?_
       exact ⟨by rw [HV.out]; rfl,HB5.out⟩
      case false =>
       have HV:Hid (firstOp M p cmpS=0):=Lib.hid (by rw [HFO.out,h0,if_neg (by decide),h1,if_neg (by decide),h2,if_neg (by decide),h3,if_neg (by decide),h4,if_neg (by decide),h5,if_neg (by decide)])
       have HC0:Hid (∀ w1,PlAt w1 g ta tl tc M p → Calls Tryz.prog 119 #[.pointer (some ⟨g,0,none⟩),.string ⟨#[61,61]⟩] w1 fun e w'=>e=.returned (.bool false) ∧ Below w1.heap.size w1 w'):=Lib.hid (fun w1 hq=>by have:=HC.out ⟨#[61,61]⟩ w1 hq; rw [show (⟨#[61,61]⟩:ByteArray).data.toList=[61,61] from rfl,h0] at this; exact this)
       have HC1:Hid (∀ w1,PlAt w1 g ta tl tc M p → Calls Tryz.prog 119 #[.pointer (some ⟨g,0,none⟩),.string ⟨#[33,61]⟩] w1 fun e w'=>e=.returned (.bool false) ∧ Below w1.heap.size w1 w'):=Lib.hid (fun w1 hq=>by have:=HC.out ⟨#[33,61]⟩ w1 hq; rw [show (⟨#[33,61]⟩:ByteArray).data.toList=[33,61] from rfl,h1] at this; exact this)
       have HC2:Hid (∀ w1,PlAt w1 g ta tl tc M p → Calls Tryz.prog 119 #[.pointer (some ⟨g,0,none⟩),.string ⟨#[60]⟩] w1 fun e w'=>e=.returned (.bool false) ∧ Below w1.heap.size w1 w'):=Lib.hid (fun w1 hq=>by have:=HC.out ⟨#[60]⟩ w1 hq; rw [show (⟨#[60]⟩:ByteArray).data.toList=[60] from rfl,h2] at this; exact this)
       have HC3:Hid (∀ w1,PlAt w1 g ta tl tc M p → Calls Tryz.prog 119 #[.pointer (some ⟨g,0,none⟩),.string ⟨#[60,61]⟩] w1 fun e w'=>e=.returned (.bool false) ∧ Below w1.heap.size w1 w'):=Lib.hid (fun w1 hq=>by have:=HC.out ⟨#[60,61]⟩ w1 hq; rw [show (⟨#[60,61]⟩:ByteArray).data.toList=[60,61] from rfl,h3] at this; exact this)
       have HC4:Hid (∀ w1,PlAt w1 g ta tl tc M p → Calls Tryz.prog 119 #[.pointer (some ⟨g,0,none⟩),.string ⟨#[62]⟩] w1 fun e w'=>e=.returned (.bool false) ∧ Below w1.heap.size w1 w'):=Lib.hid (fun w1 hq=>by have:=HC.out ⟨#[62]⟩ w1 hq; rw [show (⟨#[62]⟩:ByteArray).data.toList=[62] from rfl,h4] at this; exact this)
       have HC5:Hid (∀ w1,PlAt w1 g ta tl tc M p → Calls Tryz.prog 119 #[.pointer (some ⟨g,0,none⟩),.string ⟨#[62,61]⟩] w1 fun e w'=>e=.returned (.bool false) ∧ Below w1.heap.size w1 w'):=Lib.hid (fun w1 hq=>by have:=HC.out ⟨#[62,61]⟩ w1 hq; rw [show (⟨#[62,61]⟩:ByteArray).data.toList=[62,61] from rfl,h5] at this; exact this)
       clear h0 h1 h2 h3 h4 h5 HC HFO
       go_enter Tryz.func255,Tryz.ntmps255
       go_wp2_with fail
       refine (HC0.out _ HP.out).mono ?_
       rintro e w1 ⟨rfl,k1⟩
       have HB0:=Lib.hid (k1)
       clear k1
       go_wp2_with fail
       refine (HC1.out _ (HP.out.below HB0.out)).mono ?_
       rintro e w2 ⟨rfl,k1⟩
       have HB1:=Lib.hid (HB0.out.trans (k1.mono HB0.out.size))
       clear k1
       go_wp2_with fail
       refine (HC2.out _ (HP.out.below HB1.out)).mono ?_
       rintro e w3 ⟨rfl,k1⟩
       have HB2:=Lib.hid (HB1.out.trans (k1.mono HB1.out.size))
       clear k1
       go_wp2_with fail
       refine (HC3.out _ (HP.out.below HB2.out)).mono ?_
       rintro e w4 ⟨rfl,k1⟩
       have HB3:=Lib.hid (HB2.out.trans (k1.mono HB2.out.size))
       clear k1
       go_wp2_with fail
       refine (HC4.out _ (HP.out.below HB3.out)).mono ?_
       rintro e w5 ⟨rfl,k1⟩
       have HB4:=Lib.hid (HB3.out.trans (k1.mono HB3.out.size))
       clear k1
       go_wp2_with fail
       refine (HC5.out _ (HP.out.below HB4.out)).mono ?_
       rintro e w6 ⟨rfl,k1⟩
       have HB5:=Lib.hid (HB4.out.trans (k1.mono HB4.out.size))
       clear k1
       go_wp2_with fail
       refine bodyPost_ret (par_result2 rfl _ _ _) rfl ?_
       exact ⟨by rw [HV.out]; rfl,HB5.out⟩
def K2 (g b:Nat):Nat → Prop:=fun k=>k=g ∨ k=b
theorem k2_set1 {g c:Nat} {a b:World} (h:Kp (K2 g c) a b) (o:Nat) (v:Value):Kp (K2 g c) a (b.setCell ⟨g,o,none⟩ v):=h.set (S:=K2 g c) (g:=g) (.inl rfl) v
theorem k2_set2 {g c:Nat} {a b:World} (h:Kp (K2 g c) a b) (o:Nat) (v:Value):Kp (K2 g c) a (b.setCell ⟨c,o,none⟩ v):=h.set (S:=K2 g c) (g:=c) (.inr rfl) v
theorem NsAt.k2 {B g b:Nat} {w W:World} {v:Value} {L:List Ex} {T:TypeId} (h:NsAt B w v L) (hg:CBlk w g 167) (hb:CBlk w b T) (hne:T ≠ 58) (hk:Kp (K2 g b) w W):NsAt B W v L :=
 h.heap (fun k c=>hk.block k c.lt (fun e=>by
  rcases e with e | e
  ·exact c.ne hg (by decide) e
  ·exact hb.ne c hne e.symm))
def XPost (g:Nat) (ta:Option Addr) (tl tc:Nat) (M:List Tk) (r:Cx × Pl) (w:World) (e:Ending) (w':World):Prop :=
 (∃ v,e=.returned v ∧ CxAt w.heap.size w' v r.1) ∧ PlAt w' g ta tl tc M r.2 ∧ Kp (K1 g) w w'
theorem close9 {g tl tc d b:Nat} {ta:Option Addr} {M:List Tk} {p:Pl} {r:Cx × Pl} {ev nv:Value} {w w2 W:World}
  (hkW:∀ W,Kp (K2 g b) w2 W → NsAt w.heap.size W nv r.1.ns) (hkP:∀ W,Kp (K2 g b) w2 W → Kp (K1 g) w W) (hp:PlAt w g ta tl tc M p) (hg:CBlk w2 g 167) (he:ErrAt w2 r.2 ev) (hq:r.2.a ≤ M.length) (hd:d=r.1.d) (hb:¬ CBlk w2 b 173)
  (hk:Kp (K2 g b) w2 W) (ho:Ho W g (parC ta tl tc (shutP r.2) ev) 167):XPost g ta tl tc M (r.1,shutP r.2) w (.returned (.agg #[nv,.int .i64 (d:Nat)])) W:=by
 have hk2:∀ k,CBlk w2 k 173 → k ≠ b → W.heap[k]? = w2.heap[k]? := fun k c hne=>hk.block k c.lt (fun e=>by
  rcases e with e | e
  ·exact c.ne hg (by decide) e
  ·exact hne e)
 refine ⟨⟨_,rfl,nv,by rw [hd],hkW _ hk⟩,hp.put (hkP _ hk) ho ?_ hq,hkP _ hk⟩
 refine ⟨he.1,fun e=>?_⟩
 obtain ⟨c,e1,e2⟩:=he.2 e
 exact ⟨c,e1,(hk2 c ⟨_,_,e2⟩ (fun e=>by
  subst e
  exact hb ⟨_,_,e2⟩)).trans e2⟩
set_option maxHeartbeats 4000000 in
theorem within_calls (g tl tc f:Nat) (ta:Option Addr) (M:List Tk) (p:Pl) (t:Tk) (a:Addr) (r:Cx × Pl) (w:World) (h:PlAt w g ta tl tc M p) (hv:ErrR w a) (hgl:7 < g)
  (hop:0 ≤ p.op ∧ p.op ≤ 1000) (hr:0 ≤ r.2.op ∧ r.2.op ≤ 1000) (eg:∀ args w,(callFunc f args).run Tryz.prog w=.ok (.enter f args) w)
  (hin:∀ w1,PlAt w1 g ta tl tc M (withinC p t) → ErrR w1 a → Calls Tryz.prog f #[.pointer (some ⟨g,0,none⟩)] w1 (XPost g ta tl tc M r w1)) :
  Calls Tryz.prog 236 #[.pointer (some ⟨g,0,none⟩),tkV t,.func (.func f) #[.pointer (some ⟨g,0,none⟩)] #[]] w (XPost g ta tl tc M (r.1,shutP r.2) w):=by
 have HP:=Lib.hid h
 have HIN:=Lib.hid hin
 have HF:=Lib.hid (fun q w1 h1=>fail_calls g tl tc 13 ta M q t w1 h1 (by decide))
 have hg:=h.lt
 obtain ⟨ev0,_,_,c0,c1,c2,c3,e1,e2,e3⟩:=h.cells
 have HV:=Lib.hid hv
 have HOP:=Lib.hid hop
 have b1:-9223372036854775808 ≤ p.op + 1:=by omega
 have b2:p.op + 1 ≤ 9223372036854775807:=by omega
 have HRO:=Lib.hid hr
 have HB1:Hid (Below w.heap.size w ((w.alloc (.cells #[.int .i64 (t.k:Nat),.string ⟨t.t.toArray⟩,.int .i64 (t.line:Nat),.int .i64 (t.col:Nat)] 183)).alloc (.cells #[.slice none 0 0,.int .i64 0] 136))):=Lib.hid (((Below.refl _ _).alloc (Nat.le_refl _) _).alloc (by simp) _)
 have HW:Hid (withinC p t=if 128 < p.op + 1 then failC ⟨p.a,p.er,p.line,p.col,p.op + 1⟩ t 13 else ⟨p.a,p.er,p.line,p.col,p.op + 1⟩):=Lib.hid rfl
 clear h hin hv hop hr
 unfold tkV
 by_cases hd:128 < p.op + 1
 case neg =>
  have t1:decide (128 < p.op + 1)=false:=decide_eq_false hd
  have HW2:=HW.out
  rw [if_neg hd] at HW2
  replace HW2:=Lib.hid HW2
  clear hd HW
  go_enter Tryz.func236,Tryz.ntmps236
  go_wp2_with fail
  have hK1:Kp (K1 g) w (((w.setCell ⟨g,3,none⟩ (.int .i64 (p.op + 1))).alloc (.cells #[.int .i64 (t.k:Nat),.string ⟨t.t.toArray⟩,.int .i64 (t.line:Nat),.int .i64 (t.col:Nat)] 183)).alloc (.cells #[.slice none 0 0,.int .i64 0] 136)):=((kp_set1 (Kp.refl _ w) _ _).alloc _).alloc _
  have hPl:PlAt (((w.setCell ⟨g,3,none⟩ (.int .i64 (p.op + 1))).alloc (.cells #[.int .i64 (t.k:Nat),.string ⟨t.t.toArray⟩,.int .i64 (t.line:Nat),.int .i64 (t.col:Nat)] 183)).alloc (.cells #[.slice none 0 0,.int .i64 0] 136)) g ta tl tc M (withinC p t):=by
   rw [HW2.out]
   exact (HP.out.opened (p.op + 1)).below (((Below.refl _ _).alloc (Nat.le_refl _) _).alloc (by simp) _)
  have hEr:=errR_kp HV.out hgl hg hK1
  have hY1:Ho (((w.setCell ⟨g,3,none⟩ (.int .i64 (p.op + 1))).alloc (.cells #[.int .i64 (t.k:Nat),.string ⟨t.t.toArray⟩,.int .i64 (t.line:Nat),.int .i64 (t.col:Nat)] 183)).alloc (.cells #[.slice none 0 0,.int .i64 0] 136)) (w.heap.size + 1) #[.slice none 0 0,.int .i64 0] 136:=Ho.new _ _ _ (by simp)
  refine (HIN.out _ hPl hEr).mono ?_
  rintro e w2 ⟨⟨v,rfl,nv,rfl,hn⟩,k1,k2⟩
  obtain ⟨va,vc,hnv⟩:=hn.slice
  obtain ⟨kl,hkl⟩:∃ kl,kl=r.1.ns.length:=⟨_,rfl⟩
  rw [← hkl] at hnv
  subst hnv
  clear hkl
  have HK2:=Lib.hid (hK1.trans k2)
  have HY2:Hid (Ho w2 (w.heap.size + 1) #[.slice none 0 0,.int .i64 0] 136):=Lib.hid ((k2.block _ hY1.lt (by show ¬ w.heap.size + 1=g; omega)).trans hY1)
  have HN2:Hid (NsAt w.heap.size w2 (.slice va kl vc) r.1.ns):=Lib.hid (hn.base hK1.size)
  have HP2:=Lib.hid k1
  obtain ⟨ev2,ho2,her2⟩:=k1.ho
  obtain ⟨ev3,_,_,c0,c1,c2,c3,e1,e2,e3⟩:=k1.cells
  have HO2:=Lib.hid ho2
  have HE2:=Lib.hid her2
  have HG2:=Lib.hid k1.cblk
  have y0:w2.cell? ⟨w.heap.size + 1,0,none⟩=some (.slice none 0 0):=by rw [cell_of_row _ _ 0 _ _ _ HY2.out]; rfl
  have y1:w2.cell? ⟨w.heap.size + 1,1,none⟩=some (.int .i64 0):=by rw [cell_of_row _ _ 1 _ _ _ HY2.out]; rfl
  have yf0:=frozen_of_row _ _ 0 _ _ HY2.out
  have yf1:=frozen_of_row _ _ 1 _ _ HY2.out
  have hyl:w.heap.size + 1 < w2.heap.size:=HY2.out.lt
  have hgl2:g < w2.heap.size:=HG2.out.lt
  have hgy:¬ g=w.heap.size + 1:=by omega
  have hyg:¬ w.heap.size + 1=g:=by omega
  have d1:-9223372036854775808 ≤ r.2.op - 1:=by have:=HRO.out; omega
  have d2:r.2.op - 1 ≤ 9223372036854775807:=by have:=HRO.out; omega
  obtain ⟨d,hd⟩:∃ d,d=r.1.d:=⟨_,rfl⟩
  rw [← hd]
  have HD:=Lib.hid hd
  clear k1 k2 hn ho2 her2 hPl hEr hK1 hY1 hd
  go_wp2_with fail
  have hkW:∀ W,Kp (K2 g (w.heap.size + 1)) w2 W → NsAt w.heap.size W (.slice va kl vc) r.1.ns:=fun W k=>HN2.out.k2 HG2.out HY2.out.cblk (by decide) k
  have hkP:∀ W,Kp (K2 g (w.heap.size + 1)) w2 W → Kp (K1 g) w W:=fun W k=>⟨k.os.trans HK2.out.os,k.tape.trans HK2.out.tape,k.output.trans HK2.out.output,Nat.le_trans HK2.out.size k.size,fun j hj hn=>(k.block j (Nat.lt_of_lt_of_le hj HK2.out.size) (fun e=>by
   rcases e with e | e
   ·exact hn e
   ·omega)).trans (HK2.out.block j hj hn)⟩
  refine bodyPost_ret (v:=.agg #[.slice va kl vc,.int .i64 (d:Nat)]) ?_ rfl ?_
  ·refine cs_result1 rfl _ _ _ (a:=⟨w.heap.size + 1,0,none⟩) (by rfl) ?_
   go_simp
  refine close9 (r:=r) (ev:=ev2) hkW hkP HP.out HG2.out HE2.out HP2.out.at' HD.out (fun c=>c.ne HY2.out.cblk (by decide) rfl) ?_ ?_
  ·repeat' (first | (with_reducible exact Kp.refl _ _) | with_reducible refine k2_set1 ?_ _ _ | with_reducible refine k2_set2 ?_ _ _ | with_reducible refine Kp.alloc ?_ _ | with_reducible refine par_setNew ?_ (by omega) _)
  ·repeat' (first | (with_reducible exact HO2.out) | with_reducible refine Ho.alloc ?_ _ | with_reducible refine Ho.other ?_ hgy | refine Ho.set HO2.out rfl)
 case pos =>
  have t1:decide (128 < p.op + 1)=true:=decide_eq_true hd
  have HW2:=HW.out
  rw [if_pos hd] at HW2
  replace HW2:=Lib.hid HW2
  clear hd HW
  go_enter Tryz.func236,Tryz.ntmps236
  go_wp2_with fail
  have hK0:Kp (K1 g) w (((w.setCell ⟨g,3,none⟩ (.int .i64 (p.op + 1))).alloc (.cells #[.int .i64 (t.k:Nat),.string ⟨t.t.toArray⟩,.int .i64 (t.line:Nat),.int .i64 (t.col:Nat)] 183)).alloc (.cells #[.slice none 0 0,.int .i64 0] 136)):=((kp_set1 (Kp.refl _ w) _ _).alloc _).alloc _
  have hP0:PlAt (((w.setCell ⟨g,3,none⟩ (.int .i64 (p.op + 1))).alloc (.cells #[.int .i64 (t.k:Nat),.string ⟨t.t.toArray⟩,.int .i64 (t.line:Nat),.int .i64 (t.col:Nat)] 183)).alloc (.cells #[.slice none 0 0,.int .i64 0] 136)) g ta tl tc M ⟨p.a,p.er,p.line,p.col,p.op + 1⟩:=(HP.out.opened (p.op + 1)).below (((Below.refl _ _).alloc (Nat.le_refl _) _).alloc (by simp) _)
  have hY0:Ho (((w.setCell ⟨g,3,none⟩ (.int .i64 (p.op + 1))).alloc (.cells #[.int .i64 (t.k:Nat),.string ⟨t.t.toArray⟩,.int .i64 (t.line:Nat),.int .i64 (t.col:Nat)] 183)).alloc (.cells #[.slice none 0 0,.int .i64 0] 136)) (w.heap.size + 1) #[.slice none 0 0,.int .i64 0] 136:=Ho.new _ _ _ (by simp)
  have hX0:Ho (((w.setCell ⟨g,3,none⟩ (.int .i64 (p.op + 1))).alloc (.cells #[.int .i64 (t.k:Nat),.string ⟨t.t.toArray⟩,.int .i64 (t.line:Nat),.int .i64 (t.col:Nat)] 183)).alloc (.cells #[.slice none 0 0,.int .i64 0] 136)) w.heap.size #[.int .i64 (t.k:Nat),.string ⟨t.t.toArray⟩,.int .i64 (t.line:Nat),.int .i64 (t.col:Nat)] 183:=(Ho.new _ _ _ (by simp)).alloc _
  generalize ((w.setCell ⟨g,3,none⟩ (.int .i64 (p.op + 1))).alloc (.cells #[.int .i64 (t.k:Nat),.string ⟨t.t.toArray⟩,.int .i64 (t.line:Nat),.int .i64 (t.col:Nat)] 183)).alloc (.cells #[.slice none 0 0,.int .i64 0] 136)=w0 at hK0 hP0 hY0 hX0 ⊢
  have HXC:Hid (∀ W,Ho W w.heap.size #[.int .i64 (t.k:Nat),.string ⟨t.t.toArray⟩,.int .i64 (t.line:Nat),.int .i64 (t.col:Nat)] 183 → W.cell? ⟨w.heap.size,0,none⟩=some (.int .i64 (t.k:Nat)) ∧ W.cell? ⟨w.heap.size,1,none⟩=some (.string ⟨t.t.toArray⟩) ∧ W.cell? ⟨w.heap.size,2,none⟩=some (.int .i64 (t.line:Nat)) ∧ W.cell? ⟨w.heap.size,3,none⟩=some (.int .i64 (t.col:Nat))):=Lib.hid (fun W hX=>⟨by rw [cell_of_row _ _ 0 _ _ _ hX]; rfl,by rw [cell_of_row _ _ 1 _ _ _ hX]; rfl,by rw [cell_of_row _ _ 2 _ _ _ hX]; rfl,by rw [cell_of_row _ _ 3 _ _ _ hX]; rfl⟩)
  have HX0:=Lib.hid hX0
  have HY0:=Lib.hid hY0
  have HK0:=Lib.hid hK0
  have HP0:=Lib.hid hP0
  clear hX0 hY0 hK0 hP0 c0 c1 c2 c3 e1 e2 e3
  refine wp_region_held_drew (S:=(fun W=>W.cell? ⟨w.heap.size,0,none⟩=some (.int .i64 (t.k:Nat)) ∧ W.cell? ⟨w.heap.size,1,none⟩=some (.string ⟨t.t.toArray⟩) ∧ W.cell? ⟨w.heap.size,2,none⟩=some (.int .i64 (t.line:Nat)) ∧ W.cell? ⟨w.heap.size,3,none⟩=some (.int .i64 (t.col:Nat)))) (by kernel_rfl) (HXC.out w0.drew HX0.out) (fun hH0=>?_)
  refine wpAnyH_take (i:=0) (v:=.pointer (some ⟨g,0,none⟩)) rfl (by kernel_rfl) (by kernel_rfl) (by kernel_rfl) (fun _ _ _ h=>h) (Or.inl ⟨by kernel_rfl,fun wS hSw=>by (try dsimp only at hSw); go_simp⟩) hH0 ?_
  refine wpAnyH_take (i:=1) (v:=.pointer (some ⟨g,0,none⟩)) rfl (by kernel_rfl) (by kernel_rfl) (by kernel_rfl) (fun _ _ _ h=>h) (Or.inl ⟨by kernel_rfl,fun wS hSw=>by (try dsimp only at hSw); go_simp⟩) hH0 ?_
  refine wpAnyH_take (i:=2) (v:=.pointer (some ⟨g,0,none⟩)) rfl (by kernel_rfl) (by kernel_rfl) (by kernel_rfl) (fun _ _ _ h=>h) (Or.inl ⟨by kernel_rfl,fun wS hSw=>by (try dsimp only at hSw); go_simp⟩) hH0 ?_
  refine wpAnyH_take (i:=3) (v:=.agg #[.int .i64 (t.k:Nat),.string ⟨t.t.toArray⟩,.int .i64 (t.line:Nat),.int .i64 (t.col:Nat)]) rfl (by kernel_rfl) (by kernel_rfl) (by kernel_rfl) (fun _ _ _ h=>h) (Or.inl ⟨by kernel_rfl,fun wS hSw=>by (try dsimp only at hSw); go_simp⟩) hH0 ?_
  refine wpAnyH_take (i:=4) (v:=.iface 44 (.int .i64 13)) rfl (by kernel_rfl) (by kernel_rfl) (by kernel_rfl) (fun _ _ _ h=>h) (Or.inl ⟨by kernel_rfl,fun wS hSw=>by (try dsimp only at hSw); go_simp⟩) hH0 ?_
  refine wpAnyH_ready (rs:=[5]) (by kernel_rfl) (by simp) ?_
  refine AllReadyH.cons rfl (fun K hK=>?_) AllReadyH.nil
  rw [if_pos (by kernel_rfl)]
  go_simp
  refine (HF.out _ _ (HP0.out.below ((Below.refl _ _).drew))).mono ?_
  rintro e w1 ⟨rfl,k1,k2⟩
  have k3:Kp (K1 g) w0 w1:=(Kp.of_below ((Below.refl _ _).drew)).trans k2
  have HX1:Hid (Ho w1 w.heap.size #[.int .i64 (t.k:Nat),.string ⟨t.t.toArray⟩,.int .i64 (t.line:Nat),.int .i64 (t.col:Nat)] 183):=Lib.hid ((k3.block _ HX0.out.lt (by show ¬ w.heap.size=g; omega)).trans HX0.out)
  have HY1:Hid (Ho w1 (w.heap.size + 1) #[.slice none 0 0,.int .i64 0] 136):=Lib.hid ((k3.block _ HY0.out.lt (by show ¬ w.heap.size + 1=g; omega)).trans HY0.out)
  have HP1:=Lib.hid k1
  have HK1:=Lib.hid (HK0.out.trans k3)
  clear k1 k2 k3
  refine hK.out _ _ (HXC.out _ HX1.out) (fun hH1=>?_)
  clear hK K
  refine wpAnyH_done (by kernel_rfl) ?_ _
  go_simp
  clear hH0 hH1
  go_wp2_with fail
  have hK1:=HK1.out
  have hPl:PlAt w1 g ta tl tc M (withinC p t):=by rw [HW2.out]; exact HP1.out
  have hEr:=errR_kp HV.out hgl hg hK1
  have hY1:=HY1.out
  refine (HIN.out _ hPl hEr).mono ?_
  rintro e w2 ⟨⟨v,rfl,nv,rfl,hn⟩,k1,k2⟩
  obtain ⟨va,vc,hnv⟩:=hn.slice
  obtain ⟨kl,hkl⟩:∃ kl,kl=r.1.ns.length:=⟨_,rfl⟩
  rw [← hkl] at hnv
  subst hnv
  clear hkl
  have HK2:=Lib.hid (hK1.trans k2)
  have HY2:Hid (Ho w2 (w.heap.size + 1) #[.slice none 0 0,.int .i64 0] 136):=Lib.hid ((k2.block _ hY1.lt (by show ¬ w.heap.size + 1=g; omega)).trans hY1)
  have HN2:Hid (NsAt w.heap.size w2 (.slice va kl vc) r.1.ns):=Lib.hid (hn.base hK1.size)
  have HP2:=Lib.hid k1
  obtain ⟨ev2,ho2,her2⟩:=k1.ho
  obtain ⟨ev3,_,_,c0,c1,c2,c3,e1,e2,e3⟩:=k1.cells
  have HO2:=Lib.hid ho2
  have HE2:=Lib.hid her2
  have HG2:=Lib.hid k1.cblk
  have y0:w2.cell? ⟨w.heap.size + 1,0,none⟩=some (.slice none 0 0):=by rw [cell_of_row _ _ 0 _ _ _ HY2.out]; rfl
  have y1:w2.cell? ⟨w.heap.size + 1,1,none⟩=some (.int .i64 0):=by rw [cell_of_row _ _ 1 _ _ _ HY2.out]; rfl
  have yf0:=frozen_of_row _ _ 0 _ _ HY2.out
  have yf1:=frozen_of_row _ _ 1 _ _ HY2.out
  have hyl:w.heap.size + 1 < w2.heap.size:=HY2.out.lt
  have hgl2:g < w2.heap.size:=HG2.out.lt
  have hgy:¬ g=w.heap.size + 1:=by omega
  have hyg:¬ w.heap.size + 1=g:=by omega
  have d1:-9223372036854775808 ≤ r.2.op - 1:=by have:=HRO.out; omega
  have d2:r.2.op - 1 ≤ 9223372036854775807:=by have:=HRO.out; omega
  obtain ⟨d,hd⟩:∃ d,d=r.1.d:=⟨_,rfl⟩
  rw [← hd]
  have HD:=Lib.hid hd
  clear k1 k2 hn ho2 her2 hPl hEr hK1 hY1 hd
  go_wp2_with fail
  have hkW:∀ W,Kp (K2 g (w.heap.size + 1)) w2 W → NsAt w.heap.size W (.slice va kl vc) r.1.ns:=fun W k=>HN2.out.k2 HG2.out HY2.out.cblk (by decide) k
  have hkP:∀ W,Kp (K2 g (w.heap.size + 1)) w2 W → Kp (K1 g) w W:=fun W k=>⟨k.os.trans HK2.out.os,k.tape.trans HK2.out.tape,k.output.trans HK2.out.output,Nat.le_trans HK2.out.size k.size,fun j hj hn=>(k.block j (Nat.lt_of_lt_of_le hj HK2.out.size) (fun e=>by
   rcases e with e | e
   ·exact hn e
   ·omega)).trans (HK2.out.block j hj hn)⟩
  refine bodyPost_ret (v:=.agg #[.slice va kl vc,.int .i64 (d:Nat)]) ?_ rfl ?_
  ·refine cs_result1 rfl _ _ _ (a:=⟨w.heap.size + 1,0,none⟩) (by rfl) ?_
   go_simp
  refine close9 (r:=r) (ev:=ev2) hkW hkP HP.out HG2.out HE2.out HP2.out.at' HD.out (fun c=>c.ne HY2.out.cblk (by decide) rfl) ?_ ?_
  ·repeat' (first | (with_reducible exact Kp.refl _ _) | with_reducible refine k2_set1 ?_ _ _ | with_reducible refine k2_set2 ?_ _ _ | with_reducible refine Kp.alloc ?_ _ | with_reducible refine par_setNew ?_ (by omega) _)
  ·repeat' (first | (with_reducible exact HO2.out) | with_reducible refine Ho.alloc ?_ _ | with_reducible refine Ho.other ?_ hgy | refine Ho.set HO2.out rfl)
open Go Go.RowKit
section
variable {P:Program} {ops:Array Oper} {Q:Exit → Act → World → Prop} {md:Region.Mode} {S:World → Prop} {bars:List Nat}
def past (bars:List Nat) (l:Array Bool):Bool:=bars.any fun k=>l.getD k true
def wpB (P:Program) (md:Region.Mode) (ops:Array Oper) (Q:Exit → Act → World → Prop) (S:World → Prop) (bars:List Nat):Nat → Array Bool → Act → World → Prop
 | 0,listed,a,w=>Region.ready md ops listed=[] ∧ Q .normal a w
 | fuel + 1,listed,a,w =>
  (Region.ready md ops listed=[] → Q .normal a w) ∧
  ∀ i ∈ Region.ready md ops listed,wpOp P ops Q i (fun a' w'=>(past bars (listed.setIfInBounds i true)=false → S w') ∧ wpB P md ops Q S bars fuel (listed.setIfInBounds i true) a' w') a w
theorem wpAny_of_B:∀ (fuel:Nat) (listed:Array Bool) (a:Act) (w:World),wpB P md ops Q S bars fuel listed a w → wpAny P md ops Q fuel listed a w
 | 0,_,_,_,h=>h
 | fuel + 1,_,_,_,h=>⟨h.1,fun i hi=>wpOp_mono (fun a' w' h'=>wpAny_of_B fuel _ a' w' h'.2) (h.2 i hi)⟩
def waitB (md:Region.Mode) (ops:Array Oper) (i:Nat) (l:List Nat) (j:Nat):Bool :=
 j != i && ((ops[j]?).map (fun o=>o.after.any (fun e=>Region.binds md e && (e.on == i || l.contains e.on)))).getD false
def depOk (md:Region.Mode) (ops:Array Oper) (dep:List Nat) (i:Nat) (bars:List Nat) (listed:Array Bool):Bool :=
 dep.all (fun j=>!listed.getD j true && waitB md ops i dep j) && bars.all (fun k=>dep.contains k)
theorem getD_tf {l:Array Bool} {j:Nat} (h:l.getD j true=false):l.getD j false=false:=by
 rcases Nat.lt_or_ge j l.size with h' | h'
 ·simp only [Array.getD_eq_getD_getElem?,Array.getElem?_eq_getElem h',Option.getD_some] at h ⊢
  exact h
 ·simp [h'] at h
theorem wpB_first {i:Nat} {oi:Oper} {v:Value} (hi:ops[i]? = some oi) (hsel:∀ (j:Nat) (o:Oper) cs b,ops[j]? = some o → o.op ≠ .select cs b)
  (hQ:∀ c a w,Q (.panic c) (a.put oi.dst v) w → Q (.panic c) a w) (dep:List Nat)
  (hdep:∀ j ∈ dep,j ≠ i ∧ ∃ oj,ops[j]? = some oj ∧ ∃ e ∈ oj.after,Region.binds md e=true ∧ (e.on=i ∨ e.on ∈ dep)) (hbar:∀ k ∈ bars,k ∈ dep) :
  ∀ (fuel:Nat) (listed:Array Bool) (a:Act) (w:World),(∀ j ∈ dep,listed.getD j true=false) →
   (∀ j oj,ops[j]? = some oj → j ≠ i → listed.getD j true=false → (∀ e ∈ oj.after,Region.binds md e=true → e.on ≠ i) → oi.apart ops oj=true) →
   i ∈ Region.ready md ops listed → YieldsIf P ops S oi v a → S w →
   wpB P md ops Q S bars fuel (listed.setIfInBounds i true) (a.put oi.dst v) w → wpB P md ops Q S bars (fuel + 1) listed a w:=by
 intro fuel
 induction fuel with
 | zero =>
  intro listed a w _ _ hr hy hS H
  refine ⟨fun h=>(by rw [h] at hr; cases hr),fun j hj=>?_⟩
  by_cases hji:j=i
  ·subst hji; exact hy.wpOp hi hS ⟨fun _=>hS,H⟩
  ·have:=ready_mono hj hji
   rw [H.1] at this
   cases this
 | succ fuel ih =>
  intro listed a w hun0 hfree hr hy hS H
  refine ⟨fun h=>(by rw [h] at hr; cases hr),fun j hj=>?_⟩
  by_cases hji:j=i
  ·subst hji; exact hy.wpOp hi hS ⟨fun _=>hS,H⟩
  ·have h1:=H.2 j (ready_mono hj hji)
   obtain ⟨hjun,oj,hoj,hall⟩:=mem_ready.1 hj
   have hi0:=getD_tf (mem_ready.1 hr).1
   have hjd:j ∉ dep:=fun hjd=>by
    obtain ⟨_,oj',hoj',e,he,hb,hon⟩:=hdep j hjd
    rw [hoj] at hoj'
    cases hoj'
    have h3:=hall e he hb
    rcases hon with hon | hon
    ·rw [hon,hi0] at h3; cases h3
    ·rw [getD_tf (hun0 _ hon)] at h3; cases h3
   have hnot:∀ e ∈ oj.after,Region.binds md e=true → e.on ≠ i:=fun e he hb heq=>by
    have h3:=hall e he hb
    rw [heq,hi0] at h3
    cases h3
   have hpast:past bars ((listed.setIfInBounds i true).setIfInBounds j true)=false:=by
    unfold past
    rw [List.any_eq_false]
    intro k hk
    have hkd:=hbar k hk
    rw [getD_set_ne true (show j ≠ k from fun e=>hjd (by rw [e]; exact hkd)),getD_set_ne true (Ne.symm (hdep k hkd).1),hun0 k hkd]
    simp
   have h2:=wpOp_putIf hoj (hfree j oj hoj hji hjun hnot) (fun cs b=>hsel i oi cs b hi) (fun cs b=>hsel j oj cs b hoj) hQ hy h1
   have hfree':∀ k ok,ops[k]? = some ok → k ≠ i → (listed.setIfInBounds j true).getD k true=false →
     (∀ e ∈ ok.after,Region.binds md e=true → e.on ≠ i) → oi.apart ops ok=true:=fun k ok hk hki hun hno=>by
    refine hfree k ok hk hki ?_ hno
    by_cases hjk:j=k
    ·subst hjk; exact hjun
    ·rw [getD_set_ne true hjk] at hun; exact hun
   refine wpOp_mono (fun a' w' h3=>⟨fun _=>h3.2.1 hpast,ih (listed.setIfInBounds j true) a' w' (fun k hk=>?_) hfree' (ready_mono hr (Ne.symm hji)) h3.1 (h3.2.1 hpast) ?_⟩) h2
   ·rw [getD_set_ne true (show j ≠ k from fun e=>hjd (by rw [e]; exact hk))]; exact hun0 k hk
   ·rw [Array.setIfInBounds_comm _ _ hji]
    exact h3.2.2
theorem wpB_take {i:Nat} {oi:Oper} {v:Value} {fuel:Nat} {listed:Array Bool} {a:Act} {w:World} (dep:List Nat) (hi:ops[i]? = some oi)
  (hs:Region.noSelect ops=true) (hf:Region.free md ops listed i=true) (hr:(Region.ready md ops listed).contains i=true)
  (hd:depOk md ops dep i bars listed=true)
  (hQ:∀ c a w,Q (.panic c) (a.put oi.dst v) w → Q (.panic c) a w) (hy:YieldsIf P ops S oi v a) (hS:S w)
  (h:wpB P md ops Q S bars fuel (listed.setIfInBounds i true) (a.put oi.dst v) w):wpB P md ops Q S bars (fuel + 1) listed a w:=by
 unfold depOk at hd
 rw [Bool.and_eq_true,List.all_eq_true,List.all_eq_true] at hd
 refine wpB_first hi (Region.noSelect_spec hs) hQ dep (fun j hj=>?_) (fun k hk=>by simpa using hd.2 k hk) fuel listed a w (fun j hj=>?_) (Region.free_spec hi hf) (by simpa using hr) hy hS h
 ·have h1:=hd.1 j hj
  rw [Bool.and_eq_true] at h1
  have h2:=h1.2
  unfold waitB at h2
  rw [Bool.and_eq_true,bne_iff_ne] at h2
  refine ⟨h2.1,?_⟩
  cases ho:ops[j]? with
  | none=>rw [ho] at h2; cases h2.2
  | some oj =>
   rw [ho] at h2
   obtain ⟨e,he,hb⟩:=Array.any_eq_true'.1 h2.2
   rw [Bool.and_eq_true,Bool.or_eq_true,beq_iff_eq] at hb
   exact ⟨oj,rfl,e,he,hb.1,hb.2.imp id (fun h=>by simpa using h)⟩
 ·have h1:=hd.1 j hj
  rw [Bool.and_eq_true] at h1
  simpa using h1.1
theorem wpB_step {i:Nat} {o:Oper} {fuel:Nat} {listed:Array Bool} {a:Act} {w:World} (ho:ops[i]? = some o) (hr:Region.ready md ops listed=[i])
  (h:∀ K':Act → World → Prop,Shut (∀ a w,S w → (S w → wpB P md ops Q S bars fuel (listed.setIfInBounds i true) a w) → K' a w) → if Region.wanted o (yielded ops a.tmps)=true then Oper.wp P o a w K' Q else K' (a.put o.dst undef) w) :
  wpB P md ops Q S bars (fuel + 1) listed a w :=
 ⟨fun h0=>(by rw [h0] at hr; cases hr),fun j hj=>by
  rw [hr,List.mem_singleton] at hj
  subst hj
  exact wpOp_step ho (fun K' hK=>h K' (fun a w hS hW=>hK a w ⟨fun _=>hS,hW hS⟩))⟩
theorem wpB_past {i:Nat} {o:Oper} {fuel:Nat} {listed:Array Bool} {a:Act} {w:World} (ho:ops[i]? = some o) (hr:Region.ready md ops listed=[i]) (hp:past bars (listed.setIfInBounds i true)=true)
  (h:∀ K':Act → World → Prop,Shut (∀ a w,wpB P md ops Q S bars fuel (listed.setIfInBounds i true) a w → K' a w) → if Region.wanted o (yielded ops a.tmps)=true then Oper.wp P o a w K' Q else K' (a.put o.dst undef) w) :
  wpB P md ops Q S bars (fuel + 1) listed a w :=
 ⟨fun h0=>(by rw [h0] at hr; cases hr),fun j hj=>by
  rw [hr,List.mem_singleton] at hj
  subst hj
  exact wpOp_step ho (fun K' hK=>h K' (fun a w hW=>hK a w ⟨fun h=>absurd (hp.symm.trans h) (by decide),hW⟩))⟩
theorem wpB_done {listed:Array Bool} {a:Act} {w:World} (hr:Region.ready md ops listed=[]) (h:Q .normal a w) :
  ∀ fuel,wpB P md ops Q S bars fuel listed a w
 | 0=>⟨hr,h⟩
 | _ + 1=>⟨fun _=>h,by rw [hr]; simp⟩
theorem wp_region_B {id:Nat} {a:Act} {w:World} (bars:List Nat) (hm:P.follows .mixedOrders=true) (hS:S w.drew)
  (h:S w.drew → wpB P .any ops Q S bars ops.size (Array.replicate ops.size false) a w.drew):(Code.region id ops true).wp P Q a w :=
 wp_region_any hm (wpAny_of_B _ _ _ _ (h hS))
end
theorem cx_cells {W:World} {b:Nat} {u v:Value} (h:Ho W b #[u,v] 136):W.cell? ⟨b,0,none⟩=some u ∧ W.cell? ⟨b,1,none⟩=some v ∧ W.frozen? ⟨b,0,none⟩=false ∧ W.frozen? ⟨b,1,none⟩=false :=
 ⟨by rw [cell_of_row _ _ 0 _ _ _ h]; rfl,by rw [cell_of_row _ _ 1 _ _ _ h]; rfl,frozen_of_row _ _ 0 _ _ h,frozen_of_row _ _ 1 _ _ h⟩
theorem tk_box {W:World} {b:Nat} {x:Tk} (h:Ho W b #[.int .i64 (x.k:Nat),.string ⟨x.t.toArray⟩,.int .i64 (x.line:Nat),.int .i64 (x.col:Nat)] 183):W.cell? ⟨b,0,none⟩=some (.int .i64 (x.k:Nat)) ∧ W.cell? ⟨b,1,none⟩=some (.string ⟨x.t.toArray⟩) ∧ W.cell? ⟨b,2,none⟩=some (.int .i64 (x.line:Nat)) ∧ W.cell? ⟨b,3,none⟩=some (.int .i64 (x.col:Nat)) :=
 ⟨by rw [cell_of_row _ _ 0 _ _ _ h]; rfl,by rw [cell_of_row _ _ 1 _ _ _ h]; rfl,by rw [cell_of_row _ _ 2 _ _ _ h]; rfl,by rw [cell_of_row _ _ 3 _ _ _ h]; rfl⟩
theorem Ho.kp {w W:World} {g b:Nat} {cs:Array Value} {T:TypeId} (h:Ho w b cs T) (hk:Kp (K1 g) w W) (hne:¬ b=g):Ho W b cs T:=(hk.block b h.lt hne).trans h
theorem Ho.below {w W:World} {b:Nat} {cs:Array Value} {T:TypeId} (h:Ho w b cs T) (hk:Below w.heap.size w W):Ho W b cs T:=(hk.block b h.lt).trans h
set_option maxHeartbeats 8000000 in
theorem joined_calls (g tl tc f1 f2 k lv:Nat) (ta:Option Addr) (M:List Tk) (p:Pl) (a:Addr) (w:World) (h:PlAt w g ta tl tc M p) (hM:MOk M) (hv:ErrR w a) (hgl:7 < g) (hop:OpOk p) (hlv:lv=0 ∨ lv=2 ∨ lv=6 ∨ lv=8)
  (eg1:∀ args w,(callFunc f1 args).run Tryz.prog w=.ok (.enter f1 args) w) (eg2:∀ args w,(callFunc f2 args).run Tryz.prog w=.ok (.enter f2 args) w)
  (hpart:∀ n,n ≤ k → ∀ q w1,PlAt w1 g ta tl tc M q → ErrR w1 a → OpOk q → needP M (lv + 2) q ≤ n → Calls Tryz.prog f1 #[.pointer (some ⟨g,0,none⟩)] w1 (XPost g ta tl tc M (exprC M n (lv + 2) q z0) w1))
  (hnext:∀ q w1,PlAt w1 g ta tl tc M q → Calls Tryz.prog f2 #[.pointer (some ⟨g,0,none⟩)] w1 fun e w'=>e=.returned (.int .i64 (firstOp M q (opsL (lv + 1)):Nat)) ∧ Below w1.heap.size w1 w')
  (hn:needP M lv p ≤ k + 1) :
  Calls Tryz.prog 144 #[.pointer (some ⟨g,0,none⟩),.func (.func f1) #[.pointer (some ⟨g,0,none⟩)] #[],.func (.func f2) #[.pointer (some ⟨g,0,none⟩)] #[]] w (XPost g ta tl tc M (exprC M (k + 1) lv p z0) w):=by
 obtain ⟨hJ0,hn2⟩:=JI.start hlv hn h.at' hop
 obtain ⟨F,hF⟩:∃ F,F=exprC M (k + 1) lv p z0:=⟨_,rfl⟩
 rw [← hF] at hJ0 ⊢
 have HB0:Hid (Below w.heap.size w (w.alloc (.cells #[.slice none 0 0,.int .i64 0] 136))):=Lib.hid ((Below.refl _ _).alloc (Nat.le_refl _) _)
 have HE:=Lib.hid (hpart k (Nat.le_refl _) p _ (h.below HB0.out) (errR_below hv HB0.out) hop hn2)
 have HR0:Hid (Ho (w.alloc (.cells #[.slice none 0 0,.int .i64 0] 136)) w.heap.size #[.slice none 0 0,.int .i64 0] 136):=Lib.hid (Ho.new _ _ _ rfl)
 have HP:=Lib.hid h
 have HPART:=Lib.hid hpart
 have HNEXT:=Lib.hid hnext
 have HV:=Lib.hid hv
 have HJ0:=Lib.hid hJ0
 have HUJ:=Lib.hid (up_join hlv).1
 have HOV:=Lib.hid (fun (b pc:Nat) (q:Pl) (t:Tk) (op:Int) (L:List Cx) (B:Nat) w1 h1 h2 h3 h4 h5 h6=>over_calls g tl tc b pc ta M q t op L B w1 h1 h2 h3 h4 h5 h6)
 have HTK:=Lib.hid (fun q w1 h1=>take_calls g tl tc ta M q w1 h1 hM.len)
 have HMO:=Lib.hid (fun (q:Pl) (l:Cx) (j:Nat) (hj:JI M lv k F q l j) h0=>hj.more hM.len hlv h0)
 have HML:=Lib.hid hM.len
 have hg:=h.lt
 generalize exprC M k (lv + 2) p z0=E0 at HE HJ0
 clear h hpart hnext hv hJ0 hn2 hn hF hop
 go_enter Tryz.func144,Tryz.ntmps144
 go_wp2_with fail
 refine HE.out.mono ?_
 rintro e w1 ⟨⟨v,rfl,nv,rfl,hn⟩,k1,k2⟩
 obtain ⟨va,vc,hnv⟩:=hn.slice
 obtain ⟨kl,hkl⟩:∃ kl,kl=E0.1.ns.length:=⟨_,rfl⟩
 rw [← hkl] at hnv
 subst hnv
 obtain ⟨d,hd⟩:∃ d,d=E0.1.d:=⟨_,rfl⟩
 rw [← hd]
 have HR1:=Lib.hid (HR0.out.kp k2 (by omega))
 have HK1:=Lib.hid ((Kp.of_below HB0.out).trans k2)
 have HP1:=Lib.hid k1
 have HN1:Hid (NsAt w.heap.size w1 (.slice va kl vc) E0.1.ns):=Lib.hid (hn.base (by have:=HB0.out.size; omega))
 have hw1:=HR1.out.lt
 have HKL:=Lib.hid hkl
 have HD:=Lib.hid hd
 clear k1 k2 hn hkl hd
 go_wp2_with fail
 have hL:Below w1.heap.size w1 (w1.alloc (.cells #[.slice va kl vc,.int .i64 (d:Nat)] 136)):=(Below.refl _ _).alloc (Nat.le_refl _) _
 go_loopw [8] (fun i wr=>∃ (q:Pl) (l:Cx) (j:Nat) (va:Option Addr) (kl vc:Nat),Hid (JI M lv k F q l j) ∧ Hid (PlAt wr g ta tl tc M q) ∧ Hid (Ho wr w1.heap.size #[.slice va kl vc,.int .i64 (l.d:Nat)] 136) ∧ Hid (NsAt w.heap.size wr (.slice va kl vc) l.ns) ∧ Hid (Ho wr w.heap.size #[.slice none 0 0,.int .i64 0] 136) ∧ Hid (Kp (K1 g) w wr)) (fun _ wr=>M.length - atOf (wr.cell? ⟨g,1,none⟩))
 ·exact ⟨E0.2,E0.1,k,va,kl,vc,HJ0,Lib.hid (HP1.out.below hL),Lib.hid (by rw [← HD.out]; exact Ho.new _ _ _ rfl),Lib.hid (HN1.out.below hL),Lib.hid (HR1.out.below hL),Lib.hid (HK1.out.below hL)⟩
 ·obtain ⟨q,l,j,va2,kl2,vc2,HJ,HPq,HL,HN,HR,HK⟩:=hrel
  have hgq:=HPq.out.lt
  have hwl:w1.heap.size < wr.heap.size:=HL.out.lt
  have hww:w.heap.size < wr.heap.size:=HR.out.lt
  have HNX:=Lib.hid (HNEXT.out q wr HPq.out)
  obtain ⟨o,ho⟩:∃ o,o=firstOp M q (opsL (lv + 1)):=⟨_,rfl⟩
  rw [← ho] at HNX
  have HO:=Lib.hid ho
  have hne1:¬ w1.heap.size=g:=by omega
  have hne0:¬ w.heap.size=g:=by omega
  clear ho
  by_cases h0:o=0
  case pos =>
   have HFD:=Lib.hid (HJ.out.done HUJ.out (by rw [← HO.out]; exact h0))
   have t0:((o:Int) == 0)=true:=by rw [h0]; rfl
   clear h0 HE HJ0 HP1 HN1 HR1 HK1
   go_wp2_with fail
   refine HNX.out.mono ?_
   rintro e w2 ⟨rfl,k1⟩
   have HL2:=Lib.hid (HL.out.below k1)
   have HR2:=Lib.hid (HR.out.below k1)
   have HN2:=Lib.hid (HN.out.below k1)
   have HP2:=Lib.hid (HPq.out.below k1)
   have HK2:=Lib.hid (HK.out.below k1)
   clear k1
   obtain ⟨y0,y1,yf0,yf1⟩:=cx_cells HR2.out
   obtain ⟨c0,c1,cf0,cf1⟩:=cx_cells HL2.out
   have hl0:=HR2.out.lt
   have hl1:=HL2.out.lt
   obtain ⟨dd,hdd⟩:∃ dd,dd=l.d:=⟨_,rfl⟩
   rw [← hdd] at c1
   have HDD:=Lib.hid hdd
   clear hdd
   go_wp2_with fail
   refine bodyPost_ret (v:=.agg #[.slice va2 kl2 vc2,.int .i64 (dd:Nat)]) ?_ rfl ?_
   ·refine cs_result1 rfl _ _ _ (a:=⟨w.heap.size,0,none⟩) (by rfl) ?_
    go_simp
   rw [HFD.out]
   refine ⟨⟨_,rfl,.slice va2 kl2 vc2,by rw [HDD.out],?_⟩,?_,?_⟩
   ·exact ns_set (ns_set HN2.out HR2.out.cblk (by decide)) (Ho.set (o:=0) (v:=.slice va2 kl2 vc2) HR2.out rfl).cblk (by decide)
   ·exact (HP2.out.setT HR2.out.cblk (by decide) (by decide) (by decide)).setT (Ho.set (o:=0) (v:=.slice va2 kl2 vc2) HR2.out rfl).cblk (by decide) (by decide) (by decide)
   ·exact par_setNew (par_setNew HK2.out (Nat.le_refl _) _) (Nat.le_refl _) _
  case neg =>
   obtain ⟨i,hik,hin2,her,hqm,hJ2,hne9,hdm9,hcat9,hat9⟩:=HMO.out q l j HJ.out (by rw [← HO.out]; exact h0)
   rw [← HO.out] at hJ2 hat9
   have t0:((o:Int) == 0)=false:=by rw [beq_eq_false_iff_ne]; omega
   have htk:takeC M q=skipP q:=by
    unfold takeC peekC
    rw [if_pos her,if_neg (by have:=hM.kinds _ (List.mem_of_getElem? (tk_at hqm)); omega)]
   have hpk:peekC M q=tkAt M q.a:=by unfold peekC; rw [if_pos her]
   have HT:=Lib.hid (fun w1 h1=>HTK.out q w1 h1)
   rw [htk,hpk] at HT
   obtain ⟨x,hx⟩:∃ x,x=tkAt M q.a:=⟨_,rfl⟩
   rw [← hx] at HT hJ2 hat9
   obtain ⟨r,hr⟩:∃ r,r=exprC M i (lv + 2) (skipP q) z0:=⟨_,rfl⟩
   have HPR:=Lib.hid (fun w1 h1 h2 h3=>HPART.out i hik (skipP q) w1 h1 h2 h3 hin2)
   rw [← hr] at HPR hJ2 hne9 hdm9 hcat9 hat9
   have HSK:Hid (OpOk (skipP q)):=Lib.hid HJ.out.op.skip
   have HOVR:=Lib.hid (fun b pc w1 h1 h2=>HOV.out b pc r.2 x (o:Int) [l,r.1] w.heap.size w1 h1 h2 hne9 hdm9 hcat9 (Nat.le_refl 2))
   obtain ⟨V,hV⟩:∃ V,V=overL r.2 x (o:Int) [l,r.1]:=⟨_,rfl⟩
   have HOVR:Hid (∀ b pc w1,PlAt w1 g ta tl tc M r.2 → PsAt w.heap.size w1 b [l,r.1] → Calls Tryz.prog 199 #[.pointer (some ⟨g,0,none⟩),tkV x,.int .i64 (o:Int),.slice (some ⟨b,0,none⟩) 2 pc] w1 fun e w'=>(∃ v,e=.returned v ∧ CxAt w1.heap.size w' v V.1) ∧ PlAt w' g ta tl tc M V.2 ∧ Kp (K1 g) w1 w'):=by rw [hV]; exact HOVR
   rw [← hV] at hJ2 hat9
   have HJ2:=Lib.hid hJ2
   have HAT:=Lib.hid hat9
   have HMA:Hid (atOf (wr.cell? ⟨g,1,none⟩)=q.a):=Lib.hid (at_of HPq.out)
   have HQM:=Lib.hid hqm
   clear h0 HE HJ0 HP1 HN1 HR1 HK1 HJ hik hin2 her hqm hJ2 hne9 hdm9 hcat9 hat9 htk hpk hx hr hV HOV HPART HNEXT HMO HTK HP
   unfold tkV at HT HOVR
   go_wp2_with fail
   refine HNX.out.mono ?_
   rintro e w2 ⟨rfl,k1⟩
   have HL2:=Lib.hid (HL.out.below k1)
   have HR2:=Lib.hid (HR.out.below k1)
   have HN2:=Lib.hid (HN.out.below k1)
   have HP2:=Lib.hid (HPq.out.below k1)
   have HK2:=Lib.hid (HK.out.below k1)
   clear k1
   go_wp2_with fail
   refine (HT.out _ HP2.out).mono ?_
   rintro e w3 ⟨rfl,k1,k2⟩
   have HL3:=Lib.hid (HL2.out.kp k2 hne1)
   have HR3:=Lib.hid (HR2.out.kp k2 hne0)
   have HN3:=Lib.hid (HN2.out.kp HP2.out.cblk k2)
   have HP3:=Lib.hid k1
   have HK3:=Lib.hid (HK2.out.trans k2)
   clear k1 k2
   go_wp2_with fail
   have hA:Below w3.heap.size w3 (w3.alloc (.cells #[.int .i64 (x.k:Nat),.string ⟨x.t.toArray⟩,.int .i64 (x.line:Nat),.int .i64 (x.col:Nat)] 183)):=(Below.refl _ _).alloc (Nat.le_refl _) _
   have hX4:=Ho.new w3 #[.int .i64 (x.k:Nat),.string ⟨x.t.toArray⟩,.int .i64 (x.line:Nat),.int .i64 (x.col:Nat)] 183 rfl
   have hw43:w3.heap.size < (w3.alloc (.cells #[.int .i64 (x.k:Nat),.string ⟨x.t.toArray⟩,.int .i64 (x.line:Nat),.int .i64 (x.col:Nat)] 183)).heap.size:=by simp
   have hL4:=HL3.out.below hA
   have hR4:=HR3.out.below hA
   have hN4:=HN3.out.below hA
   have hP4:=HP3.out.below hA
   have hK4:=HK3.out.below hA
   have hgw3:=HP3.out.lt
   generalize w3.alloc (.cells #[.int .i64 (x.k:Nat),.string ⟨x.t.toArray⟩,.int .i64 (x.line:Nat),.int .i64 (x.col:Nat)] 183)=w4 at hA hX4 hL4 hR4 hN4 hP4 hK4 hw43 ⊢
   have HX4:=Lib.hid hX4
   have HL4:=Lib.hid hL4
   have HR4:=Lib.hid hR4
   have HN4:=Lib.hid hN4
   have HP4:=Lib.hid hP4
   have HK4:=Lib.hid hK4
   have hne3:¬ w3.heap.size=g:=by omega
   clear hA hX4 hL4 hR4 hN4 hP4 hK4
   have HS:Hid (∀ W,Ho W w3.heap.size #[.int .i64 (x.k:Nat),.string ⟨x.t.toArray⟩,.int .i64 (x.line:Nat),.int .i64 (x.col:Nat)] 183 → Ho W w1.heap.size #[.slice va2 kl2 vc2,.int .i64 (l.d:Nat)] 136 → (W.cell? ⟨w3.heap.size,0,none⟩=some (.int .i64 (x.k:Nat)) ∧ W.cell? ⟨w3.heap.size,1,none⟩=some (.string ⟨x.t.toArray⟩) ∧ W.cell? ⟨w3.heap.size,2,none⟩=some (.int .i64 (x.line:Nat)) ∧ W.cell? ⟨w3.heap.size,3,none⟩=some (.int .i64 (x.col:Nat))) ∧ W.cell? ⟨w1.heap.size,0,none⟩=some (.slice va2 kl2 vc2) ∧ W.cell? ⟨w1.heap.size,1,none⟩=some (.int .i64 (l.d:Nat))):=Lib.hid (fun W h1 h2=>⟨tk_box h1,(cx_cells h2).1,(cx_cells h2).2.1⟩)
   have hv5:=errR_kp HV.out hgl hg HK4.out
   have HV5:=Lib.hid hv5
   clear hv5
   refine wp_region_B (S:=(fun W=>(W.cell? ⟨w3.heap.size,0,none⟩=some (.int .i64 (x.k:Nat)) ∧ W.cell? ⟨w3.heap.size,1,none⟩=some (.string ⟨x.t.toArray⟩) ∧ W.cell? ⟨w3.heap.size,2,none⟩=some (.int .i64 (x.line:Nat)) ∧ W.cell? ⟨w3.heap.size,3,none⟩=some (.int .i64 (x.col:Nat))) ∧ W.cell? ⟨w1.heap.size,0,none⟩=some (.slice va2 kl2 vc2) ∧ W.cell? ⟨w1.heap.size,1,none⟩=some (.int .i64 (l.d:Nat)))) [8] (by kernel_rfl) (HS.out w4.drew HX4.out HL4.out) (fun hH0=>?_)
   refine wpB_take (i:=0) (v:=.pointer (some ⟨g,0,none⟩)) [8] rfl (by kernel_rfl) (by kernel_rfl) (by kernel_rfl) (by kernel_rfl) (fun _ _ _ h=>h) (Or.inl ⟨by kernel_rfl,fun wS hSw=>by (try dsimp only at hSw); go_simp⟩) hH0 ?_
   refine wpB_take (i:=1) (v:=.agg #[.int .i64 (x.k:Nat),.string ⟨x.t.toArray⟩,.int .i64 (x.line:Nat),.int .i64 (x.col:Nat)]) [8] rfl (by kernel_rfl) (by kernel_rfl) (by kernel_rfl) (by kernel_rfl) (fun _ _ _ h=>h) (Or.inl ⟨by kernel_rfl,fun wS hSw=>by (try dsimp only at hSw); go_simp⟩) hH0 ?_
   refine wpB_take (i:=2) (v:=.int .i64 (o:Nat)) [8] rfl (by kernel_rfl) (by kernel_rfl) (by kernel_rfl) (by kernel_rfl) (fun _ _ _ h=>h) (Or.inl ⟨by kernel_rfl,fun wS hSw=>by (try dsimp only at hSw); go_simp⟩) hH0 ?_
   refine wpB_take (i:=3) (v:=.agg #[.slice va2 kl2 vc2,.int .i64 (l.d:Nat)]) [8] rfl (by kernel_rfl) (by kernel_rfl) (by kernel_rfl) (by kernel_rfl) (fun _ _ _ h=>h) (Or.inl ⟨by kernel_rfl,fun wS hSw=>by (try dsimp only at hSw); go_simp⟩) hH0 ?_
   refine wpB_take (i:=4) (v:=.func (.func f1) #[.pointer (some ⟨g,0,none⟩)] #[]) [8] rfl (by kernel_rfl) (by kernel_rfl) (by kernel_rfl) (by kernel_rfl) (fun _ _ _ h=>h) (Or.inl ⟨by kernel_rfl,fun wS hSw=>by (try dsimp only at hSw); go_simp⟩) hH0 ?_
   refine wpB_step (i:=5) rfl (by kernel_rfl) (fun K hK=>?_)
   rw [if_pos (by kernel_rfl)]
   go_simp
   refine (HPR.out _ (HP4.out.below ((Below.refl _ _).drew)) (errR_below HV5.out ((Below.refl _ _).drew)) HSK.out).mono ?_
   rintro e w5 ⟨⟨v,rfl,nv,rfl,hn⟩,k1,k2⟩
   have k3:Kp (K1 g) w4 w5:=(Kp.of_below ((Below.refl _ _).drew)).trans k2
   obtain ⟨vb,vd,hnv⟩:=hn.slice
   obtain ⟨ml,hml⟩:∃ ml,ml=r.1.ns.length:=⟨_,rfl⟩
   rw [← hml] at hnv
   subst hnv
   have HX5:=Lib.hid (HX4.out.kp k3 hne3)
   have HL5:=Lib.hid (HL4.out.kp k3 hne1)
   have HR5:=Lib.hid (HR4.out.kp k3 hne0)
   have HN5:=Lib.hid (HN4.out.kp HP4.out.cblk k3)
   have HP5:=Lib.hid k1
   have HK5:=Lib.hid (HK4.out.trans k3)
   have HM5:Hid (NsAt w.heap.size w5 (.slice vb ml vd) r.1.ns):=Lib.hid (hn.base (by have:=HR4.out.lt; show w.heap.size ≤ w4.drew.heap.size; rw [show w4.drew.heap.size=w4.heap.size from rfl]; omega))
   obtain ⟨d5,hd5⟩:∃ d5,d5=r.1.d:=⟨_,rfl⟩
   rw [← hd5]
   have HD5:=Lib.hid hd5
   have hw53:w3.heap.size < w5.heap.size:=HX5.out.lt
   have hgw5:=HP5.out.lt
   clear k1 k2 k3 hn hml hd5
   refine hK.out _ _ (HS.out w5 HX5.out HL5.out) (fun hH1=>?_)
   clear hK K
   refine wpB_step (i:=6) rfl (by kernel_rfl) (fun K hK=>?_)
   rw [if_pos (by kernel_rfl)]
   go_simp
   have hA6:Below w5.heap.size w5 (w5.alloc (.cells #[.slice va2 kl2 vc2,.int .i64 (l.d:Nat),.slice vb ml vd,.int .i64 (d5:Nat)] 136)):=(Below.refl _ _).alloc (Nat.le_refl _) _
   have hps:=ps_two (c:=l) (d:=r.1) HN5.out HM5.out rfl
   rw [← HD5.out] at hps
   have HPS:=Lib.hid hps
   have HX6:=Lib.hid (HX5.out.below hA6)
   have HL6:=Lib.hid (HL5.out.below hA6)
   have HR6:=Lib.hid (HR5.out.below hA6)
   have HP6:=Lib.hid (HP5.out.below hA6)
   have HK6:=Lib.hid (HK5.out.below hA6)
   clear hA6 hps
   refine hK.out _ _ (HS.out _ HX6.out HL6.out) (fun hH2=>?_)
   clear hK K
   refine wpB_step (i:=7) rfl (by kernel_rfl) (fun K hK=>?_)
   rw [if_pos (by kernel_rfl)]
   go_simp
   refine (HOVR.out _ 2 _ HP6.out HPS.out).mono ?_
   rintro e w7 ⟨⟨v,rfl,nv,rfl,hn⟩,k1,k2⟩
   obtain ⟨vb7,vd7,hnv⟩:=hn.slice
   obtain ⟨ml7,hml⟩:∃ ml7,ml7=V.1.ns.length:=⟨_,rfl⟩
   rw [← hml] at hnv
   subst hnv
   have HX7:=Lib.hid (HX6.out.kp k2 hne3)
   have HL7:=Lib.hid (HL6.out.kp k2 hne1)
   have HR7:=Lib.hid (HR6.out.kp k2 hne0)
   have HP7:=Lib.hid k1
   have HK7:=Lib.hid (HK6.out.trans k2)
   have HM7:Hid (NsAt w.heap.size w7 (.slice vb7 ml7 vd7) V.1.ns):=Lib.hid (hn.base (by simp; have:=HR5.out.lt; omega))
   obtain ⟨d7,hd7⟩:∃ d7,d7=V.1.d:=⟨_,rfl⟩
   rw [← hd7]
   have HD7:=Lib.hid hd7
   clear k1 k2 hn hml hd7
   refine hK.out _ _ (HS.out w7 HX7.out HL7.out) (fun hH3=>?_)
   clear hK K
   obtain ⟨c0,c1,cf0,cf1⟩:=cx_cells HL7.out
   have hl7:=HL7.out.lt
   clear hH0 hH1 hH2 hH3
   refine wpB_past (i:=8) rfl (by kernel_rfl) (by kernel_rfl) (fun K hK=>?_)
   rw [if_pos (by kernel_rfl)]
   go_simp
   refine hK.out _ _ ?_
   clear hK K
   refine wpB_done (by kernel_rfl) ?_ _
   go_simp
   have HW:Hid (Ho ((w7.setCell ⟨w1.heap.size,0,none⟩ (.slice vb7 ml7 vd7)).setCell ⟨w1.heap.size,1,none⟩ (.int .i64 (d7:Nat))) w1.heap.size #[.slice vb7 ml7 vd7,.int .i64 (V.1.d:Nat)] 136):=Lib.hid (by rw [← HD7.out]; exact Ho.set (Ho.set (o:=0) (v:=.slice vb7 ml7 vd7) HL7.out rfl) rfl)
   have HPW:Hid (PlAt ((w7.setCell ⟨w1.heap.size,0,none⟩ (.slice vb7 ml7 vd7)).setCell ⟨w1.heap.size,1,none⟩ (.int .i64 (d7:Nat))) g ta tl tc M V.2):=Lib.hid ((HP7.out.setT HL7.out.cblk (by decide) (by decide) (by decide)).setT (Ho.set (o:=0) (v:=.slice vb7 ml7 vd7) HL7.out rfl).cblk (by decide) (by decide) (by decide))
   have HNW:Hid (NsAt w.heap.size ((w7.setCell ⟨w1.heap.size,0,none⟩ (.slice vb7 ml7 vd7)).setCell ⟨w1.heap.size,1,none⟩ (.int .i64 (d7:Nat))) (.slice vb7 ml7 vd7) V.1.ns):=Lib.hid (ns_set (ns_set HM7.out HL7.out.cblk (by decide)) (Ho.set (o:=0) (v:=.slice vb7 ml7 vd7) HL7.out rfl).cblk (by decide))
   have HRW:Hid (Ho ((w7.setCell ⟨w1.heap.size,0,none⟩ (.slice vb7 ml7 vd7)).setCell ⟨w1.heap.size,1,none⟩ (.int .i64 (d7:Nat))) w.heap.size #[.slice none 0 0,.int .i64 0] 136):=Lib.hid ((HR7.out.other (by omega)).other (by omega))
   have HKW:Hid (Kp (K1 g) w ((w7.setCell ⟨w1.heap.size,0,none⟩ (.slice vb7 ml7 vd7)).setCell ⟨w1.heap.size,1,none⟩ (.int .i64 (d7:Nat)))):=Lib.hid (par_setNew (par_setNew HK7.out (by omega) _) (by omega) _)
   go_wp2_with fail
   go_roundw
   case rel=>exact ⟨V.2,V.1,i,vb7,ml7,vd7,HJ2,HPW,HW,HNW,HRW,HKW⟩
   case measure =>
    rw [HMA.out,at_of HPW.out]
    have:=HAT.out
    have:=HQM.out
    omega
end Go.Proofs.YtiafhfchjhffhaaGreatDoor
