/- paclaim: QuoteBytes QuoteEsc ShelfBuild ShelfByte QuoteBld QuoteDigits QuoteSmall QuoteChar QuoteCut QuoteLaid -/
import Derived.Test.YtiafhfchjhffhaaGreatDoorBase
import Derived.Test.YtiafhfchjhffhaaGreatDoorLowMath
import Derived.WalkKit
import Derived.WalkSpells
import Derived.WalkLawsBesides
import Derived.Lib.Hide
import Derived.LoopTactic
import Derived.LaidLaws
import Derived.RegionTactic
import Derived.BigRegion
import Derived.Test.YtiafhfchjhffhaaGreatDoorShelfAll
import Derived.Shelf.Strings.BuilderK
import Derived.Test.YtiafhfchjhffhaaGreatDoorProg
import Derived.OwnWalk
import Derived.Deep.QuietTactic
import Derived.BigQuiet
import Derived.Deep.RegionWith
import Derived.Lib.LaidTab
import Derived.LaidMore
import Derived.Stop.Joined
import Derived.Stop.LaidErr
import Derived.ProofKit
namespace Go.Proofs.YtiafhfchjhffhaaGreatDoor
open Go.RowKit
theorem byte_ne {c:UInt8} {n:Nat} (hn:n < 256):c=UInt8.ofNat n ↔ c.toNat=n:=by
 constructor
 ·rintro rfl; simp; omega
 ·intro h; exact UInt8.toNat_inj.1 (by simp; omega)
theorem byte_beq (c:UInt8) (n:Nat) (hn:n < 256):((c.toNat:Int) == (n:Int))=(c == UInt8.ofNat n):=by
 rw [Bool.eq_iff_iff,beq_iff_eq,beq_iff_eq,byte_ne hn]; omega
set_option maxHeartbeats 400000 in
theorem isPlain_calls (c:UInt8) (w:World) :
  Calls Tryz.prog 217 #[.int .u8 c.toNat] w fun e w'=>e=.returned (.bool (plB c)) ∧ w=w':=by
 have e1:=byte_beq c 34 (by omega)
 have e2:=byte_beq c 92 (by omega)
 by_cases h1:32 ≤ c.toNat
 ·by_cases h2:c.toNat ≤ 126
  ·by_cases h3:c=34
   ·subst h3
    go_enter Tryz.func217,Tryz.ntmps217
    go_wp2
    go_ret
    exact ⟨rfl,rfl⟩
   by_cases h4:c=92
   ·subst h4
    go_enter Tryz.func217,Tryz.ntmps217
    go_wp2
    go_ret
    exact ⟨rfl,rfl⟩
   have hp:plB c=true:=by simp [plB,h1,h2,h3,h4]
   rw [hp]
   have t3:((c.toNat:Int) != 34)=true:=by rw [bne,show ((c.toNat:Int) == 34)=(c == 34) from e1]; simp [h3]
   have t4:((c.toNat:Int) != 92)=true:=by rw [bne,show ((c.toNat:Int) == 92)=(c == 92) from e2]; simp [h4]
   have t1:decide ((32:Int) ≤ (c.toNat:Int))=true:=by simp; omega
   have t2:decide ((c.toNat:Int) ≤ 126)=true:=by simp; omega
   clear e1 e2 h1 h2 h3 h4 hp
   go_enter Tryz.func217,Tryz.ntmps217
   go_wp2
   go_ret
   exact ⟨rfl,rfl⟩
  ·have hp:plB c=false:=by simp [plB,h2]
   rw [hp]
   have t1:decide ((32:Int) ≤ (c.toNat:Int))=true:=by simp; omega
   have t2:decide ((c.toNat:Int) ≤ 126)=false:=by simp; omega
   clear e1 e2 h1 h2 hp
   go_enter Tryz.func217,Tryz.ntmps217
   go_wp2
   go_ret
   exact ⟨rfl,rfl⟩
 ·have hp:plB c=false:=by simp [plB,h1]
  rw [hp]
  have t1:decide ((32:Int) ≤ (c.toNat:Int))=false:=by simp; omega
  clear e1 e2 h1 hp
  go_enter Tryz.func217,Tryz.ntmps217
  go_wp2
  go_ret
  exact ⟨rfl,rfl⟩
abbrev Esc (w : World) : Prop := w.var? Tryz.prog "proctor/quote.escapes" = some #[.int .u8 34, .int .u8 34, .int .u8 92, .int .u8 92, .int .u8 10, .int .u8 110, .int .u8 13, .int .u8 114, .int .u8 9, .int .u8 116]
theorem gEsc : Tryz.prog.globalNamed "proctor/quote.escapes" = some 4 := by kernel_rfl
theorem esc_cell {w:World} (h:Esc w) (i:Nat):w.cell? ⟨4,i,none⟩=#[Value.int .u8 34,.int .u8 34,.int .u8 92,.int .u8 92,.int .u8 10,.int .u8 110,.int .u8 13,.int .u8 114,.int .u8 9,.int .u8 116][i]? :=
 World.var?_cell gEsc h i
theorem esc_at0 (w:World):(Instr.index 303 (.agg #[.int .u8 34,.int .u8 34,.int .u8 92,.int .u8 92,.int .u8 10,.int .u8 110,.int .u8 13,.int .u8 114,.int .u8 9,.int .u8 116]) (.int .i64 0)).run Tryz.prog w=.ok (.agg #[.int .u8 34,.int .u8 34]) w:=by kernel_rfl
theorem esc_at1 (w:World):(Instr.index 303 (.agg #[.int .u8 34,.int .u8 34,.int .u8 92,.int .u8 92,.int .u8 10,.int .u8 110,.int .u8 13,.int .u8 114,.int .u8 9,.int .u8 116]) (.int .i64 1)).run Tryz.prog w=.ok (.agg #[.int .u8 92,.int .u8 92]) w:=by kernel_rfl
theorem esc_at2 (w:World):(Instr.index 303 (.agg #[.int .u8 34,.int .u8 34,.int .u8 92,.int .u8 92,.int .u8 10,.int .u8 110,.int .u8 13,.int .u8 114,.int .u8 9,.int .u8 116]) (.int .i64 2)).run Tryz.prog w=.ok (.agg #[.int .u8 10,.int .u8 110]) w:=by kernel_rfl
theorem esc_at3 (w:World):(Instr.index 303 (.agg #[.int .u8 34,.int .u8 34,.int .u8 92,.int .u8 92,.int .u8 10,.int .u8 110,.int .u8 13,.int .u8 114,.int .u8 9,.int .u8 116]) (.int .i64 3)).run Tryz.prog w=.ok (.agg #[.int .u8 13,.int .u8 114]) w:=by kernel_rfl
theorem esc_at4 (w:World):(Instr.index 303 (.agg #[.int .u8 34,.int .u8 34,.int .u8 92,.int .u8 92,.int .u8 10,.int .u8 110,.int .u8 13,.int .u8 114,.int .u8 9,.int .u8 116]) (.int .i64 4)).run Tryz.prog w=.ok (.agg #[.int .u8 9,.int .u8 116]) w:=by kernel_rfl
set_option maxHeartbeats 1000000 in
theorem letterOf_calls (c:UInt8) (w:World) (h:Esc w) :
  Calls Tryz.prog 218 #[.int .u8 c.toNat] w fun e w'=>e=.returned (.tuple #[.int .u8 (ltN c).toNat,.bool (ltB c)]) ∧ Below w.heap.size w w':=by
 have c0:=esc_cell h 0
 have c1:=esc_cell h 1
 have c2:=esc_cell h 2
 have c3:=esc_cell h 3
 have c4:=esc_cell h 4
 have c5:=esc_cell h 5
 have c6:=esc_cell h 6
 have c7:=esc_cell h 7
 have c8:=esc_cell h 8
 have c9:=esc_cell h 9
 simp at c0 c1 c2 c3 c4 c5 c6 c7 c8 c9
 clear h
 have i0:=esc_at0
 have i1:=esc_at1
 have i2:=esc_at2
 have i3:=esc_at3
 have i4:=esc_at4
 by_cases h0:c=34
 ·subst h0
  go_enter Tryz.func218,Tryz.ntmps218
  go_wp2
  refine wp_loop_rounds 1 ?_
  rw [rounds_succ]
  go_wp2
  go_ret2
  exact ⟨rfl,by repeat (first | exact Below.refl _ _ | refine Below.alloc ?_ (by simp; try omega) _ | refine Below.setCell ?_ (by simp; try omega) _)⟩
 by_cases h1:c=92
 ·subst h1
  clear h0
  go_enter Tryz.func218,Tryz.ntmps218
  go_wp2
  refine wp_loop_rounds 2 ?_
  rw [rounds_succ]
  go_wp2
  rw [rounds_succ]
  go_wp2
  go_ret2
  exact ⟨rfl,by repeat (first | exact Below.refl _ _ | refine Below.alloc ?_ (by simp; try omega) _ | refine Below.setCell ?_ (by simp; try omega) _)⟩
 by_cases h2:c=10
 ·subst h2
  clear h0 h1
  go_enter Tryz.func218,Tryz.ntmps218
  go_wp2
  refine wp_loop_rounds 3 ?_
  rw [rounds_succ]
  go_wp2
  rw [rounds_succ]
  go_wp2
  rw [rounds_succ]
  go_wp2
  go_ret2
  exact ⟨rfl,by repeat (first | exact Below.refl _ _ | refine Below.alloc ?_ (by simp; try omega) _ | refine Below.setCell ?_ (by simp; try omega) _)⟩
 by_cases h3:c=13
 ·subst h3
  clear h0 h1 h2
  go_enter Tryz.func218,Tryz.ntmps218
  go_wp2
  refine wp_loop_rounds 4 ?_
  rw [rounds_succ]
  go_wp2
  rw [rounds_succ]
  go_wp2
  rw [rounds_succ]
  go_wp2
  rw [rounds_succ]
  go_wp2
  go_ret2
  exact ⟨rfl,by repeat (first | exact Below.refl _ _ | refine Below.alloc ?_ (by simp; try omega) _ | refine Below.setCell ?_ (by simp; try omega) _)⟩
 by_cases h4:c=9
 ·subst h4
  clear h0 h1 h2 h3
  go_enter Tryz.func218,Tryz.ntmps218
  go_wp2
  refine wp_loop_rounds 5 ?_
  rw [rounds_succ]
  go_wp2
  rw [rounds_succ]
  go_wp2
  rw [rounds_succ]
  go_wp2
  rw [rounds_succ]
  go_wp2
  rw [rounds_succ]
  go_wp2
  go_ret2
  exact ⟨rfl,by repeat (first | exact Below.refl _ _ | refine Below.alloc ?_ (by simp; try omega) _ | refine Below.setCell ?_ (by simp; try omega) _)⟩
 have e1:ltN c=0:=by unfold ltN; simp [h0,h1,h2,h3,h4]
 have e2:ltB c=false:=by unfold ltB; simp [h0,h1,h2,h3,h4]
 rw [e1,e2]
 have t0:((34:Int) == (c.toNat:Int))=false:=by rw [beq_eq_false_iff_ne]; intro e; exact h0 (UInt8.toNat_inj.1 (by show c.toNat=34; omega))
 have t1:((92:Int) == (c.toNat:Int))=false:=by rw [beq_eq_false_iff_ne]; intro e; exact h1 (UInt8.toNat_inj.1 (by show c.toNat=92; omega))
 have t2:((10:Int) == (c.toNat:Int))=false:=by rw [beq_eq_false_iff_ne]; intro e; exact h2 (UInt8.toNat_inj.1 (by show c.toNat=10; omega))
 have t3:((13:Int) == (c.toNat:Int))=false:=by rw [beq_eq_false_iff_ne]; intro e; exact h3 (UInt8.toNat_inj.1 (by show c.toNat=13; omega))
 have t4:((9:Int) == (c.toNat:Int))=false:=by rw [beq_eq_false_iff_ne]; intro e; exact h4 (UInt8.toNat_inj.1 (by show c.toNat=9; omega))
 clear e1 e2 h0 h1 h2 h3 h4
 go_enter Tryz.func218,Tryz.ntmps218
 go_wp2
 refine wp_loop_rounds 6 ?_
 rw [rounds_succ]
 go_wp2
 rw [rounds_succ]
 go_wp2
 rw [rounds_succ]
 go_wp2
 rw [rounds_succ]
 go_wp2
 rw [rounds_succ]
 go_wp2
 rw [rounds_succ]
 go_wp2
 go_ret2
 exact ⟨rfl,by repeat (first | exact Below.refl _ _ | refine Below.alloc ?_ (by simp; try omega) _ | refine Below.setCell ?_ (by simp; try omega) _)⟩
set_option maxHeartbeats 1000000 in
theorem charOf_calls (c:UInt8) (w:World) (h:Esc w) :
  Calls Tryz.prog 280 #[.int .u8 c.toNat] w fun e w'=>e=.returned (.tuple #[.int .u8 (chN c).toNat,.bool (chB c)]) ∧ Below w.heap.size w w':=by
 have c0:=esc_cell h 0
 have c1:=esc_cell h 1
 have c2:=esc_cell h 2
 have c3:=esc_cell h 3
 have c4:=esc_cell h 4
 have c5:=esc_cell h 5
 have c6:=esc_cell h 6
 have c7:=esc_cell h 7
 have c8:=esc_cell h 8
 have c9:=esc_cell h 9
 simp at c0 c1 c2 c3 c4 c5 c6 c7 c8 c9
 clear h
 have i0:=esc_at0
 have i1:=esc_at1
 have i2:=esc_at2
 have i3:=esc_at3
 have i4:=esc_at4
 by_cases h0:c=34
 ·subst h0
  go_enter Tryz.func280,Tryz.ntmps280
  go_wp2
  refine wp_loop_rounds 1 ?_
  rw [rounds_succ]
  go_wp2
  go_ret2
  exact ⟨rfl,by repeat (first | exact Below.refl _ _ | refine Below.alloc ?_ (by simp; try omega) _ | refine Below.setCell ?_ (by simp; try omega) _)⟩
 by_cases h1:c=92
 ·subst h1
  clear h0
  go_enter Tryz.func280,Tryz.ntmps280
  go_wp2
  refine wp_loop_rounds 2 ?_
  rw [rounds_succ]
  go_wp2
  rw [rounds_succ]
  go_wp2
  go_ret2
  exact ⟨rfl,by repeat (first | exact Below.refl _ _ | refine Below.alloc ?_ (by simp; try omega) _ | refine Below.setCell ?_ (by simp; try omega) _)⟩
 by_cases h2:c=110
 ·subst h2
  clear h0 h1
  go_enter Tryz.func280,Tryz.ntmps280
  go_wp2
  refine wp_loop_rounds 3 ?_
  rw [rounds_succ]
  go_wp2
  rw [rounds_succ]
  go_wp2
  rw [rounds_succ]
  go_wp2
  go_ret2
  exact ⟨rfl,by repeat (first | exact Below.refl _ _ | refine Below.alloc ?_ (by simp; try omega) _ | refine Below.setCell ?_ (by simp; try omega) _)⟩
 by_cases h3:c=114
 ·subst h3
  clear h0 h1 h2
  go_enter Tryz.func280,Tryz.ntmps280
  go_wp2
  refine wp_loop_rounds 4 ?_
  rw [rounds_succ]
  go_wp2
  rw [rounds_succ]
  go_wp2
  rw [rounds_succ]
  go_wp2
  rw [rounds_succ]
  go_wp2
  go_ret2
  exact ⟨rfl,by repeat (first | exact Below.refl _ _ | refine Below.alloc ?_ (by simp; try omega) _ | refine Below.setCell ?_ (by simp; try omega) _)⟩
 by_cases h4:c=116
 ·subst h4
  clear h0 h1 h2 h3
  go_enter Tryz.func280,Tryz.ntmps280
  go_wp2
  refine wp_loop_rounds 5 ?_
  rw [rounds_succ]
  go_wp2
  rw [rounds_succ]
  go_wp2
  rw [rounds_succ]
  go_wp2
  rw [rounds_succ]
  go_wp2
  rw [rounds_succ]
  go_wp2
  go_ret2
  exact ⟨rfl,by repeat (first | exact Below.refl _ _ | refine Below.alloc ?_ (by simp; try omega) _ | refine Below.setCell ?_ (by simp; try omega) _)⟩
 have e1:chN c=0:=by unfold chN; simp [h0,h1,h2,h3,h4]
 have e2:chB c=false:=by unfold chB; simp [h0,h1,h2,h3,h4]
 rw [e1,e2]
 have t0:((34:Int) == (c.toNat:Int))=false:=by rw [beq_eq_false_iff_ne]; intro e; exact h0 (UInt8.toNat_inj.1 (by show c.toNat=34; omega))
 have t1:((92:Int) == (c.toNat:Int))=false:=by rw [beq_eq_false_iff_ne]; intro e; exact h1 (UInt8.toNat_inj.1 (by show c.toNat=92; omega))
 have t2:((110:Int) == (c.toNat:Int))=false:=by rw [beq_eq_false_iff_ne]; intro e; exact h2 (UInt8.toNat_inj.1 (by show c.toNat=110; omega))
 have t3:((114:Int) == (c.toNat:Int))=false:=by rw [beq_eq_false_iff_ne]; intro e; exact h3 (UInt8.toNat_inj.1 (by show c.toNat=114; omega))
 have t4:((116:Int) == (c.toNat:Int))=false:=by rw [beq_eq_false_iff_ne]; intro e; exact h4 (UInt8.toNat_inj.1 (by show c.toNat=116; omega))
 clear e1 e2 h0 h1 h2 h3 h4
 go_enter Tryz.func280,Tryz.ntmps280
 go_wp2
 refine wp_loop_rounds 6 ?_
 rw [rounds_succ]
 go_wp2
 rw [rounds_succ]
 go_wp2
 rw [rounds_succ]
 go_wp2
 rw [rounds_succ]
 go_wp2
 rw [rounds_succ]
 go_wp2
 rw [rounds_succ]
 go_wp2
 go_ret2
 exact ⟨rfl,by repeat (first | exact Below.refl _ _ | refine Below.alloc ?_ (by simp; try omega) _ | refine Below.setCell ?_ (by simp; try omega) _)⟩
theorem esc_below {w w':World} {B:Nat} (h:Esc w) (hB:4 < B) (hb:Below B w w'):Esc w':=var?_below hb gEsc hB h
theorem hex_index (k:Nat) (h:k < 16) (w:World):(Instr.index 9 (.string ⟨#[48,49,50,51,52,53,54,55,56,57,97,98,99,100,101,102]⟩) (.int .u8 (k:Int))).run Tryz.prog w=.ok (.int .u8 ((hx k).toNat:Int)) w:=by
 rcases (show k=0 ∨ k=1 ∨ k=2 ∨ k=3 ∨ k=4 ∨ k=5 ∨ k=6 ∨ k=7 ∨ k=8 ∨ k=9 ∨ k=10 ∨ k=11 ∨ k=12 ∨ k=13 ∨ k=14 ∨ k=15 by omega) with h | h | h | h | h | h | h | h | h | h | h | h | h | h | h | h <;> subst h <;> kernel_rfl
theorem bits_and:∀ c:UInt8,bits .and .u8 (c.toNat:Int) 15=(c.toNat:Int) % 16:=all8 (by decide +kernel)
end Go.Proofs.YtiafhfchjhffhaaGreatDoor
namespace Go.Proofs
open Go.Shelf
def Tryz.lays167_ren:Go.Shelf.Ren:=⟨fun | 167=>173 | 240=>100 | 276=>170 | n=>n,fun | 0=>0 | 4=>4 | 5=>5 | 9=>9 | 20=>20 | 37=>70 | 70=>69 | 72=>72 | 75=>75 | 80=>102 | 164=>214 | n=>n,fun | n=>n⟩
theorem Tryz.lays167:Go.Proofs.Lays.n167 Tryz.prog Tryz.lays167_ren:={
 mixed:=by kernel_rfl
 f167:=Tryz.func173.trans (congrArg some (by kernel_rfl))
 f240:=Tryz.func100.trans (congrArg some (by kernel_rfl))
 f276:=Tryz.func170.trans (congrArg some (by kernel_rfl))
 t0:=Tryz.underlying0
 a0:=Tryz.isAgg0
 z0:=Tryz.sizeOf0
 v0:=Tryz.zeroValue0
 t4:=Tryz.underlying4
 a4:=Tryz.isAgg4
 z4:=Tryz.sizeOf4
 v4:=Tryz.zeroValue4
 t5:=Tryz.underlying5
 a5:=Tryz.isAgg5
 z5:=Tryz.sizeOf5
 v5:=Tryz.zeroValue5
 t9:=Tryz.underlying9
 a9:=Tryz.isAgg9
 z9:=Tryz.sizeOf9
 v9:=Tryz.zeroValue9
 t20:=Tryz.underlying20
 a20:=Tryz.isAgg20
 z20:=Tryz.sizeOf20
 v20:=Tryz.zeroValue20
 t37:=Tryz.underlying70
 a37:=Tryz.isAgg70
 z37:=Tryz.sizeOf70
 v37:=Tryz.zeroValue70
 t70:=Tryz.underlying69
 a70:=Tryz.isAgg69
 z70:=Tryz.sizeOf69
 v70:=Tryz.zeroValue69
 t72:=Tryz.underlying72
 a72:=Tryz.isAgg72
 z72:=Tryz.sizeOf72
 v72:=Tryz.zeroValue72
 t75:=Tryz.underlying75
 a75:=Tryz.isAgg75
 z75:=Tryz.sizeOf75
 v75:=Tryz.zeroValue75
 t164:=Tryz.underlying214
 a164:=Tryz.isAgg214
 z164:=Tryz.sizeOf214
 v164:=Tryz.zeroValue214 }
theorem Tryz.Builder_Extra_167:Builder.Extra Tryz.prog Tryz.lays167_ren:={
 sizeBuilder:=by kernel_rfl
 liesBuilder:=by kernel_rfl
 t5:=Tryz.underlying5
 a5:=Tryz.isAgg5
 z5:=Tryz.sizeOf5
 v5:=Tryz.zeroValue5
 infoByte:=by kernel_rfl
 cellsByte:=by kernel_rfl
 sizeByte:=by kernel_rfl
 neB5:=by decide }
open Go.RowKit in
theorem Tryz.Builder_WriteByte_k (B b:Nat) (bs:List Value) (c:Int) (w:World) (h:Lib.IsBuilderF 72 5 B b bs w) (hlen:bs.length + 1 ≤ 140737488355328) (hBw:B ≤ w.heap.size) :
  Calls Tryz.prog 173 #[.pointer (some ⟨b,0,none⟩),.int .u8 c] w fun e w'=>e=.returned .nilIface ∧ (Lib.BuilderAtF 72 5 B b (.pointer (some ⟨b,0,none⟩)) (bs ++ [.int .u8 c]) w' ∧ Below B w w' ∧ Lib.OthersKept 5 (some b) w w'):=Any.Builder_WriteByte_k Tryz.lays167 Tryz.Builder_Extra_167 B b bs c w h hlen hBw
end Go.Proofs
namespace Go.Proofs.YtiafhfchjhffhaaGreatDoor
open Go.RowKit
def IsB (B b:Nat) (l:List UInt8) (w:World):Prop:=Lib.BuilderAtF 72 5 B b (.pointer (some ⟨b,0,none⟩)) (Lib.byteCells l) w
def MayB (B b:Nat) (l:List UInt8) (w:World):Prop:=Lib.IsBuilderF 72 5 B b (Lib.byteCells l) w
theorem IsB.may {B b:Nat} {l:List UInt8} {w:World} (h:IsB B b l w):MayB B b l w:=.inr h
theorem cells_snoc (l:List UInt8) (c:UInt8):Lib.byteCells l ++ [.int .u8 (c.toNat:Int)]=Lib.byteCells (l ++ [c]):=by simp [Lib.byteCells]
theorem cells_snoc2 (l:List UInt8) (c d:UInt8):Lib.byteCells l ++ [.int .u8 (c.toNat:Int),.int .u8 (d.toNat:Int)]=Lib.byteCells (l ++ [c,d]):=by simp [Lib.byteCells]
theorem at_below {B b:Nat} {p:Value} {bs:List Value} {w w':World} (h:Lib.BuilderAtF 72 5 B b p bs w) (hb:Below w.heap.size w w'):Lib.BuilderAtF 72 5 B b p bs w':=by
 obtain ⟨hB,v,hbk,⟨hl,hown⟩,hne⟩:=h
 have hlt:b < w.heap.size:=(Array.getElem?_eq_some_iff.1 hbk).1
 refine ⟨hB,v,by rw [hb.block b hlt]; exact hbk,⟨hl,?_⟩,hne⟩
 rcases hown with hn | ⟨g,cap,cur,fz,rfl,h1,hg,rest⟩
 ·exact .inl hn
 ·have hglt:g < w.heap.size:=(Array.getElem?_eq_some_iff.1 hg).1
  exact .inr ⟨g,cap,cur,fz,rfl,h1,by rw [hb.block g hglt]; exact hg,rest⟩
theorem IsB.below {B b:Nat} {l:List UInt8} {w w':World} (h:IsB B b l w) (hb:Below w.heap.size w w'):IsB B b l w':=at_below h hb
theorem MayB.below {B b:Nat} {l:List UInt8} {w w':World} (h:MayB B b l w) (hb:Below w.heap.size w w'):MayB B b l w' :=
 h.elim (fun x=>.inl (at_below x hb)) (fun x=>.inr (at_below x hb))
theorem MayB.fresh {B b:Nat} {w:World} (hB:B ≤ b) (h:w.heap[b]? = some (.cells #[.pointer none,.slice none 0 0] 72 (0,0))):MayB B b [] w :=
 .inl ⟨hB,.slice none 0 0,h,World.ownsRowF_nil _ _ _ _,by simp [Value.ownBlock]⟩
theorem writeByte_calls (B b:Nat) (l:List UInt8) (c:UInt8) (w:World) (h:MayB B b l w) (hlen:l.length + 1 ≤ 140737488355328) (hBw:B ≤ w.heap.size) :
  Calls Tryz.prog 173 #[.pointer (some ⟨b,0,none⟩),.int .u8 c.toNat] w fun e w'=>e=.returned .nilIface ∧ IsB B b (l ++ [c]) w' ∧ Below B w w':=by
 refine (Tryz.Builder_WriteByte_k B b (Lib.byteCells l) c.toNat w h (by rw [Lib.byteCells_length]; exact hlen) hBw).mono ?_
 rintro e w' ⟨rfl,h1,h2,_⟩
 rw [cells_snoc] at h1
 exact ⟨rfl,h1,h2⟩
theorem writeByteK_calls (B b:Nat) (l:List UInt8) (c:UInt8) (w:World) (h:MayB B b l w) (hlen:l.length + 1 ≤ 140737488355328) (hBw:B ≤ w.heap.size) (q:Nat) (x y:Value)
  (hq:w.heap[q]? = some (.cells #[x,y] 269 (0,0))) (hqb:q ≠ b) :
  Calls Tryz.prog 173 #[.pointer (some ⟨b,0,none⟩),.int .u8 c.toNat] w fun e w'=>e=.returned .nilIface ∧ IsB B b (l ++ [c]) w' ∧ Below B w w' ∧ w'.cell? ⟨q,0,none⟩=some x ∧ w'.cell? ⟨q,1,none⟩=some y:=by
 refine (Tryz.Builder_WriteByte_k B b (Lib.byteCells l) c.toNat w h (by rw [Lib.byteCells_length]; exact hlen) hBw).mono ?_
 rintro e w' ⟨rfl,h1,h2,h3⟩
 rw [cells_snoc] at h1
 have hk:=h3 q _ hq (fun e=>hqb (Option.some.inj e)) (fun c fz e=>by simp at e)
 exact ⟨rfl,h1,h2,by rw [Lib.cell_of_heap hk]; rfl,by rw [Lib.cell_of_heap hk]; rfl⟩
theorem string_calls (B b:Nat) (l:List UInt8) (w:World) (h:MayB B b l w) (hBw:B ≤ w.heap.size) :
  Calls Tryz.prog 44 #[.pointer (some ⟨b,0,none⟩)] w fun e w'=>e=.returned (.string ⟨l.toArray⟩) ∧ Below B w w':=by
 refine (Tryz.Builder_String_any_k B b l w h hBw).mono ?_
 rintro e w' ⟨rfl,_,h2,_⟩
 exact ⟨rfl,h2⟩
theorem infoByte:(Tryz.prog.info? 5).map (fun i=>(i.zero,i.size,i.bytes))=some (some (.int .u8 0),1,1):=by kernel_rfl
theorem neB5:72 ≠ 5:=by decide
theorem digit_pred (w:World) (q:Nat) (c:UInt8) (hq:q < w.heap.size) (hc:w.cell? ⟨q,0,none⟩=some (.int .u8 c.toNat)) :
  PredAt Tryz.prog 292 #[.pointer (some ⟨q,0,none⟩)] encR (fun r=>((r:Int) == (c.toNat:Int))) w:=fun W r hb=>by
 have hc':W.cell? ⟨q,0,none⟩=some (.int .u8 c.toNat):=(hb.cell (p:=⟨q,0,none⟩) hq).trans hc
 have hlt:c.toNat < 256:=c.toNat_lt
 clear hc
 unfold FnGives
 go_enter Tryz.func292,Tryz.ntmps292
 go_wp2
 go_ret
 exact ⟨rfl,0,rfl⟩
theorem idx_hex:∀ c:UInt8,Lib.idxFunc (fun r=>((r:Int) == (c.toNat:Int))) true ⟨#[48,49,50,51,52,53,54,55,56,57,97,98,99,100,101,102]⟩=if ux c < 16 then (ux c:Int) else -1:=all8 (by decide +kernel)
theorem place_calls (w:World) (q:Nat) (c:UInt8) (hq:q < w.heap.size) (hc:w.cell? ⟨q,0,none⟩=some (.int .u8 c.toNat)) :
  Calls Tryz.prog 291 #[.string ⟨#[48,49,50,51,52,53,54,55,56,57,97,98,99,100,101,102]⟩,.func (.func 292) #[] #[.pointer (some ⟨q,0,none⟩)]] w
   fun e w'=>e=.returned (.int .i64 (if ux c < 16 then (ux c:Int) else -1)) ∧ Below w.heap.size w w':=by
 have h:=Tryz.strings_IndexFunc 292 #[.pointer (some ⟨q,0,none⟩)] (enters_of Tryz.func292 (by kernel_rfl) rfl) _ ⟨#[48,49,50,51,52,53,54,55,56,57,97,98,99,100,101,102]⟩ w (digit_pred w q c hq hc)
 rw [idx_hex c] at h
 exact h
theorem pair_at0 (a b:Value) (w:World):(Instr.index 269 (.agg #[a,b]) (.int .i64 0)).run Tryz.prog w=.ok a w:=by kernel_rfl
theorem pair_at1 (a b:Value) (w:World):(Instr.index 269 (.agg #[a,b]) (.int .i64 1)).run Tryz.prog w=.ok b w:=by kernel_rfl
theorem below_two (w:World) (o o':Obj):Below w.heap.size w ((w.alloc o).alloc o'):=((Below.refl _ _).alloc (Nat.le_refl _) o).alloc (by simp) o'
set_option maxHeartbeats 1000000 in
theorem fromDigits_no1 (x y:UInt8) (w:World) (hx:¬ ux x < 16) :
  Calls Tryz.prog 281 #[.agg #[.int .u8 x.toNat,.int .u8 y.toNat]] w fun e w'=>e=.returned (.tuple #[.int .u8 0,.bool false]) ∧ Below w.heap.size w w':=by
 have h1:=fun w q=>place_calls w q x
 rw [if_neg hx] at h1
 have H1:=Lib.hid h1
 have i0:=pair_at0
 clear h1 hx
 go_enter Tryz.func281,Tryz.ntmps281
 go_wp2_with fail
 refine wp_loop_rounds 3 ?_
 rw [rounds_succ]
 go_wp2_with fail
 refine (H1.out _ _ (by simp) (by simp)).mono ?_
 rintro e w1 ⟨rfl,k1⟩
 have k2:=(below_two w _ _).trans (k1.mono (by simp; omega))
 clear k1
 go_wp2_with fail
 go_ret2
 exact ⟨rfl,k2⟩
set_option maxHeartbeats 1000000 in
theorem fromDigits_no2 (x y:UInt8) (w:World) (hx:ux x < 16) (hy:¬ ux y < 16) :
  Calls Tryz.prog 281 #[.agg #[.int .u8 x.toNat,.int .u8 y.toNat]] w fun e w'=>e=.returned (.tuple #[.int .u8 0,.bool false]) ∧ Below w.heap.size w w':=by
 have h1:=fun w q=>place_calls w q x
 rw [if_pos hx] at h1
 have h2:=fun w q=>place_calls w q y
 rw [if_neg hy] at h2
 have H1:=Lib.hid h1
 have H2:=Lib.hid h2
 have i0:=pair_at0
 have i1:=pair_at1
 obtain ⟨u,hu⟩:∃ u,u=ux x:=⟨_,rfl⟩
 rw [← hu] at hx H1
 clear h1 h2 hy hu
 go_enter Tryz.func281,Tryz.ntmps281
 go_wp2_with fail
 refine wp_loop_rounds 3 ?_
 rw [rounds_succ]
 go_wp2_with fail
 refine (H1.out _ _ (by simp) (by simp)).mono ?_
 rintro e w1 ⟨rfl,k1⟩
 have k2:=(below_two w _ _).trans (k1.mono (by simp; omega))
 clear k1
 go_wp2_with fail
 rw [rounds_succ]
 go_wp2_with fail
 refine (H2.out _ _ (by simp) (by simp)).mono ?_
 rintro e w2 ⟨rfl,k3⟩
 have k4:=(k2.alloc k2.size _).trans (k3.mono (by have:=k2.size; simp; omega))
 clear k2 k3
 go_wp2_with fail
 go_ret2
 exact ⟨rfl,k4⟩
theorem bits_or2 (u v:Nat) (hu:u < 16) (hv:v < 16):bits .or .u8 (bits .or .u8 0 (u:Int) * 16 % 256) (v:Int)=((16 * u + v:Nat):Int):=by
 have:∀ u v:Fin 16,bits .or .u8 (bits .or .u8 0 (u.val:Int) * 16 % 256) (v.val:Int)=((16 * u.val + v.val:Nat):Int):=by decide +kernel
 exact this ⟨u,hu⟩ ⟨v,hv⟩
def fdR (x y:UInt8):UInt8:=if fdB x y=true then fdV x y else 0
theorem fdV_num (x y:UInt8) (hx:ux x < 16) (hy:ux y < 16):(fdV x y).toNat=16 * ux x + ux y:=by
 unfold fdV
 rw [UInt8.toNat_ofNat']
 omega
set_option maxHeartbeats 1000000 in
theorem fromDigits_two (x y:UInt8) (w:World) (hx:ux x < 16) (hy:ux y < 16) (hE:Esc w) (lb pb:Bool) (hl:ltB (fdV x y)=lb) (hp:plB (fdV x y)=pb) :
  Calls Tryz.prog 281 #[.agg #[.int .u8 x.toNat,.int .u8 y.toNat]] w fun e w'=>e=.returned (.tuple #[.int .u8 (fdR x y).toNat,.bool (fdB x y)]) ∧ Below w.heap.size w w':=by
 have h1:=fun w q=>place_calls w q x
 rw [if_pos hx] at h1
 have h2:=fun w q=>place_calls w q y
 rw [if_pos hy] at h2
 have hb:=bits_or2 _ _ hx hy
 rw [← fdV_num x y hx hy] at hb
 have hfd:fdB x y=(!lb && !pb):=by unfold fdB; rw [hl,hp]; simp [hx,hy]
 have hfr:fdR x y=if (!lb && !pb)=true then fdV x y else 0:=by unfold fdR; rw [hfd]
 rw [hfr,hfd]
 have i0:=pair_at0
 have i1:=pair_at1
 obtain ⟨u,hu⟩:∃ u,u=ux x:=⟨_,rfl⟩
 rw [← hu] at hx h1 hb
 obtain ⟨v,hv⟩:∃ v,v=ux y:=⟨_,rfl⟩
 rw [← hv] at hy h2 hb
 obtain ⟨c,hc⟩:∃ c,c=fdV x y:=⟨_,rfl⟩
 rw [← hc] at hb hl hp ⊢
 have hg:=var_lt gEsc hE
 have h3:=fun w1 (hb:Below w.heap.size w w1)=>letterOf_calls c w1 (esc_below hE hg hb)
 have h4:=fun w1=>isPlain_calls c w1
 rw [hl] at h3
 rw [hp] at h4
 have H1:=Lib.hid h1
 have H2:=Lib.hid h2
 have H3:=Lib.hid h3
 have H4:=Lib.hid h4
 have HB:=Lib.hid hb
 have t0:decide ((u:Int) < 0)=false:=by simp
 have t1:decide ((v:Int) < 0)=false:=by simp
 clear h1 h2 h3 h4 hu hv hc hl hp hfd hfr hb hE hg
 go_enter Tryz.func281,Tryz.ntmps281
 go_wp2_with fail
 refine wp_loop_rounds 3 ?_
 rw [rounds_succ]
 go_wp2_with fail
 refine (H1.out _ _ (by simp) (by simp)).mono ?_
 rintro e w1 ⟨rfl,k1⟩
 have k2:=(below_two w _ _).trans (k1.mono (by simp; omega))
 clear k1
 go_wp2_with fail
 rw [rounds_succ]
 go_wp2_with fail
 refine (H2.out _ _ (by simp) (by simp)).mono ?_
 rintro e w2 ⟨rfl,k3⟩
 have k4:=(k2.alloc k2.size _).trans (k3.mono (by have:=k2.size; simp; omega))
 clear k2 k3
 go_wp2_with fail
 rw [rounds_succ]
 go_wp2_with fail
 rw [HB.out]
 refine (H3.out _ k4).mono ?_
 rintro e w3 ⟨rfl,k5⟩
 have k6:=k4.trans (k5.mono k4.size)
 clear k4 k5
 cases lb
 ·go_wp2_with fail
  refine (H4.out _).mono ?_
  rintro e w' ⟨rfl,rfl⟩
  cases pb
  ·go_wp2_with fail
   go_ret2
   exact ⟨rfl,k6⟩
  ·go_wp2_with fail
   go_ret2
   exact ⟨rfl,k6⟩
 ·go_wp2_with fail
  go_ret2
  exact ⟨rfl,k6⟩
theorem fromDigits_calls (x y:UInt8) (w:World) (hE:Esc w) :
  Calls Tryz.prog 281 #[.agg #[.int .u8 x.toNat,.int .u8 y.toNat]] w fun e w'=>e=.returned (.tuple #[.int .u8 (fdR x y).toNat,.bool (fdB x y)]) ∧ Below w.heap.size w w':=by
 by_cases hx:ux x < 16
 ·by_cases hy:ux y < 16
  ·exact fromDigits_two x y w hx hy hE _ _ rfl rfl
  ·have hf:fdB x y=false:=by unfold fdB; simp [hy]
   have hr:fdR x y=0:=by unfold fdR; rw [hf]; rfl
   rw [hf,hr]
   exact fromDigits_no2 x y w hx hy
 ·have hf:fdB x y=false:=by unfold fdB; simp [hx]
  have hr:fdR x y=0:=by unfold fdR; rw [hf]; rfl
  rw [hf,hr]
  exact fromDigits_no1 x y w hx
theorem cat_list (a b:ByteArray):(a ++ b).data.toList=a.data.toList ++ b.data.toList:=by simp
theorem ba_of {a:ByteArray} {l:List UInt8} (h:a.data.toList=l):a=⟨l.toArray⟩:=by subst h; rfl
theorem ba_size (a:ByteArray):a.size=a.data.toList.length:=by rw [Array.length_toList]; rfl
theorem body_take (l:List UInt8) (k:Nat) (h:k < l.length):body (l.take (k + 1))=body (l.take k) ++ one l[k]:=by
 rw [List.take_succ_eq_append_getElem h,body_snoc]
theorem byte_at (s:ByteArray) (k:Nat) (h:k < s.size) (a:UInt8) (e:s.data.toList[k]? = some a):s[k]=a:=by
 have h':k < s.data.toList.length:=by rw [← ba_size]; exact h
 rw [List.getElem?_eq_getElem h'] at e
 exact Option.some.inj e
set_option maxHeartbeats 1000000 in
theorem cutChar_calls (s:ByteArray) (w:World) (hs:s.size ≤ 9223372036854775807) (h0:0 < s.size) (hE:Esc w) :
  Calls Tryz.prog 270 #[.string s] w fun e w'=>e=.returned (.tuple #[.int .u8 (cc s.data.toList).1.toNat,.int .i64 (cc s.data.toList).2]) ∧ Below w.heap.size w w':=by
 obtain ⟨a,r,hl⟩:∃ a r,s.data.toList=a :: r:=by
  cases e:s.data.toList with
  | nil=>rw [ba_size,e] at h0; simp at h0
  | cons a r=>exact ⟨a,r,rfl⟩
 have hsz:s.size=r.length + 1:=by rw [ba_size,hl]; rfl
 have ha:=byte_at s 0 h0 a (by rw [hl]; rfl)
 rw [hl]
 have h1:=fun w=>isPlain_calls a w
 by_cases hp:plB a=true
 ·have hc:cc (a :: r)=(a,1):=by simp only [cc,if_pos hp]
  rw [hc]
  rw [hp] at h1
  have H1:=Lib.hid h1
  clear h1 hE hp hc hl hsz
  go_enter Tryz.func270,Tryz.ntmps270
  go_wp2_with fail
  refine (H1.out _).mono ?_
  rintro e w' ⟨rfl,rfl⟩
  go_wp2_with fail
  go_ret2
  exact ⟨rfl,Below.refl _ _⟩
 have hp':plB a=false:=by simpa using hp
 rw [hp'] at h1
 have H1:=Lib.hid h1
 by_cases h92:a=92
 case neg =>
  have hc:cc (a :: r)=(0,0):=by simp only [cc,if_neg hp,if_pos h92]
  rw [hc]
  have t1:((a.toNat:Int) != 92)=true:=by rw [bne,show ((a.toNat:Int) == 92)=(a == 92) from byte_beq a 92 (by omega)]; simpa using h92
  clear h1 hE hp hp' hc hl hsz h92
  go_enter Tryz.func270,Tryz.ntmps270
  go_wp2_with fail
  refine (H1.out _).mono ?_
  rintro e w' ⟨rfl,rfl⟩
  go_wp2_with fail
  go_ret2
  exact ⟨rfl,Below.refl _ _⟩
 case pos =>
  subst h92
  cases r with
  | nil =>
   have hc:cc [92]=(0,0):=by decide
   rw [hc]
   have t2:decide ((s.size:Int) < 2)=true:=by simp [hsz]
   clear h1 hE hp hp' hc hl hsz
   go_enter Tryz.func270,Tryz.ntmps270
   go_wp2_with fail
   refine (H1.out _).mono ?_
   rintro e w' ⟨rfl,rfl⟩
   go_wp2_with fail
   go_ret2
   exact ⟨rfl,Below.refl _ _⟩
  | cons d r' =>
   have hsz2:1 < s.size:=by rw [hsz]; simp
   have hd:=byte_at s 1 hsz2 d (by rw [hl]; rfl)
   have t2:decide ((s.size:Int) < 2)=false:=by simp; omega
   have h2:=charOf_calls d w hE
   by_cases hcb:chB d=true
   ·have hc:cc (92 :: d :: r')=(chN d,2):=by simp [cc,hp',hcb]
    rw [hc]
    rw [hcb] at h2
    have H2:=Lib.hid h2
    clear h1 h2 hE hp hp' hc hl hsz hcb
    go_enter Tryz.func270,Tryz.ntmps270
    go_wp2_with fail
    refine (H1.out _).mono ?_
    rintro e w' ⟨rfl,rfl⟩
    go_wp2_with fail
    refine H2.out.mono ?_
    rintro e w1 ⟨rfl,k1⟩
    go_wp2_with fail
    go_ret2
    exact ⟨rfl,k1⟩
   have hcb':chB d=false:=by simpa using hcb
   rw [hcb'] at h2
   have H2:=Lib.hid h2
   by_cases h120:d=120
   case neg =>
    have hc:cc (92 :: d :: r')=(0,0):=by simp [cc,hp',hcb',h120]
    rw [hc]
    have t1:((d.toNat:Int) != 120)=true:=by rw [bne,show ((d.toNat:Int) == 120)=(d == 120) from byte_beq d 120 (by omega)]; simpa using h120
    clear h1 h2 hE hp hp' hc hl hsz hcb hcb' h120
    go_enter Tryz.func270,Tryz.ntmps270
    go_wp2_with fail
    refine (H1.out _).mono ?_
    rintro e w' ⟨rfl,rfl⟩
    go_wp2_with fail
    refine H2.out.mono ?_
    rintro e w1 ⟨rfl,k1⟩
    go_wp2_with fail
    go_ret2
    exact ⟨rfl,k1⟩
   case pos =>
    subst h120
    by_cases h4:s.size < 4
    ·have hc:cc (92 :: 120 :: r')=(0,0):=by
      match r',hsz with
      | [],_=>simp [cc,hp',hcb']
      | [x],_=>simp [cc,hp',hcb']
      | x :: y :: z,hsz=>simp at hsz; omega
     rw [hc]
     have t3:decide ((s.size:Int) < 4)=true:=by simp; omega
     clear h1 h2 hE hp hp' hc hl hsz hcb hcb' h4
     go_enter Tryz.func270,Tryz.ntmps270
     go_wp2_with fail
     refine (H1.out _).mono ?_
     rintro e w' ⟨rfl,rfl⟩
     go_wp2_with fail
     refine H2.out.mono ?_
     rintro e w1 ⟨rfl,k1⟩
     go_wp2_with fail
     go_ret2
     exact ⟨rfl,k1⟩
    ·obtain ⟨x,y,z,rfl⟩:∃ x y z,r'=x :: y :: z:=by
      match r',hsz with
      | [],hsz=>simp at hsz; omega
      | [x],hsz=>simp at hsz; omega
      | x :: y :: z,_=>exact ⟨x,y,z,rfl⟩
     have hs2:2 < s.size:=by omega
     have hs3:3 < s.size:=by omega
     have hx:=byte_at s 2 hs2 x (by rw [hl]; rfl)
     have hy:=byte_at s 3 hs3 y (by rw [hl]; rfl)
     have t3:decide ((s.size:Int) < 4)=false:=by simp; omega
     have hg:=var_lt gEsc hE
     have h3:=fun w1 (k:Below w.heap.size w w1)=>fromDigits_calls x y w1 (esc_below hE hg k)
     have hc:cc (92 :: 120 :: x :: y :: z)=(fdR x y,if fdB x y=true then 4 else 0):=by
      unfold fdR
      by_cases hf:fdB x y=true
      ·simp [cc,hp',hcb',hf]
      ·simp [cc,hp',hcb',hf]
     rw [hc]
     cases hf:fdB x y
     ·rw [hf] at h3
      have hr:fdR x y=0:=by unfold fdR; rw [hf]; rfl
      rw [hr]
      have H3:=Lib.hid h3
      clear h1 h2 h3 hE hp hp' hc hl hsz hcb hcb' hf hr hg
      go_enter Tryz.func270,Tryz.ntmps270
      go_wp2_with fail
      refine (H1.out _).mono ?_
      rintro e w' ⟨rfl,rfl⟩
      go_wp2_with fail
      refine H2.out.mono ?_
      rintro e w1 ⟨rfl,k1⟩
      go_wp2_with fail
      go_region_with (go_at_call 281; refine (H3.out _ k1.drew).mono ?_; rintro e w2 ⟨rfl,k2⟩)
      all_goals
       go_wp2_with fail
       go_ret2
       exact ⟨rfl,k1.drew.trans (k2.mono k1.drew.size)⟩
     ·rw [hf] at h3
      have H3:=Lib.hid h3
      clear h1 h2 h3 hE hp hp' hc hl hsz hcb hcb' hf hg
      go_enter Tryz.func270,Tryz.ntmps270
      go_wp2_with fail
      refine (H1.out _).mono ?_
      rintro e w' ⟨rfl,rfl⟩
      go_wp2_with fail
      refine H2.out.mono ?_
      rintro e w1 ⟨rfl,k1⟩
      go_wp2_with fail
      go_region_with (go_at_call 281; refine (H3.out _ k1.drew).mono ?_; rintro e w2 ⟨rfl,k2⟩)
      all_goals
       go_wp2_with fail
       go_ret2
       exact ⟨rfl,k1.drew.trans (k2.mono k1.drew.size)⟩
def CutTold (l t:List UInt8) (n:Nat) (ok:Bool):Prop :=
 (ok=true ∧ n=(quoteL t).length ∧ ∃ y,l=quoteL t ++ y) ∨ (ok=false ∧ t=[] ∧ n=0 ∧ ∀ u y,l ≠ quoteL u ++ y)
def CutPost (l:List UInt8) (B:Nat) (w:World) (e:Ending) (w':World):Prop :=
 ∃ t n ok,CutTold l t n ok ∧ e=.returned (.tuple #[.string ⟨t.toArray⟩,.int .i64 (n:Int),.bool ok]) ∧ Below B w w'
theorem quote_split {t y l:List UInt8}:(l=quoteL t ++ y) ↔ l=34 :: (body t ++ 34 :: y):=by
 unfold quoteL
 simp
theorem body_same:∀ (t t' y y':List UInt8),body t ++ 34 :: y=body t' ++ 34 :: y' → t=t'
 | [],[],_,_,_=>rfl
 | [],c :: t',y,y',h=>(one_not34 (c:=c) (x:=body t' ++ 34 :: y') (y:=y) (by rw [body_cons,List.append_assoc] at h; exact (by simpa [body] using h.symm))).elim
 | c :: t,[],y,y',h=>(one_not34 (c:=c) (x:=body t ++ 34 :: y) (y:=y') (by rw [body_cons,List.append_assoc] at h; exact (by simpa [body] using h))).elim
 | c :: t,c' :: t',y,y',h=>by
  rw [body_cons,body_cons,List.append_assoc,List.append_assoc] at h
  obtain ⟨rfl,h2⟩:=one_inj h
  rw [body_same t t' y y' h2]
theorem CutTold.same {l t t':List UInt8} {n n':Nat} {ok ok':Bool} (h:CutTold l t n ok) (k:CutTold l t' n' ok'):t=t' ∧ n=n' ∧ ok=ok':=by
 rcases h with ⟨rfl,rfl,y,hy⟩ | ⟨rfl,rfl,rfl,hn⟩
 ·rcases k with ⟨rfl,rfl,y',hy'⟩ | ⟨rfl,rfl,rfl,hn'⟩
  ·have e:t=t':=by
    rw [quote_split.1 hy] at hy'
    have:=quote_split.1 hy'
    exact body_same t t' y y' (List.cons.inj this).2
   subst e
   exact ⟨rfl,rfl,rfl⟩
  ·exact absurd hy (hn' _ _)
 ·rcases k with ⟨rfl,rfl,y',hy'⟩ | ⟨rfl,rfl,rfl,_⟩
  ·exact absurd hy' (hn _ _)
  ·exact ⟨rfl,rfl,rfl⟩
theorem told_yes {l t y:List UInt8} (h:l=34 :: (body t ++ 34 :: y)):CutTold l t ((body t).length + 2) true :=
 .inl ⟨rfl,(quote_len t).symm,y,quote_split.2 h⟩
theorem told_no {l t rest:List UInt8} (h:l=34 :: (body t ++ rest)) (h1:∀ z,rest ≠ 34 :: z) (h2:∀ c x,rest ≠ one c ++ x):CutTold l [] 0 false:=by
 refine .inr ⟨rfl,rfl,rfl,fun u y hu=>?_⟩
 rw [h] at hu
 have:=(List.cons.inj (quote_split.1 hu)).2
 exact stuck t u rest y this h1 h2
theorem told_none {l:List UInt8} (h:l.head? ≠ some 34):CutTold l [] 0 false :=
 .inr ⟨rfl,rfl,rfl,fun u y hu=>h (by rw [hu]; rfl)⟩
theorem prefix34 (l:List UInt8):Lib.hasPrefix l [34]=(l.head? == some 34):=by
 unfold Lib.hasPrefix
 cases l with
 | nil=>rfl
 | cons c r =>
  by_cases h:c=34
  ·subst h; simp
  ·have h2:([34]:List UInt8).isPrefixOf (c :: r)=false:=by
    simp only [List.isPrefixOf,Bool.and_true,beq_eq_false_iff_ne,ne_eq]
    exact fun e=>h e.symm
   rw [h2]
   simpa using h
theorem hasPrefix_calls (s:ByteArray) (w:World) :
  Calls Tryz.prog 247 #[.string s,.string ⟨#[34]⟩] w fun e w'=>e=.returned (.bool (s.data.toList.head? == some 34)) ∧ w=w':=by
 refine (Tryz.strings_HasPrefix s ⟨#[34]⟩ w).mono ?_
 rintro e w' ⟨rfl,rfl⟩
 refine ⟨?_,rfl⟩
 rw [show (⟨#[34]⟩:ByteArray).data.toList=[34] from rfl,prefix34]
theorem extract_list (s:ByteArray) (k:Nat):(s.extract k s.size).data.toList=s.data.toList.drop k:=by
 rw [ByteArray.data_extract]
 simp
 exact List.take_of_length_le (by simp)
theorem cutChar_yes (d:ByteArray) (c:UInt8) (x:List UInt8) (w:World) (hs:d.size ≤ 9223372036854775807) (hE:Esc w) (h:d.data.toList=one c ++ x) :
  Calls Tryz.prog 270 #[.string d] w fun e w'=>e=.returned (.tuple #[.int .u8 c.toNat,.int .i64 (one c).length]) ∧ Below w.heap.size w w':=by
 have h0:0 < d.size:=by
  rw [ba_size,h,List.length_append]
  have:=(one_len c).1
  omega
 have:=cutChar_calls d w hs h0 hE
 rw [h,cc_one] at this
 exact this
theorem cutChar_no (d:ByteArray) (w:World) (hs:d.size ≤ 9223372036854775807) (hE:Esc w) (h0:0 < d.size) (h:∀ c x,d.data.toList ≠ one c ++ x) :
  Calls Tryz.prog 270 #[.string d] w fun e w'=>e=.returned (.tuple #[.int .u8 0,.int .i64 0]) ∧ Below w.heap.size w w':=by
 have:=cutChar_calls d w hs h0 hE
 rw [cc_no _ h] at this
 exact this
set_option maxHeartbeats 1000000 in
theorem cut_calls (s:ByteArray) (w:World) (hs:s.size ≤ 4294967296) (hE:Esc w) :
  Calls Tryz.prog 252 #[.string s] w (CutPost s.data.toList w.heap.size w):=by
 obtain ⟨l,hl⟩:∃ l,l=s.data.toList:=⟨_,rfl⟩
 have hlen:s.size=l.length:=by rw [hl,ba_size]
 have h1:=hasPrefix_calls s w
 rw [← hl] at h1 ⊢
 have HL:=Lib.hid hl
 have HN:=Lib.hid hlen
 clear hl hlen
 by_cases hh:l.head? = some 34
 case neg =>
  rw [show (l.head? == some 34)=false by simpa using hh] at h1
  have HT:=Lib.hid (told_none hh)
  have H1:=Lib.hid h1
  clear h1 hh hE
  go_enter Tryz.func252,Tryz.ntmps252
  go_wp2_with fail
  refine H1.out.mono ?_
  rintro e w' ⟨rfl,rfl⟩
  go_wp2_with fail
  go_ret3
  exact ⟨[],0,false,HT.out,rfl,Below.refl _ _⟩
 case pos =>
  rw [show (l.head? == some 34)=true by simpa using hh] at h1
  obtain ⟨rest0,hr0⟩:∃ r,l=34 :: r:=by
   cases l with
   | nil=>simp at hh
   | cons c r=>simp at hh; subst hh; exact ⟨r,rfl⟩
  have HR:=Lib.hid hr0
  have H1:=Lib.hid h1
  have hg:=var_lt gEsc hE
  have h1s:1 ≤ s.size:=by rw [HN.out,hr0]; simp
  obtain ⟨B,hB⟩:∃ B,B=w.heap.size:=⟨_,rfl⟩
  have ha:Below B w (w.alloc (.cells #[.pointer none,.slice none 0 0] 72)):=by rw [hB]; exact (Below.refl _ w).alloc (Nat.le_refl _) _
  have hq:(w.alloc (.cells #[.pointer none,.slice none 0 0] 72)).heap[B]? = some (.cells #[.pointer none,.slice none 0 0] 72 (0,0)):=by
   rw [hB]; show (w.heap.push _)[w.heap.size]? = _
   simp
  have hm:=MayB.fresh (Nat.le_refl B) hq
  have hBw:B ≤ w.heap.size:=by omega
  have H2:=Lib.hid (fun (m:List UInt8) (d:UInt8) w1 (k:MayB B B m w1) (j:m.length ≤ 281474976710) (k2:Below B w w1)=>writeByte_calls B B m d w1 k (by omega) (Nat.le_trans hBw k2.size))
  have H4:=Lib.hid (fun (m:List UInt8) w1 (k:MayB B B m w1) (k2:Below B w w1)=>string_calls B B m w1 k (Nat.le_trans hBw k2.size))
  have HE:=Lib.hid (fun w1 (k2:Below B w w1)=>esc_below hE (show 4 < B by omega) k2)
  have HB:=Lib.hid hB
  have HA:=Lib.hid ha
  have HM:=Lib.hid hm
  clear h1 hh hr0 hq hE hg hBw hm ha
  rw [← hB]
  go_enter Tryz.func252,Tryz.ntmps252
  go_wp2_with fail
  refine H1.out.mono ?_
  rintro e w' ⟨rfl,rfl⟩
  go_wp2_with fail
  rw [← hB]
  clear hB
  go_loopw [6] (fun i wr=>∃ (k:Nat) (t rest:List UInt8),k ≤ s.size ∧ i=.int .i64 k ∧ Hid (l=34 :: (body t ++ rest)) ∧ Hid (k=1 + (body t).length) ∧ MayB B B t wr ∧ Below B w wr) (fun i _=>s.size - (intOf i).toNat)
  case atStart=>exact ⟨1,[],rest0,h1s,rfl,Lib.hid (by rw [HR.out]; rfl),Lib.hid rfl,HM.out,HA.out⟩
  case round =>
   clear HM HA
   obtain ⟨k,t,rest,hk,rfl,HT,HK,k1,k2⟩:=hrel
   have htl:t.length ≤ 4294967296:=by
    have h1:=(body_len t).1
    have h2:=HK.out
    omega
   have hdrop:s.data.toList.drop k=rest:=by
    rw [← HL.out,HT.out,HK.out,Nat.add_comm]
    simp
   by_cases hlt:k < s.size
   case neg =>
    have hr:rest=[]:=by
     rw [← hdrop,List.drop_eq_nil_iff,← ba_size]; omega
    have HX:=Lib.hid (told_no HT.out (by rw [hr]; simp) (by rw [hr]; intro c x e; have:=(one_len c).1; have h3:=congrArg List.length e; simp at h3; omega))
    clear hdrop hr
    go_wp2_with fail
    go_ret3
    exact ⟨[],0,false,HX.out,rfl,k2⟩
   case pos =>
    have hrl:rest=s[k] :: s.data.toList.drop (k + 1):=by
     rw [← hdrop,List.drop_eq_getElem_cons (by rw [← ba_size]; exact hlt)]; rfl
    by_cases h34:s[k]=34
    ·have HX:=Lib.hid (told_yes (l:=l) (t:=t) (y:=s.data.toList.drop (k + 1)) (by rw [HT.out,hrl,h34]))
     have t1:((s[k].toNat:Int) == 34)=true:=by rw [h34]; rfl
     have HKn:Hid (((body t).length + 2:Nat)=k + 1):=Lib.hid (by rw [HK.out]; omega)
     clear hdrop hrl h34
     go_wp2_with fail
     refine (H4.out _ _ k1 k2).mono ?_
     rintro e w1 ⟨rfl,k3⟩
     have k4:=k2.trans k3
     clear k1 k2 k3
     go_wp2_with fail
     go_ret3
     have h5:=HX.out
     rw [HKn.out] at h5
     exact ⟨t,k + 1,true,h5,by go_num,k4⟩
    ·have t1:((s[k].toNat:Int) == 34)=false:=by rw [show ((s[k].toNat:Int) == 34)=(s[k] == 34) from byte_beq s[k] 34 (by omega)]; simpa using h34
     have hex:(s.extract k s.size).data.toList=rest:=by rw [extract_list,hdrop]
     have hexs:(s.extract k s.size).size ≤ 9223372036854775807:=by
      rw [ba_size,hex,← hdrop,List.length_drop,← ba_size]; omega
     by_cases hc:∃ c x,rest=one c ++ x
     ·obtain ⟨c,x,hcx⟩:=hc
      have H5:=Lib.hid (fun w1 (k2:Below B w w1)=>cutChar_yes (s.extract k s.size) c x w1 hexs (HE.out w1 k2) (hex.trans hcx))
      obtain ⟨n,hn⟩:∃ n,n=(one c).length:=⟨_,rfl⟩
      rw [← hn] at H5
      have hn1:1 ≤ n ∧ n ≤ 4:=by rw [hn]; exact one_len c
      obtain ⟨hn1,hn4⟩:=hn1
      have HNN:=Lib.hid hn
      have HT2:Hid (l=34 :: (body (t ++ [c]) ++ x)):=Lib.hid (by rw [HT.out,hcx,body_snoc,List.append_assoc])
      have hkn:k + n ≤ s.size:=by
       rw [HN.out,HT2.out,HK.out,hn,body_snoc]
       simp only [List.length_cons,List.length_append]
       omega
      have t2:((n:Int) == 0)=false:=by rw [beq_eq_false_iff_ne]; omega
      have HK2:Hid (k + n=1 + (body (t ++ [c])).length):=Lib.hid (by rw [HK.out,hn,body_snoc,List.length_append]; omega)
      clear hdrop hrl h34 hex hexs hcx hn
      go_wp2_with fail
      refine (H5.out _ k2).mono ?_
      rintro e w1 ⟨rfl,k3⟩
      have k4:Below B w w1:=k2.trans (k3.mono (by have:=HB.out; have:=k2.size; omega))
      have k5:=k1.below k3
      clear k1 k2 k3
      go_wp2_with fail
      refine (H2.out _ _ _ k5 (by omega) k4).mono ?_
      rintro e w2 ⟨rfl,k6,k7⟩
      have k8:=k4.trans k7
      clear k4 k5 k7
      go_wp2_with fail
      go_roundw
      case rel=>exact ⟨k + n,t ++ [c],x,hkn,by go_num,HT2,HK2,k6.may,k8⟩
      case measure=>simp [intOf]; omega
     ·have hno:∀ c x,rest ≠ one c ++ x:=fun c x e=>hc ⟨c,x,e⟩
      have HX:=Lib.hid (told_no HT.out (by rw [hrl]; intro z e; exact h34 (List.cons.inj e).1) hno)
      have h0:0 < (s.extract k s.size).size:=by rw [ba_size,hex,hrl]; simp
      have H5:=Lib.hid (fun w1 (k2:Below B w w1)=>cutChar_no (s.extract k s.size) w1 hexs (HE.out w1 k2) h0 (by rw [hex]; exact hno))
      clear hdrop hrl h34 hex hexs hc hno h0
      go_wp2_with fail
      refine (H5.out _ k2).mono ?_
      rintro e w1 ⟨rfl,k3⟩
      have k4:Below B w w1:=k2.trans (k3.mono (by have:=HB.out; have:=k2.size; omega))
      clear k1 k2 k3
      go_wp2_with fail
      go_ret3
      exact ⟨[],0,false,HX.out,rfl,k4⟩
theorem two_of {α:Type}:∀ {l:List α},l.length=2 → ∃ a b,l=[a,b]
 | [a,b],_=>⟨a,b,rfl⟩
theorem cells8:Tryz.prog.cellsOf 5=1:=by kernel_rfl
theorem cells58:Tryz.prog.cellsOf 302=2:=by kernel_rfl
theorem cells59:Tryz.prog.cellsOf 303=10:=by kernel_rfl
theorem gEscType:(Tryz.prog.globals[4]?).map (·.type)=some 303:=by kernel_rfl
theorem pair_cells {H:Type} {enc:TypeId × Value → H} {w:World} {base:Nat} {sp:Nat → Bool} {held:Bool} {fuel:Nat} {cs:List Value} {a b:Int} {p:List MemPlace}
  (h:DataW.trod enc Tryz.prog w base sp held fuel 302 cs=some (.agg [.lit (.int .u8 a),.lit (.int .u8 b)],p)):cs=[.int .u8 a,.int .u8 b]:=by
 cases fuel with
 | zero=>simp [DataW.trod] at h
 | succ fuel =>
  simp only [DataW.trod,Tryz.underlying302,cells58] at h
  split at h
  ·rename_i hl
   obtain ⟨xs,hm,hx⟩:=Option.map_eq_some_iff.1 h
   simp only [List.mapM_cons,List.mapM_nil,Option.bind_eq_bind,Option.bind_eq_some_iff,Option.pure_def,Option.some.injEq,cells8] at hm
   obtain ⟨x0,h0,r,⟨x1,h1,r',hr',rfl⟩,rfl⟩:=hm
   subst hr'
   obtain ⟨z0,hc0,rfl,_⟩:=DataW.trod_int Tryz.underlying5 h0
   obtain ⟨z1,hc1,rfl,_⟩:=DataW.trod_int Tryz.underlying5 h1
   simp at hx
   obtain ⟨⟨rfl,rfl⟩,_⟩:=hx
   obtain ⟨u,v,rfl⟩:=two_of hl
   simp at hc0 hc1
   rw [hc0,hc1]
  ·cases h
theorem esc_of_head {W : World} {rest : List (String × DataW Unit)} (h : laidMet Tryz.prog (("proctor/quote.escapes", Rows.laid_proctor_quote_escapes) :: rest) W) : Esc W := by
 obtain ⟨ps,⟨g',t',cs,fuel,p,q,hg',ht',hvar,hd,_,_⟩,_⟩:=h
 obtain rfl:=Option.some.inj (gEsc.symm.trans hg')
 obtain rfl:=Option.some.inj (gEscType.symm.trans ht')
 unfold Esc
 rw [hvar]
 cases fuel with
 | zero=>simp [DataW.trod] at hd
 | succ fuel =>
  simp only [DataW.trod,Tryz.underlying303,cells59,cells58] at hd
  split at hd
  ·rename_i hl
   obtain ⟨xs,hm,hx⟩:=Option.map_eq_some_iff.1 hd
   have hxs:xs.map (·.1)=[.agg [.lit (.int .u8 34),.lit (.int .u8 34)],.agg [.lit (.int .u8 92),.lit (.int .u8 92)],.agg [.lit (.int .u8 10),.lit (.int .u8 110)],.agg [.lit (.int .u8 13),.lit (.int .u8 114)],.agg [.lit (.int .u8 9),.lit (.int .u8 116)]]:=by
    have:=congrArg Prod.fst hx
    simpa [Rows.laid_proctor_quote_escapes] using this
   have key:∀ (i:Nat) (a b:Int),i < 5 → (xs.map (·.1))[i]? = some (.agg [.lit (.int .u8 a),.lit (.int .u8 b)]) → (cs.toList.drop (i * 2)).take 2=[.int .u8 a,.int .u8 b]:=by
    intro i a b hi hz
    obtain ⟨x,hb,hf⟩:=Lib.mapM_at hm i i (by simp [hi])
    simp [hb] at hz
    exact pair_cells (by rw [hf,← hz])
   have e0:=key 0 34 34 (by omega) (by rw [hxs]; rfl)
   have e1:=key 1 92 92 (by omega) (by rw [hxs]; rfl)
   have e2:=key 2 10 110 (by omega) (by rw [hxs]; rfl)
   have e3:=key 3 13 114 (by omega) (by rw [hxs]; rfl)
   have e4:=key 4 9 116 (by omega) (by rw [hxs]; rfl)
   have hlist:cs.toList=[.int .u8 34,.int .u8 34,.int .u8 92,.int .u8 92,.int .u8 10,.int .u8 110,.int .u8 13,.int .u8 114,.int .u8 9,.int .u8 116]:=by
    generalize cs.toList=l at *
    match l,hl with
    | [a,b,c,d,e,f,g,h,i,j],_ =>
     simp at e0 e1 e2 e3 e4
     obtain ⟨rfl,rfl⟩:=e0
     obtain ⟨rfl,rfl⟩:=e1
     obtain ⟨rfl,rfl⟩:=e2
     obtain ⟨rfl,rfl⟩:=e3
     obtain ⟨rfl,rfl⟩:=e4
     rfl
   rw [← Array.toArray_toList (xs:=cs),hlist]
  ·cases hd
end Go.Proofs.YtiafhfchjhffhaaGreatDoor
