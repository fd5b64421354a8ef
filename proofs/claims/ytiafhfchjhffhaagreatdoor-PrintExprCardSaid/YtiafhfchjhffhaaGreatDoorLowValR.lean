/- paclaim: ValMath ValMake ValRightV -/
import Derived.Test.YtiafhfchjhffhaaGreatDoorLowVal
import Derived.Laws.StructEq
import Derived.Test.YtiafhfchjhffhaaGreatDoorBase
import Derived.Laws.ResultCell
import Derived.Deep.RegionHeld3
namespace Go.Proofs.YtiafhfchjhffhaaGreatDoor
open Go.RowKit
set_option linter.unusedVariables false
theorem guardV:Tryz.prog.eqGuardType Tryz.prog.depth 56=false:=by kernel_rfl
set_option maxRecDepth 100000 in
theorem eqIn (k i:Int) (s:ByteArray) (b:Bool) (k' i':Int) (s':ByteArray) (b':Bool) (w:World) :
  (Op.equalIn 10000 56 (.agg #[.int .i64 k,.int .i64 i,.string s,.bool b]) (.agg #[.int .i64 k',.int .i64 i',.string s',.bool b'])).run Tryz.prog w=.ok (eqB k i s b k' i' s' b') w:=by
 rw [run_equalIn_agg w 9999 _ _ _ (by simp only [Program.fieldsOf,Tryz.underlying56]) (by kernel_rfl)]
 simp only [Program.fieldsOf,Tryz.underlying56]
 go_simp
 repeat' split
 all_goals simp_all [eqB]
theorem results_cell {fn:Func} {p:Tmp} {ty:TypeId} (h:fn.results=#[.cell p ty]) (tmps:Array Value) (P:Program) (w:World) :
  (results fn tmps).run P w=((asAddr (tmps.getD p undef)).run P w).andThen fun a w₁=>(loadVar ty a).run P w₁:=by
 simp only [results,h]
 simp [Sem.run_bind,Result.andThen]
set_option maxHeartbeats 400000 in
theorem vInt_calls (n:Int) (w:World) :
  Calls Tryz.prog 156 #[.int .i64 n] w fun e w'=>e=.returned (.agg #[.int .i64 1,.int .i64 n,.string ⟨#[]⟩,.bool false]) ∧ Below w.heap.size w w':=by
 go_enter Tryz.func156,Tryz.ntmps156
 go_wp2
 refine bodyPost_ret (v:=.agg #[.int .i64 1,.int .i64 n,.string ⟨#[]⟩,.bool false]) ?_ rfl ⟨rfl,?_⟩
 ·rw [results_cell rfl]
  go_simp
 ·repeat' (first | exact Below.refl _ _ | refine Below.alloc ?_ (by simp <;> omega) _)
set_option maxHeartbeats 400000 in
theorem vStr_calls (s:ByteArray) (w:World) :
  Calls Tryz.prog 157 #[.string s] w fun e w'=>e=.returned (.agg #[.int .i64 2,.int .i64 0,.string s,.bool false]) ∧ Below w.heap.size w w':=by
 go_enter Tryz.func157,Tryz.ntmps157
 go_wp2
 refine bodyPost_ret (v:=.agg #[.int .i64 2,.int .i64 0,.string s,.bool false]) ?_ rfl ⟨rfl,?_⟩
 ·rw [results_cell rfl]
  go_simp
 ·repeat' (first | exact Below.refl _ _ | refine Below.alloc ?_ (by simp <;> omega) _)
set_option maxHeartbeats 400000 in
theorem vBool_calls (b:Bool) (w:World) :
  Calls Tryz.prog 158 #[.bool b] w fun e w'=>e=.returned (.agg #[.int .i64 3,.int .i64 0,.string ⟨#[]⟩,.bool b]) ∧ Below w.heap.size w w':=by
 go_enter Tryz.func158,Tryz.ntmps158
 go_wp2
 refine bodyPost_ret (v:=.agg #[.int .i64 3,.int .i64 0,.string ⟨#[]⟩,.bool b]) ?_ rfl ⟨rfl,?_⟩
 ·rw [results_cell rfl]
  go_simp
 ·repeat' (first | exact Below.refl _ _ | refine Below.alloc ?_ (by simp <;> omega) _)
set_option maxHeartbeats 400000 in
theorem vRight1 (i:Int) (s:ByteArray) (b:Bool) (w:World) (hs:s.size ≤ 9223372036854775807) :
  Calls Tryz.prog 93 #[.agg #[.int .i64 1,.int .i64 i,.string s,.bool b]] w fun e w'=>e=.returned (.bool (rightB 1 i s b)) ∧ Below w.heap.size w w':=by
 have HB:=Lib.hid (Boxed.new 1 i s b w 56)
 have HA:=Lib.hid ((Below.refl w.heap.size w).alloc (Nat.le_refl _) (.cells #[.int .i64 1,.int .i64 i,.string s,.bool b] 56))
 have HC:=Lib.hid (fun w1=>vInt_calls i w1)
 have q1:=fun w=>eqIn 1 i s b 1 i ⟨#[]⟩ false w
 rw [right1] at q1
 have q2:=guardV
 go_enter Tryz.func93,Tryz.ntmps93
 go_wp2_with fail
 go_region_held3 (fun w1=>w1.cell? ⟨w.heap.size,0,none⟩=some (.int .i64 1) ∧ w1.cell? ⟨w.heap.size,1,none⟩=some (.int .i64 i) ∧ w1.cell? ⟨w.heap.size,2,none⟩=some (.string s) ∧ w1.cell? ⟨w.heap.size,3,none⟩=some (.bool b)) (first | exact HB.out | exact HB2.out) (first
  | (go_at_call 156; refine (HC.out _).mono ?_; rintro e w4 ⟨rfl,k6⟩; have HB2:=Lib.hid (HB.out.drew.below k6 (by simp)); have k7:=HA.out.drew.trans (k6.mono (by simp))))
 go_wp2_with fail
 go_ret
 exact ⟨rfl,k7⟩
set_option maxHeartbeats 400000 in
theorem vRight3 (i:Int) (s:ByteArray) (b:Bool) (w:World) (hs:s.size ≤ 9223372036854775807) :
  Calls Tryz.prog 93 #[.agg #[.int .i64 3,.int .i64 i,.string s,.bool b]] w fun e w'=>e=.returned (.bool (rightB 3 i s b)) ∧ Below w.heap.size w w':=by
 have HB:=Lib.hid (Boxed.new 3 i s b w 56)
 have HA:=Lib.hid ((Below.refl w.heap.size w).alloc (Nat.le_refl _) (.cells #[.int .i64 3,.int .i64 i,.string s,.bool b] 56))
 have HC:=Lib.hid (fun w1=>vBool_calls b w1)
 have q1:=fun w=>eqIn 3 i s b 3 0 ⟨#[]⟩ b w
 rw [right3] at q1
 have q2:=guardV
 go_enter Tryz.func93,Tryz.ntmps93
 go_wp2_with fail
 go_region_held3 (fun w1=>w1.cell? ⟨w.heap.size,0,none⟩=some (.int .i64 3) ∧ w1.cell? ⟨w.heap.size,1,none⟩=some (.int .i64 i) ∧ w1.cell? ⟨w.heap.size,2,none⟩=some (.string s) ∧ w1.cell? ⟨w.heap.size,3,none⟩=some (.bool b)) (first | exact HB.out | exact HB2.out) (first
  | (go_at_call 158; refine (HC.out _).mono ?_; rintro e w4 ⟨rfl,k6⟩; have HB2:=Lib.hid (HB.out.drew.below k6 (by simp)); have k7:=HA.out.drew.trans (k6.mono (by simp))))
 go_wp2_with fail
 go_ret
 exact ⟨rfl,k7⟩
set_option maxHeartbeats 400000 in
theorem vRight2 (i:Int) (s:ByteArray) (b:Bool) (w:World) (hs:s.size ≤ 9223372036854775807) :
  Calls Tryz.prog 93 #[.agg #[.int .i64 2,.int .i64 i,.string s,.bool b]] w fun e w'=>e=.returned (.bool (rightB 2 i s b)) ∧ Below w.heap.size w w':=by
 have HB:=Lib.hid (Boxed.new 2 i s b w 56)
 have HA:=Lib.hid ((Below.refl w.heap.size w).alloc (Nat.le_refl _) (.cells #[.int .i64 2,.int .i64 i,.string s,.bool b] 56))
 have HC:=Lib.hid (fun w1=>vStr_calls s w1)
 have q1:=fun w=>eqIn 2 i s b 2 0 s false w
 have q2:=guardV
 cases he:eqB 2 i s b 2 0 s false
 ·rw [he] at q1
  have hr:rightB 2 i s b=false:=by rw [right2,he]; rfl
  rw [hr]
  clear hr he
  go_enter Tryz.func93,Tryz.ntmps93
  go_wp2_with fail
  refine wp_region_held_drew (S:=(fun w1=>w1.cell? ⟨w.heap.size,0,none⟩=some (.int .i64 2) ∧ w1.cell? ⟨w.heap.size,1,none⟩=some (.int .i64 i) ∧ w1.cell? ⟨w.heap.size,2,none⟩=some (.string s) ∧ w1.cell? ⟨w.heap.size,3,none⟩=some (.bool b))) (by kernel_rfl) HB.out (fun hHeld=>?_)
  refine wpAnyH_take (i:=0) (v:=.agg #[.int .i64 2,.int .i64 i,.string s,.bool b]) rfl (by kernel_rfl) (by kernel_rfl) (by kernel_rfl) (fun _ _ _ h=>h) (Or.inl ⟨by kernel_rfl,fun w1 hSw=>by (try dsimp only at hSw); go_simp⟩) hHeld ?_
  refine wpAnyH_take (i:=1) (v:=.pointer (some ⟨w.heap.size,2,none⟩)) rfl (by kernel_rfl) (by kernel_rfl) (by kernel_rfl) (fun _ _ _ h=>h) (Or.inl ⟨by kernel_rfl,fun w1 hSw=>by (try dsimp only at hSw); go_simp⟩) hHeld ?_
  refine wpAnyH_take (i:=2) (v:=.string s) rfl (by kernel_rfl) (by kernel_rfl) (by kernel_rfl) (fun _ _ _ h=>h) (Or.inl ⟨by kernel_rfl,fun w1 hSw=>by (try dsimp only at hSw); go_simp⟩) hHeld ?_
  refine wpAnyH_ready (rs:=[3]) (by kernel_rfl) (by simp) ?_
  refine AllReadyH.cons rfl (fun K hK=>?_) AllReadyH.nil
  rw [if_pos (by kernel_rfl)]
  go_simp
  refine (HC.out _).mono ?_
  rintro e w4 ⟨rfl,k6⟩
  have HB2:=Lib.hid (HB.out.drew.below k6 (by simp))
  have k7:=HA.out.drew.trans (k6.mono (by simp))
  refine hK.out _ _ HB2.out (fun hHeld2=>?_)
  clear hK K
  refine wpAnyH_take (i:=4) (v:=.bool false) rfl (by kernel_rfl) (by kernel_rfl) (by kernel_rfl) (fun _ _ _ h=>h) (Or.inl ⟨by kernel_rfl,fun w1 hSw=>by (try dsimp only at hSw); go_simp⟩) hHeld2 ?_
  refine wpAnyH_take (i:=5) (v:=.bool false) rfl (by kernel_rfl) (by kernel_rfl) (by kernel_rfl) (fun _ _ _ h=>h) (Or.inl ⟨by kernel_rfl,fun w1 hSw=>by (try dsimp only at hSw); go_simp⟩) hHeld2 ?_
  refine wpAnyH_take (i:=6) (v:=undef) rfl (by kernel_rfl) (by kernel_rfl) (by kernel_rfl) (fun _ _ _ h=>h) (Or.inr ⟨by kernel_rfl,rfl⟩) hHeld2 ?_
  refine wpAnyH_take (i:=7) (v:=undef) rfl (by kernel_rfl) (by kernel_rfl) (by kernel_rfl) (fun _ _ _ h=>h) (Or.inr ⟨by kernel_rfl,rfl⟩) hHeld2 ?_
  refine wpAnyH_take (i:=8) (v:=undef) rfl (by kernel_rfl) (by kernel_rfl) (by kernel_rfl) (fun _ _ _ h=>h) (Or.inr ⟨by kernel_rfl,rfl⟩) hHeld2 ?_
  refine wpAnyH_take (i:=9) (v:=undef) rfl (by kernel_rfl) (by kernel_rfl) (by kernel_rfl) (fun _ _ _ h=>h) (Or.inr ⟨by kernel_rfl,rfl⟩) hHeld2 ?_
  refine wpAnyH_take (i:=10) (v:=.bool false) rfl (by kernel_rfl) (by kernel_rfl) (by kernel_rfl) (fun _ _ _ h=>h) (Or.inl ⟨by kernel_rfl,fun w1 hSw=>by (try dsimp only at hSw); go_simp⟩) hHeld2 ?_
  refine wpAnyH_take (i:=11) (v:=.bool false) rfl (by kernel_rfl) (by kernel_rfl) (by kernel_rfl) (fun _ _ _ h=>h) (Or.inl ⟨by kernel_rfl,fun w1 hSw=>by (try dsimp only at hSw); go_simp⟩) hHeld2 ?_
  refine wpAnyH_done (by kernel_rfl) ?_ _
  go_simp
  go_wp2_with fail
  go_ret
  exact ⟨rfl,k7⟩
 ·rw [he] at q1
  have hr:rightB 2 i s b=decide ((s.size:Int) ≤ 4096):=by rw [right2,he]; rfl
  rw [hr]
  clear hr he
  go_enter Tryz.func93,Tryz.ntmps93
  go_wp2_with fail
  go_region_held3 (fun w1=>w1.cell? ⟨w.heap.size,0,none⟩=some (.int .i64 2) ∧ w1.cell? ⟨w.heap.size,1,none⟩=some (.int .i64 i) ∧ w1.cell? ⟨w.heap.size,2,none⟩=some (.string s) ∧ w1.cell? ⟨w.heap.size,3,none⟩=some (.bool b)) (first | exact HB.out | exact HB2.out) (first
   | (go_at_call 157; refine (HC.out _).mono ?_; rintro e w4 ⟨rfl,k6⟩; have HB2:=Lib.hid (HB.out.drew.below k6 (by simp)); have k7:=HA.out.drew.trans (k6.mono (by simp))))
  go_wp2_with fail
  go_ret
  exact ⟨rfl,k7⟩
set_option maxHeartbeats 400000 in
theorem vRight_calls (k i:Int) (s:ByteArray) (b:Bool) (w:World) (hs:s.size ≤ 9223372036854775807) :
  Calls Tryz.prog 93 #[.agg #[.int .i64 k,.int .i64 i,.string s,.bool b]] w fun e w'=>e=.returned (.bool (rightB k i s b)) ∧ Below w.heap.size w w':=by
 by_cases h1:k=1
 ·subst h1; exact vRight1 i s b w hs
 by_cases h2:k=2
 ·subst h2; exact vRight2 i s b w hs
 by_cases h3:k=3
 ·subst h3; exact vRight3 i s b w hs
 have t1:(k == 1)=false:=by simpa using h1
 have t2:(k == 2)=false:=by simpa using h2
 have t3:(k == 3)=false:=by simpa using h3
 have hr:rightB k i s b=false:=by unfold rightB; rw [if_neg h1,if_neg h2,t3]; rfl
 rw [hr]
 have HA:=Lib.hid ((Below.refl w.heap.size w).alloc (Nat.le_refl _) (.cells #[.int .i64 k,.int .i64 i,.string s,.bool b] 56))
 clear h1 h2 h3 hr
 go_enter Tryz.func93,Tryz.ntmps93
 go_wp2_with fail
 go_ret
 exact ⟨rfl,HA.out⟩
end Go.Proofs.YtiafhfchjhffhaaGreatDoor
