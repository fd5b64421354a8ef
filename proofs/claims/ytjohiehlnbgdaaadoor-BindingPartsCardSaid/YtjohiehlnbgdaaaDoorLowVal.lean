/- Contracts of a lower layer, several texts in one. -/
import Derived.Test.YtjohiehlnbgdaaaDoorLowNum
import Derived.Laws.StructEq
import Derived.Laws.ResultCell
import Derived.Deep.RegionHeld3
import Derived.Deep.QuietTactic
import Derived.BigQuiet
import Derived.IntWalk
import Derived.Lib.SmallJoins
import Derived.OpenShut
import Derived.ShutString
import Derived.ChangeOld
/- ValMake -/
namespace Go.Proofs.YtjohiehlnbgdaaaDoor
open Go.RowKit
set_option linter.unusedVariables false

theorem results_cell {fn : Func} {p : Tmp} {ty : TypeId} (h : fn.results = #[.cell p ty]) (tmps : Array Value) (P : Program) (w : World) :
    (results fn tmps).run P w = ((asAddr (tmps.getD p undef)).run P w).andThen fun a w₁ => (loadVar ty a).run P w₁ := by
  simp only [results, h]
  simp [Sem.run_bind, Result.andThen]

set_option maxHeartbeats 400000 in
theorem vInt_calls (n : Int) (w : World) :
    Calls Tryd.prog 56 #[.int .i64 n] w fun e w' => e = .returned (.agg #[.int .i64 1, .int .i64 n, .string ⟨#[]⟩, .bool false]) ∧ Below w.heap.size w w' := by
  go_enter Tryd.func56, Tryd.ntmps56
  go_wp2
  refine bodyPost_ret (v := .agg #[.int .i64 1, .int .i64 n, .string ⟨#[]⟩, .bool false]) ?_ rfl ⟨rfl, ?_⟩
  · rw [results_cell rfl]
    go_simp
  · repeat' (first | exact Below.refl _ _ | refine Below.alloc ?_ (by simp <;> omega) _)

set_option maxHeartbeats 400000 in
theorem vStr_calls (s : ByteArray) (w : World) :
    Calls Tryd.prog 57 #[.string s] w fun e w' => e = .returned (.agg #[.int .i64 2, .int .i64 0, .string s, .bool false]) ∧ Below w.heap.size w w' := by
  go_enter Tryd.func57, Tryd.ntmps57
  go_wp2
  refine bodyPost_ret (v := .agg #[.int .i64 2, .int .i64 0, .string s, .bool false]) ?_ rfl ⟨rfl, ?_⟩
  · rw [results_cell rfl]
    go_simp
  · repeat' (first | exact Below.refl _ _ | refine Below.alloc ?_ (by simp <;> omega) _)

set_option maxHeartbeats 400000 in
theorem vBool_calls (b : Bool) (w : World) :
    Calls Tryd.prog 58 #[.bool b] w fun e w' => e = .returned (.agg #[.int .i64 3, .int .i64 0, .string ⟨#[]⟩, .bool b]) ∧ Below w.heap.size w w' := by
  go_enter Tryd.func58, Tryd.ntmps58
  go_wp2
  refine bodyPost_ret (v := .agg #[.int .i64 3, .int .i64 0, .string ⟨#[]⟩, .bool b]) ?_ rfl ⟨rfl, ?_⟩
  · rw [results_cell rfl]
    go_simp
  · repeat' (first | exact Below.refl _ _ | refine Below.alloc ?_ (by simp <;> omega) _)

end Go.Proofs.YtjohiehlnbgdaaaDoor

/- ValMath -/
namespace Go.Proofs.YtjohiehlnbgdaaaDoor
open Go.RowKit
set_option linter.unusedVariables false

/-- Whether a value may be. -/
def rightB (k i : Int) (s : ByteArray) (b : Bool) : Bool :=
  if k = 1 then s.toList.isEmpty && !b else if k = 2 then (i == 0) && !b && decide ((s.size : Int) ≤ 4096) else (k == 3) && (i == 0) && s.toList.isEmpty

/-- A value's cells lie in a block. -/
def Boxed (g : Nat) (k i : Int) (s : ByteArray) (b : Bool) (w : World) : Prop :=
  w.cell? ⟨g, 0, none⟩ = some (.int .i64 k) ∧ w.cell? ⟨g, 1, none⟩ = some (.int .i64 i) ∧ w.cell? ⟨g, 2, none⟩ = some (.string s) ∧ w.cell? ⟨g, 3, none⟩ = some (.bool b)
theorem Boxed.below {g B : Nat} {k i : Int} {s : ByteArray} {b : Bool} {w w' : World} (h : Boxed g k i s b w) (hb : Below B w w') (hg : g < B) : Boxed g k i s b w' :=
  ⟨(hb.cell (p := ⟨g, 0, none⟩) hg).trans h.1, (hb.cell (p := ⟨g, 1, none⟩) hg).trans h.2.1, (hb.cell (p := ⟨g, 2, none⟩) hg).trans h.2.2.1, (hb.cell (p := ⟨g, 3, none⟩) hg).trans h.2.2.2⟩
theorem Boxed.drew {g : Nat} {k i : Int} {s : ByteArray} {b : Bool} {w : World} (h : Boxed g k i s b w) : Boxed g k i s b w.drew := h
theorem Boxed.new (k i : Int) (s : ByteArray) (b : Bool) (w : World) (t : TypeId) : Boxed w.heap.size k i s b (w.alloc (.cells #[.int .i64 k, .int .i64 i, .string s, .bool b] t)) := by
  refine ⟨?_, ?_, ?_, ?_⟩ <;> (rw [World.cell?_alloc_at (hn := rfl)]; rfl)
/-- No string shares the bytes of a value's cells. -/
def Free4 (g : Nat) (w : World) : Prop :=
  w.frozen? ⟨g, 0, none⟩ = false ∧ w.frozen? ⟨g, 1, none⟩ = false ∧ w.frozen? ⟨g, 2, none⟩ = false ∧ w.frozen? ⟨g, 3, none⟩ = false
theorem Free4.below {g B : Nat} {w w' : World} (h : Free4 g w) (hb : Below B w w') (hg : g < B) : Free4 g w' :=
  ⟨(hb.frozen (p := ⟨g, 0, none⟩) hg).trans h.1, (hb.frozen (p := ⟨g, 1, none⟩) hg).trans h.2.1, (hb.frozen (p := ⟨g, 2, none⟩) hg).trans h.2.2.1, (hb.frozen (p := ⟨g, 3, none⟩) hg).trans h.2.2.2⟩
theorem Free4.new (cs : Array Value) (w : World) (t : TypeId) : Free4 w.heap.size (w.alloc (.cells cs t)) := by
  refine ⟨?_, ?_, ?_, ?_⟩ <;> rw [World.frozen?_alloc_at (hn := rfl)]

/-- Whether two values are the same. -/
def eqB (k i : Int) (s : ByteArray) (b : Bool) (k' i' : Int) (s' : ByteArray) (b' : Bool) : Bool := (k == k') && (i == i') && (s.toList == s'.toList) && (b == b')
theorem eqB_iff (k i : Int) (s : ByteArray) (b : Bool) (k' i' : Int) (s' : ByteArray) (b' : Bool) : eqB k i s b k' i' s' b' = true ↔ k = k' ∧ i = i' ∧ s.toList = s'.toList ∧ b = b' := by
  unfold eqB
  simp [and_assoc]
theorem none_list : (⟨#[]⟩ : ByteArray).toList = [] := by rw [ByteArray.toList_eq]
theorem list_none (l : List UInt8) : (l == (⟨#[]⟩ : ByteArray).toList) = l.isEmpty := by rw [none_list]; cases l <;> rfl
theorem right1 (i : Int) (s : ByteArray) (b : Bool) : eqB 1 i s b 1 i ⟨#[]⟩ false = rightB 1 i s b := by
  unfold eqB rightB; rw [list_none]; cases b <;> simp
theorem right3 (i : Int) (s : ByteArray) (b : Bool) : eqB 3 i s b 3 0 ⟨#[]⟩ b = rightB 3 i s b := by
  unfold eqB rightB; rw [list_none]; simp
theorem right2 (i : Int) (s : ByteArray) (b : Bool) : rightB 2 i s b = (eqB 2 i s b 2 0 s false && decide ((s.size : Int) ≤ 4096)) := by
  unfold eqB rightB; cases b <;> simp
theorem guardV : Tryd.prog.eqGuardType Tryd.prog.depth 34 = false := by kernel_rfl
set_option maxRecDepth 100000 in
theorem eqIn (k i : Int) (s : ByteArray) (b : Bool) (k' i' : Int) (s' : ByteArray) (b' : Bool) (w : World) :
    (Op.equalIn 10000 34 (.agg #[.int .i64 k, .int .i64 i, .string s, .bool b]) (.agg #[.int .i64 k', .int .i64 i', .string s', .bool b'])).run Tryd.prog w = .ok (eqB k i s b k' i' s' b') w := by
  rw [run_equalIn_agg w 9999 _ _ _ (by simp only [Program.fieldsOf, Tryd.underlying34]) (by kernel_rfl)]
  simp only [Program.fieldsOf, Tryd.underlying34]
  go_simp
  repeat' split
  all_goals simp_all [eqB]
end Go.Proofs.YtjohiehlnbgdaaaDoor

/- ValRight -/
namespace Go.Proofs.YtjohiehlnbgdaaaDoor
open Go.RowKit
set_option linter.unusedVariables false

set_option maxHeartbeats 400000 in
theorem refVRight_calls (k i : Int) (s : ByteArray) (b : Bool) (w : World) (hs : s.size ≤ 9223372036854775807) :
    Calls Tryd.prog 41 #[.agg #[.int .i64 k, .int .i64 i, .string s, .bool b]] w fun e w' => e = .returned (.bool (rightB k i s b)) ∧ Below w.heap.size w w' := by
  go_enter Tryd.func41, Tryd.ntmps41
  go_wp2
  all_goals go_ret
  all_goals refine ⟨by simp_all [rightB], ?_⟩
  all_goals repeat' (first | exact Below.refl _ _ | refine Below.alloc ?_ (by simp <;> omega) _)

set_option maxHeartbeats 400000 in
theorem vRight1 (i : Int) (s : ByteArray) (b : Bool) (w : World) (hs : s.size ≤ 9223372036854775807) :
    Calls Tryd.prog 42 #[.agg #[.int .i64 1, .int .i64 i, .string s, .bool b]] w fun e w' => e = .returned (.bool (rightB 1 i s b)) ∧ Below w.heap.size w w' := by
  have HB := Lib.hid (Boxed.new 1 i s b w 34)
  have HA := Lib.hid ((Below.refl w.heap.size w).alloc (Nat.le_refl _) (.cells #[.int .i64 1, .int .i64 i, .string s, .bool b] 34))
  have HC := Lib.hid (fun w1 => vInt_calls i w1)
  have q1 := fun w => eqIn 1 i s b 1 i ⟨#[]⟩ false w
  rw [right1] at q1
  have q2 := guardV
  go_enter Tryd.func42, Tryd.ntmps42
  go_wp2_with fail
  go_region_held3 (fun w1 => w1.cell? ⟨w.heap.size, 0, none⟩ = some (.int .i64 1) ∧ w1.cell? ⟨w.heap.size, 1, none⟩ = some (.int .i64 i) ∧ w1.cell? ⟨w.heap.size, 2, none⟩ = some (.string s) ∧ w1.cell? ⟨w.heap.size, 3, none⟩ = some (.bool b)) (first | exact HB.out | exact HB2.out) (first
    | (go_at_call 56; refine (HC.out _).mono ?_; rintro e w4 ⟨rfl, k6⟩; have HB2 := Lib.hid (HB.out.drew.below k6 (by simp)); have k7 := HA.out.drew.trans (k6.mono (by simp))))
  go_wp2_with fail
  go_ret
  exact ⟨rfl, k7⟩

set_option maxHeartbeats 400000 in
theorem vRight3 (i : Int) (s : ByteArray) (b : Bool) (w : World) (hs : s.size ≤ 9223372036854775807) :
    Calls Tryd.prog 42 #[.agg #[.int .i64 3, .int .i64 i, .string s, .bool b]] w fun e w' => e = .returned (.bool (rightB 3 i s b)) ∧ Below w.heap.size w w' := by
  have HB := Lib.hid (Boxed.new 3 i s b w 34)
  have HA := Lib.hid ((Below.refl w.heap.size w).alloc (Nat.le_refl _) (.cells #[.int .i64 3, .int .i64 i, .string s, .bool b] 34))
  have HC := Lib.hid (fun w1 => vBool_calls b w1)
  have q1 := fun w => eqIn 3 i s b 3 0 ⟨#[]⟩ b w
  rw [right3] at q1
  have q2 := guardV
  go_enter Tryd.func42, Tryd.ntmps42
  go_wp2_with fail
  go_region_held3 (fun w1 => w1.cell? ⟨w.heap.size, 0, none⟩ = some (.int .i64 3) ∧ w1.cell? ⟨w.heap.size, 1, none⟩ = some (.int .i64 i) ∧ w1.cell? ⟨w.heap.size, 2, none⟩ = some (.string s) ∧ w1.cell? ⟨w.heap.size, 3, none⟩ = some (.bool b)) (first | exact HB.out | exact HB2.out) (first
    | (go_at_call 58; refine (HC.out _).mono ?_; rintro e w4 ⟨rfl, k6⟩; have HB2 := Lib.hid (HB.out.drew.below k6 (by simp)); have k7 := HA.out.drew.trans (k6.mono (by simp))))
  go_wp2_with fail
  go_ret
  exact ⟨rfl, k7⟩

set_option maxHeartbeats 400000 in
theorem vRight2 (i : Int) (s : ByteArray) (b : Bool) (w : World) (hs : s.size ≤ 9223372036854775807) :
    Calls Tryd.prog 42 #[.agg #[.int .i64 2, .int .i64 i, .string s, .bool b]] w fun e w' => e = .returned (.bool (rightB 2 i s b)) ∧ Below w.heap.size w w' := by
  have HB := Lib.hid (Boxed.new 2 i s b w 34)
  have HA := Lib.hid ((Below.refl w.heap.size w).alloc (Nat.le_refl _) (.cells #[.int .i64 2, .int .i64 i, .string s, .bool b] 34))
  have HC := Lib.hid (fun w1 => vStr_calls s w1)
  have q1 := fun w => eqIn 2 i s b 2 0 s false w
  have q2 := guardV
  cases he : eqB 2 i s b 2 0 s false
  · rw [he] at q1
    have hr : rightB 2 i s b = false := by rw [right2, he]; rfl
    rw [hr]
    clear hr he
    go_enter Tryd.func42, Tryd.ntmps42
    go_wp2_with fail
    refine wp_region_held_drew (S := (fun w1 => w1.cell? ⟨w.heap.size, 0, none⟩ = some (.int .i64 2) ∧ w1.cell? ⟨w.heap.size, 1, none⟩ = some (.int .i64 i) ∧ w1.cell? ⟨w.heap.size, 2, none⟩ = some (.string s) ∧ w1.cell? ⟨w.heap.size, 3, none⟩ = some (.bool b))) (by kernel_rfl) HB.out (fun hHeld => ?_)
    refine wpAnyH_take (i := 0) (v := .agg #[.int .i64 2, .int .i64 i, .string s, .bool b]) rfl (by kernel_rfl) (by kernel_rfl) (by kernel_rfl) (fun _ _ _ h => h) (Or.inl ⟨by kernel_rfl, fun w1 hSw => by (try dsimp only at hSw); go_simp⟩) hHeld ?_
    refine wpAnyH_take (i := 1) (v := .pointer (some ⟨w.heap.size, 2, none⟩)) rfl (by kernel_rfl) (by kernel_rfl) (by kernel_rfl) (fun _ _ _ h => h) (Or.inl ⟨by kernel_rfl, fun w1 hSw => by (try dsimp only at hSw); go_simp⟩) hHeld ?_
    refine wpAnyH_take (i := 2) (v := .string s) rfl (by kernel_rfl) (by kernel_rfl) (by kernel_rfl) (fun _ _ _ h => h) (Or.inl ⟨by kernel_rfl, fun w1 hSw => by (try dsimp only at hSw); go_simp⟩) hHeld ?_
    refine wpAnyH_ready (rs := [3]) (by kernel_rfl) (by simp) ?_
    refine AllReadyH.cons rfl (fun K hK => ?_) AllReadyH.nil
    rw [if_pos (by kernel_rfl)]
    go_simp
    refine (HC.out _).mono ?_
    rintro e w4 ⟨rfl, k6⟩
    have HB2 := Lib.hid (HB.out.drew.below k6 (by simp))
    have k7 := HA.out.drew.trans (k6.mono (by simp))
    refine hK.out _ _ HB2.out (fun hHeld2 => ?_)
    clear hK K
    refine wpAnyH_take (i := 4) (v := .bool false) rfl (by kernel_rfl) (by kernel_rfl) (by kernel_rfl) (fun _ _ _ h => h) (Or.inl ⟨by kernel_rfl, fun w1 hSw => by (try dsimp only at hSw); go_simp⟩) hHeld2 ?_
    refine wpAnyH_take (i := 5) (v := .bool false) rfl (by kernel_rfl) (by kernel_rfl) (by kernel_rfl) (fun _ _ _ h => h) (Or.inl ⟨by kernel_rfl, fun w1 hSw => by (try dsimp only at hSw); go_simp⟩) hHeld2 ?_
    refine wpAnyH_take (i := 6) (v := undef) rfl (by kernel_rfl) (by kernel_rfl) (by kernel_rfl) (fun _ _ _ h => h) (Or.inr ⟨by kernel_rfl, rfl⟩) hHeld2 ?_
    refine wpAnyH_take (i := 7) (v := undef) rfl (by kernel_rfl) (by kernel_rfl) (by kernel_rfl) (fun _ _ _ h => h) (Or.inr ⟨by kernel_rfl, rfl⟩) hHeld2 ?_
    refine wpAnyH_take (i := 8) (v := undef) rfl (by kernel_rfl) (by kernel_rfl) (by kernel_rfl) (fun _ _ _ h => h) (Or.inr ⟨by kernel_rfl, rfl⟩) hHeld2 ?_
    refine wpAnyH_take (i := 9) (v := undef) rfl (by kernel_rfl) (by kernel_rfl) (by kernel_rfl) (fun _ _ _ h => h) (Or.inr ⟨by kernel_rfl, rfl⟩) hHeld2 ?_
    refine wpAnyH_take (i := 10) (v := .bool false) rfl (by kernel_rfl) (by kernel_rfl) (by kernel_rfl) (fun _ _ _ h => h) (Or.inl ⟨by kernel_rfl, fun w1 hSw => by (try dsimp only at hSw); go_simp⟩) hHeld2 ?_
    refine wpAnyH_take (i := 11) (v := .bool false) rfl (by kernel_rfl) (by kernel_rfl) (by kernel_rfl) (fun _ _ _ h => h) (Or.inl ⟨by kernel_rfl, fun w1 hSw => by (try dsimp only at hSw); go_simp⟩) hHeld2 ?_
    refine wpAnyH_done (by kernel_rfl) ?_ _
    go_simp
    go_wp2_with fail
    go_ret
    exact ⟨rfl, k7⟩
  · rw [he] at q1
    have hr : rightB 2 i s b = decide ((s.size : Int) ≤ 4096) := by rw [right2, he]; rfl
    rw [hr]
    clear hr he
    go_enter Tryd.func42, Tryd.ntmps42
    go_wp2_with fail
    go_region_held3 (fun w1 => w1.cell? ⟨w.heap.size, 0, none⟩ = some (.int .i64 2) ∧ w1.cell? ⟨w.heap.size, 1, none⟩ = some (.int .i64 i) ∧ w1.cell? ⟨w.heap.size, 2, none⟩ = some (.string s) ∧ w1.cell? ⟨w.heap.size, 3, none⟩ = some (.bool b)) (first | exact HB.out | exact HB2.out) (first
      | (go_at_call 57; refine (HC.out _).mono ?_; rintro e w4 ⟨rfl, k6⟩; have HB2 := Lib.hid (HB.out.drew.below k6 (by simp)); have k7 := HA.out.drew.trans (k6.mono (by simp))))
    go_wp2_with fail
    go_ret
    exact ⟨rfl, k7⟩

set_option maxHeartbeats 400000 in
theorem vRight_calls (k i : Int) (s : ByteArray) (b : Bool) (w : World) (hs : s.size ≤ 9223372036854775807) :
    Calls Tryd.prog 42 #[.agg #[.int .i64 k, .int .i64 i, .string s, .bool b]] w fun e w' => e = .returned (.bool (rightB k i s b)) ∧ Below w.heap.size w w' := by
  by_cases h1 : k = 1
  · subst h1; exact vRight1 i s b w hs
  by_cases h2 : k = 2
  · subst h2; exact vRight2 i s b w hs
  by_cases h3 : k = 3
  · subst h3; exact vRight3 i s b w hs
  have t1 : (k == 1) = false := by simpa using h1
  have t2 : (k == 2) = false := by simpa using h2
  have t3 : (k == 3) = false := by simpa using h3
  have hr : rightB k i s b = false := by unfold rightB; rw [if_neg h1, if_neg h2, t3]; rfl
  rw [hr]
  have HA := Lib.hid ((Below.refl w.heap.size w).alloc (Nat.le_refl _) (.cells #[.int .i64 k, .int .i64 i, .string s, .bool b] 34))
  clear h1 h2 h3 hr
  go_enter Tryd.func42, Tryd.ntmps42
  go_wp2_with fail
  go_ret
  exact ⟨rfl, HA.out⟩
end Go.Proofs.YtjohiehlnbgdaaaDoor

/- ValRefLess -/
namespace Go.Proofs.YtjohiehlnbgdaaaDoor
open Go.RowKit
set_option linter.unusedVariables false

/-- Whether a value is ahead of another one. -/
def lessB (k i : Int) (s : ByteArray) (b : Bool) (k' i' : Int) (s' : ByteArray) (b' : Bool) : Bool :=
  if k = k' then (if k = 1 then decide (i < i') else if k = 2 then Op.bytesLess s.toList s'.toList else if k = 3 then !b && b' else false) else decide (k < k')

theorem below_drewN {B : Nat} {a w : World} (n : Nat) (h : Below B a w) : Below B a (w.drewN n) := ⟨h.os, h.tape, h.output, h.size, h.block⟩
theorem bl_same (a : UInt8) (x y : List UInt8) : Op.bytesLess (a :: x) (a :: y) = Op.bytesLess x y := by
  simp [Op.bytesLess]
theorem bl_drop : ∀ (k : Nat) (l m : List UInt8), k ≤ l.length → k ≤ m.length → l.take k = m.take k → Op.bytesLess l m = Op.bytesLess (l.drop k) (m.drop k)
  | 0, _, _, _, _, _ => by simp
  | k + 1, [], _, h, _, _ => by simp at h
  | k + 1, _ :: _, [], _, h, _ => by simp at h
  | k + 1, a :: x, c :: y, h1, h2, h => by
    simp only [List.take_succ_cons, List.cons.injEq] at h
    obtain ⟨rfl, h⟩ := h
    rw [bl_same, List.drop_succ_cons, List.drop_succ_cons]
    exact bl_drop k x y (by simpa using h1) (by simpa using h2) h
theorem bl_nil (l : List UInt8) : Op.bytesLess l [] = false := by cases l <;> rfl
theorem bl_ne {a c : UInt8} (h : a ≠ c) (x y : List UInt8) : Op.bytesLess (a :: x) (c :: y) = decide (a.toNat < c.toNat) := by
  simp only [Op.bytesLess]
  rw [show (a == c) = false by simpa using h]
  simp [UInt8.lt_iff_toNat_lt]
theorem bl_end (l m : List UInt8) (h : l.length ≤ m.length) (e : l = m.take l.length) : Op.bytesLess l m = decide (l.length < m.length) := by
  rw [bl_drop l.length l m (Nat.le_refl _) h (by rw [List.take_length]; exact e), List.drop_length]
  by_cases hl : l.length < m.length
  · rw [List.drop_eq_getElem_cons hl]; simp [Op.bytesLess, hl]
  · rw [List.drop_eq_nil_iff.2 (by omega)]; simp [Op.bytesLess, hl]
theorem bl_end' (l m : List UInt8) (h : m.length ≤ l.length) (e : l.take m.length = m) : Op.bytesLess l m = false := by
  rw [bl_drop m.length l m h (Nat.le_refl _) (by rw [List.take_length]; exact e), List.drop_length, bl_nil]

theorem tl_len (a : ByteArray) : a.toList.length = a.size := by rw [ByteArray.toList_eq, Array.length_toList]; rfl
theorem tl_at (a : ByteArray) (k : Nat) (h : k < a.size) : a.toList[k]'(by rw [tl_len]; exact h) = a[k] := by
  simp only [ByteArray.toList_eq]
  rfl

set_option maxHeartbeats 1000000 in
theorem refBelow_calls (x y : ByteArray) (w : World) (hx : x.size ≤ 9223372036854775807) (hy : y.size ≤ 9223372036854775807) :
    Calls Tryd.prog 49 #[.string x, .string y] w fun e w' => e = .returned (.bool (Op.bytesLess x.toList y.toList)) ∧ Below w.heap.size w w' := by
  obtain ⟨l, hl⟩ : ∃ l, l = x.toList := ⟨_, rfl⟩
  obtain ⟨m, hm⟩ : ∃ m, m = y.toList := ⟨_, rfl⟩
  have hln : l.length = x.size := by rw [hl, tl_len]
  have hmn : m.length = y.size := by rw [hm, tl_len]
  rw [← hl, ← hm]
  have HL := Lib.hid hl
  have HM := Lib.hid hm
  have HLN := Lib.hid hln
  have HMN := Lib.hid hmn
  clear hl hm hln hmn
  go_enter Tryd.func49, Tryd.ntmps49
  go_wp2_with fail
  go_loopw [5] (fun i wr => ∃ (k : Nat), k ≤ x.size ∧ k ≤ y.size ∧ i = .int .i64 k ∧ Hid (l.take k = m.take k) ∧ Below w.heap.size w wr) (fun i _ => x.size - (intOf i).toNat)
  case atStart => exact ⟨0, Nat.zero_le _, Nat.zero_le _, rfl, Lib.hid rfl, Below.refl _ _⟩
  case round =>
    obtain ⟨k, hk1, hk2, rfl, HT, kb⟩ := hrel
    by_cases h1 : k < x.size
    case neg =>
      have HE : Hid (Op.bytesLess l m = decide (x.size < y.size)) := Lib.hid (by
        have e : l.length = k := by rw [HLN.out]; omega
        have := bl_end l m (by rw [HLN.out, HMN.out]; omega) (by rw [e, ← HT.out, ← e, List.take_length])
        rwa [HLN.out, HMN.out] at this)
      have t1 : decide (k < x.size) = false := by simpa using h1
      go_wp2_with fail
      go_ret
      rw [HE.out]
      exact ⟨by simp, kb⟩
    case pos =>
      have t1 : decide (k < x.size) = true := by simpa using h1
      by_cases h2 : k < y.size
      case neg =>
        have HE : Hid (Op.bytesLess l m = false) := Lib.hid (by
          have e : m.length = k := by rw [HMN.out]; omega
          exact bl_end' l m (by rw [HLN.out, HMN.out]; omega) (by rw [e, HT.out, ← e, List.take_length]))
        have t2 : decide (k < y.size) = false := by simpa using h2
        have t3 : decide (x.size < y.size) = false := by simp; omega
        go_wp2_with fail
        go_ret
        rw [HE.out]
        exact ⟨rfl, kb⟩
      case pos =>
        have t2 : decide (k < y.size) = true := by simpa using h2
        have hlk : k < l.length := by rw [HLN.out]; exact h1
        have hmk : k < m.length := by rw [HMN.out]; exact h2
        have hlx : l[k] = x[k] := by have := HL.out; subst this; exact tl_at x k h1
        have hmy : m[k] = y[k] := by have := HM.out; subst this; exact tl_at y k h2
        by_cases he : x[k] = y[k]
        · have t3 : ((x[k].toNat : Int) != (y[k].toNat : Int)) = false := by rw [he]; simp
          have HT2 : Hid (l.take (k + 1) = m.take (k + 1)) := Lib.hid (by rw [List.take_succ_eq_append_getElem hlk, List.take_succ_eq_append_getElem hmk, HT.out, hlx, hmy, he])
          clear he hlx hmy hlk hmk
          go_wp2_with fail
          go_quiet (fail)
          go_wp2_with fail
          go_roundw
          case rel => exact ⟨k + 1, by omega, by omega, by go_num, HT2, below_drewN _ kb⟩
          case measure => simp [intOf]; omega
        · have t3 : ((x[k].toNat : Int) != (y[k].toNat : Int)) = true := by
            rw [bne_iff_ne]; intro e; exact he (UInt8.toNat_inj.1 (by omega))
          have HE : Hid (Op.bytesLess l m = decide (x[k].toNat < y[k].toNat)) := Lib.hid (by
            rw [bl_drop k l m (by omega) (by omega) HT.out, List.drop_eq_getElem_cons hlk, List.drop_eq_getElem_cons hmk, hlx, hmy, bl_ne he])
          clear he hlx hmy hlk hmk
          go_wp2_with fail
          go_quiet (fail)
          go_wp2_with fail
          go_quiet (fail)
          go_wp2_with fail
          go_ret
          rw [HE.out]
          exact ⟨rfl, below_drewN _ (below_drewN _ kb)⟩

set_option maxHeartbeats 1000000 in
theorem refVLess_calls (k i : Int) (s : ByteArray) (b : Bool) (k' i' : Int) (s' : ByteArray) (b' : Bool) (w : World) (hs : s.size ≤ 9223372036854775807) (hs' : s'.size ≤ 9223372036854775807) (hk : k = 1 ∨ k = 2 ∨ k = 3) :
    Calls Tryd.prog 32 #[.agg #[.int .i64 k, .int .i64 i, .string s, .bool b], .agg #[.int .i64 k', .int .i64 i', .string s', .bool b']] w fun e w' => e = .returned (.bool (lessB k i s b k' i' s' b')) ∧ Below w.heap.size w w' := by
  by_cases hkk : k = k'
  · subst hkk
    by_cases h2 : k = 2
    · subst h2
      have hr : lessB 2 i s b 2 i' s' b' = Op.bytesLess s.toList s'.toList := by simp [lessB]
      rw [hr]
      have HC := Lib.hid (fun w1 => refBelow_calls s s' w1 hs hs')
      clear hr hk
      go_enter Tryd.func32, Tryd.ntmps32
      go_wp2_with fail
      refine (HC.out _).mono ?_
      rintro e w1 ⟨rfl, k1⟩
      go_wp2_with fail
      go_ret
      refine ⟨rfl, (Below.trans ?_ (k1.mono (by simp; omega)))⟩
      repeat' (first | exact Below.refl _ _ | refine Below.alloc ?_ (by simp <;> omega) _)
    · have t2 : (k == 2) = false := by simpa using h2
      go_enter Tryd.func32, Tryd.ntmps32
      go_wp2
      all_goals go_ret
      all_goals refine ⟨by simp_all [lessB], ?_⟩
      all_goals repeat' (first | exact Below.refl _ _ | refine Below.alloc ?_ (by simp <;> omega) _)
  · have t2 : (k != k') = true := by simpa using hkk
    have hr : lessB k i s b k' i' s' b' = decide (k < k') := by simp [lessB, hkk]
    rw [hr]
    go_enter Tryd.func32, Tryd.ntmps32
    go_wp2_with fail
    go_ret
    refine ⟨rfl, ?_⟩
    repeat' (first | exact Below.refl _ _ | refine Below.alloc ?_ (by simp <;> omega) _)
end Go.Proofs.YtjohiehlnbgdaaaDoor

/- ValCells -/
namespace Go.Proofs.YtjohiehlnbgdaaaDoor
open Go.RowKit
set_option linter.unusedVariables false

theorem right_kind {k i : Int} {s : ByteArray} {b : Bool} (h : rightB k i s b = true) : k = 1 ∨ k = 2 ∨ k = 3 := by
  unfold rightB at h
  by_cases h1 : k = 1
  · exact .inl h1
  · rw [if_neg h1] at h
    by_cases h2 : k = 2
    · exact .inr (.inl h2)
    · rw [if_neg h2] at h
      simp only [Bool.and_eq_true, beq_iff_eq] at h
      exact .inr (.inr h.1.1)
theorem right2_size {i : Int} {s : ByteArray} {b : Bool} (h : rightB 2 i s b = true) : s.size ≤ 4096 := by
  simp only [rightB] at h
  simp at h
  omega
theorem right_cases {k i : Int} {s : ByteArray} {b : Bool} (h : rightB k i s b = true) : (k = 1 ∧ s.toList = [] ∧ b = false) ∨ (k = 2 ∧ i = 0 ∧ b = false) ∨ (k = 3 ∧ i = 0 ∧ s.toList = []) := by
  rcases right_kind h with rfl | rfl | rfl
  · simp [rightB] at h
    exact .inl ⟨rfl, h⟩
  · simp [rightB] at h
    exact .inr (.inl ⟨rfl, h.1⟩)
  · simp [rightB] at h
    exact .inr (.inr ⟨rfl, h⟩)
theorem right_size {k i : Int} {s : ByteArray} {b : Bool} (h : rightB k i s b = true) : s.size ≤ 4096 := by
  rcases right_cases h with ⟨rfl, e, _⟩ | ⟨rfl, _⟩ | ⟨rfl, _, e⟩
  · rw [← tl_len, e]; simp
  · exact right2_size h
  · rw [← tl_len, e]; simp

structure Vd where
  (k i : Int) (s : ByteArray) (b : Bool)
instance : Inhabited Vd := ⟨⟨0, 0, ⟨#[]⟩, false⟩⟩
def lessD (x y : Vd) : Bool := lessB x.k x.i x.s x.b y.k y.i y.s y.b
/-- A value's cells lie at a place of a block. -/
def Lies (g o : Nat) (v : Vd) (w : World) : Prop :=
  w.cell? ⟨g, o, none⟩ = some (.int .i64 v.k) ∧ w.cell? ⟨g, o + 1, none⟩ = some (.int .i64 v.i) ∧ w.cell? ⟨g, o + 2, none⟩ = some (.string v.s) ∧ w.cell? ⟨g, o + 3, none⟩ = some (.bool v.b)
theorem Lies.below {g o B : Nat} {v : Vd} {w w' : World} (h : Lies g o v w) (hb : Below B w w') (hg : g < B) : Lies g o v w' :=
  ⟨(hb.cell (p := ⟨g, o, none⟩) hg).trans h.1, (hb.cell (p := ⟨g, o + 1, none⟩) hg).trans h.2.1, (hb.cell (p := ⟨g, o + 2, none⟩) hg).trans h.2.2.1, (hb.cell (p := ⟨g, o + 3, none⟩) hg).trans h.2.2.2⟩
/-- A list of values lies in a row. -/
structure VRow (w : World) (g off : Nat) (L : List Vd) : Prop where
  at' : ∀ n, n < L.length → Lies g (off + n * 4) (L.getD n default) w
  lt : g < w.heap.size
theorem VRow.below {w w' : World} {g off : Nat} {L : List Vd} (h : VRow w g off L) (hb : Below w.heap.size w w') : VRow w' g off L :=
  ⟨fun n hn => (h.at' n hn).below hb h.lt, Nat.lt_of_lt_of_le h.lt hb.size⟩

theorem Boxed.set {g : Nat} {k i : Int} {s : ByteArray} {b : Bool} {w : World} (h : Boxed g k i s b w) (k' i' : Int) (s' : ByteArray) (b' : Bool) :
    Boxed g k' i' s' b' ((((w.setCell ⟨g, 0, none⟩ (.int .i64 k')).setCell ⟨g, 1, none⟩ (.int .i64 i')).setCell ⟨g, 2, none⟩ (.string s')).setCell ⟨g, 3, none⟩ (.bool b')) := by
  obtain ⟨h0, h1, h2, h3⟩ := h
  refine ⟨?_, ?_, ?_, ?_⟩
  · rw [World.cell?_setCell_other _ _ _ _ (by simp), World.cell?_setCell_other _ _ _ _ (by simp), World.cell?_setCell_other _ _ _ _ (by simp)]
    exact World.cell?_setCell_same _ _ _ (h0)
  · rw [World.cell?_setCell_other _ _ _ _ (by simp), World.cell?_setCell_other _ _ _ _ (by simp)]
    exact World.cell?_setCell_same _ _ _ ((World.cell?_setCell_other _ _ _ _ (by simp)).trans h1)
  · rw [World.cell?_setCell_other _ _ _ _ (by simp)]
    exact World.cell?_setCell_same _ _ _ (((World.cell?_setCell_other _ _ _ _ (by simp)).trans (World.cell?_setCell_other _ _ _ _ (by simp))).trans h2)
  · exact World.cell?_setCell_same _ _ _ ((((World.cell?_setCell_other _ _ _ _ (by simp)).trans (World.cell?_setCell_other _ _ _ _ (by simp))).trans (World.cell?_setCell_other _ _ _ _ (by simp))).trans h3)
theorem Free4.set {g : Nat} {w : World} (h : Free4 g w) (a b c d : Addr) (x y z u : Value) : Free4 g ((((w.setCell a x).setCell b y).setCell c z).setCell d u) := by
  obtain ⟨h0, h1, h2, h3⟩ := h
  refine ⟨?_, ?_, ?_, ?_⟩ <;> simp [*]
theorem below_set4 {B g : Nat} {a w : World} (h : Below B a w) (hg : B ≤ g) (x y z u : Value) : Below B a ((((w.setCell ⟨g, 0, none⟩ x).setCell ⟨g, 1, none⟩ y).setCell ⟨g, 2, none⟩ z).setCell ⟨g, 3, none⟩ u) :=
  (((h.setCell hg _).setCell hg _).setCell hg _).setCell hg _
theorem size_set4 (w : World) (g : Nat) (x y z u : Value) : ((((w.setCell ⟨g, 0, none⟩ x).setCell ⟨g, 1, none⟩ y).setCell ⟨g, 2, none⟩ z).setCell ⟨g, 3, none⟩ u).heap.size = w.heap.size := by simp
end Go.Proofs.YtjohiehlnbgdaaaDoor

/- ValLess -/
namespace Go.Proofs.YtjohiehlnbgdaaaDoor
open Go.RowKit
set_option linter.unusedVariables false

set_option maxHeartbeats 400000 in
theorem vLess_calls (k i : Int) (s : ByteArray) (b : Bool) (k' i' : Int) (s' : ByteArray) (b' : Bool) (w : World) :
    Calls Tryd.prog 60 #[.agg #[.int .i64 k, .int .i64 i, .string s, .bool b], .agg #[.int .i64 k', .int .i64 i', .string s', .bool b']] w fun e w' => e = .returned (.bool (lessB k i s b k' i' s' b')) ∧ Below w.heap.size w w' := by
  go_enter Tryd.func60, Tryd.ntmps60
  go_wp2
  all_goals go_ret
  all_goals refine ⟨by simp_all [lessB], ?_⟩
  all_goals repeat' (first | exact Below.refl _ _ | refine Below.alloc ?_ (by simp <;> omega) _)
end Go.Proofs.YtjohiehlnbgdaaaDoor

/- ValOrder -/
namespace Go.Proofs.YtjohiehlnbgdaaaDoor
open Go.RowKit
set_option linter.unusedVariables false

theorem bl_cons (a c : UInt8) (x y : List UInt8) : Op.bytesLess (a :: x) (c :: y) = true ↔ a.toNat < c.toNat ∨ (a = c ∧ Op.bytesLess x y = true) := by
  simp [Op.bytesLess, UInt8.lt_iff_toNat_lt]
theorem bl_irrefl : ∀ l : List UInt8, Op.bytesLess l l = false
  | [] => rfl
  | a :: x => by rw [bl_same, bl_irrefl x]
theorem bl_trans : ∀ {l m n : List UInt8}, Op.bytesLess l m = true → Op.bytesLess m n = true → Op.bytesLess l n = true
  | _, [], _, h, _ => by rw [bl_nil] at h; cases h
  | _, _ :: _, [], _, h => by rw [bl_nil] at h; cases h
  | [], _ :: _, _ :: _, _, _ => rfl
  | a :: x, b :: y, c :: z, h1, h2 => by
    rw [bl_cons] at h1 h2 ⊢
    rcases h1 with h1 | ⟨rfl, h1⟩
    · rcases h2 with h2 | ⟨rfl, _⟩
      · exact .inl (by omega)
      · exact .inl h1
    · rcases h2 with h2 | ⟨rfl, h2⟩
      · exact .inl h2
      · exact .inr ⟨rfl, bl_trans h1 h2⟩
theorem bl_asym {l m : List UInt8} (h : Op.bytesLess l m = true) : Op.bytesLess m l = false := by
  cases h2 : Op.bytesLess m l
  · rfl
  · have := bl_trans h h2
    rw [bl_irrefl] at this
    cases this
theorem bl_tri : ∀ {l m : List UInt8}, Op.bytesLess l m = false → Op.bytesLess m l = false → l = m
  | [], [], _, _ => rfl
  | [], _ :: _, h, _ => by simp [Op.bytesLess] at h
  | _ :: _, [], _, h => by simp [Op.bytesLess] at h
  | a :: x, c :: y, h1, h2 => by
    have n1 : ¬ (a.toNat < c.toNat ∨ (a = c ∧ Op.bytesLess x y = true)) := by rw [← bl_cons, h1]; simp
    have n2 : ¬ (c.toNat < a.toNat ∨ (c = a ∧ Op.bytesLess y x = true)) := by rw [← bl_cons, h2]; simp
    have e : a = c := UInt8.toNat_inj.1 (by omega)
    subst e
    rw [bl_tri (l := x) (m := y) (by simpa using n1) (by simpa using n2)]

theorem less_asym {k i : Int} {s : ByteArray} {b : Bool} {k' i' : Int} {s' : ByteArray} {b' : Bool} (h : lessB k i s b k' i' s' b' = true) : lessB k' i' s' b' k i s b = false := by
  unfold lessB at h ⊢
  by_cases hk : k = k'
  · subst hk
    rw [if_pos rfl] at h ⊢
    by_cases h1 : k = 1
    · rw [if_pos h1] at h ⊢; simp at h ⊢; omega
    · rw [if_neg h1] at h ⊢
      by_cases h2 : k = 2
      · rw [if_pos h2] at h ⊢; exact bl_asym h
      · rw [if_neg h2] at h ⊢
        by_cases h3 : k = 3
        · rw [if_pos h3] at h ⊢; cases b <;> cases b' <;> simp_all
        · rw [if_neg h3] at h; cases h
  · rw [if_neg hk] at h; rw [if_neg (fun e => hk e.symm)]; simp at h ⊢; omega
theorem less_trans {k i : Int} {s : ByteArray} {b : Bool} {k' i' : Int} {s' : ByteArray} {b' : Bool} {k'' i'' : Int} {s'' : ByteArray} {b'' : Bool} (h : lessB k i s b k' i' s' b' = true) (g : lessB k' i' s' b' k'' i'' s'' b'' = true) : lessB k i s b k'' i'' s'' b'' = true := by
  unfold lessB at h g ⊢
  by_cases hk : k = k'
  · subst hk
    rw [if_pos rfl] at h
    by_cases hg : k = k''
    · subst hg
      rw [if_pos rfl] at g ⊢
      by_cases h1 : k = 1
      · rw [if_pos h1] at h g ⊢; simp at h g ⊢; omega
      · rw [if_neg h1] at h g ⊢
        by_cases h2 : k = 2
        · rw [if_pos h2] at h g ⊢; exact bl_trans h g
        · rw [if_neg h2] at h g ⊢
          by_cases h3 : k = 3
          · rw [if_pos h3] at h g ⊢; cases b <;> cases b' <;> simp_all
          · rw [if_neg h3] at h; cases h
    · rw [if_neg hg] at g ⊢; exact g
  · rw [if_neg hk] at h
    by_cases hg : k' = k''
    · subst hg; rw [if_neg hk]; exact h
    · rw [if_neg hg] at g
      simp at h g
      rw [if_neg (by omega)]
      simp; omega
theorem less_tri {k i : Int} {s : ByteArray} {b : Bool} {k' i' : Int} {s' : ByteArray} {b' : Bool} (r : rightB k i s b = true) (r' : rightB k' i' s' b' = true) (h : lessB k i s b k' i' s' b' = false) (g : lessB k' i' s' b' k i s b = false) : eqB k i s b k' i' s' b' = true := by
  rw [eqB_iff]
  unfold lessB at h g
  by_cases hk : k = k'
  · subst hk
    rw [if_pos rfl] at h g
    rcases right_cases r with ⟨rfl, e1, e2⟩ | ⟨rfl, e1, e2⟩ | ⟨rfl, e1, e2⟩
    · rcases right_cases r' with ⟨_, f1, f2⟩ | ⟨f0, _, _⟩ | ⟨f0, _, _⟩
      · rw [if_pos rfl] at h g
        simp at h g
        exact ⟨rfl, by omega, by rw [e1, f1], by rw [e2, f2]⟩
      · omega
      · omega
    · rcases right_cases r' with ⟨f0, _, _⟩ | ⟨_, f1, f2⟩ | ⟨f0, _, _⟩
      · omega
      · rw [if_neg (by decide), if_pos rfl] at h g
        exact ⟨rfl, by rw [e1, f1], bl_tri h g, by rw [e2, f2]⟩
      · omega
    · rcases right_cases r' with ⟨f0, _, _⟩ | ⟨f0, _, _⟩ | ⟨_, f1, f2⟩
      · omega
      · omega
      · rw [if_neg (by decide), if_neg (by decide), if_pos rfl] at h g
        exact ⟨rfl, by rw [e1, f1], by rw [e2, f2], by cases b <;> cases b' <;> simp_all⟩
  · rw [if_neg hk] at h
    rw [if_neg (fun e => hk e.symm)] at g
    simp at h g
    omega
theorem less_ne {k i : Int} {s : ByteArray} {b : Bool} {k' i' : Int} {s' : ByteArray} {b' : Bool} (h : lessB k i s b k' i' s' b' = true) : eqB k i s b k' i' s' b' = false := by
  cases he : eqB k i s b k' i' s' b'
  · rfl
  · obtain ⟨rfl, rfl, hs, rfl⟩ := (eqB_iff _ _ _ _ _ _ _ _).1 he
    have h2 := less_asym h
    unfold lessB at h h2
    rw [hs] at h
    rw [hs] at h2
    rw [h2] at h
    cases h
theorem eqB_comm (k i : Int) (s : ByteArray) (b : Bool) (k' i' : Int) (s' : ByteArray) (b' : Bool) : eqB k i s b k' i' s' b' = eqB k' i' s' b' k i s b := by
  refine Bool.eq_iff_iff.2 ?_
  rw [eqB_iff, eqB_iff]
  exact ⟨fun ⟨a, b, c, d⟩ => ⟨a.symm, b.symm, c.symm, d.symm⟩, fun ⟨a, b, c, d⟩ => ⟨a.symm, b.symm, c.symm, d.symm⟩⟩
end Go.Proofs.YtjohiehlnbgdaaaDoor

/- ValShut -/
namespace Go.Proofs.YtjohiehlnbgdaaaDoor
open Go.ChangeShapes Go.WideShapes Go.ChangeAt Go.RowKit Go.Joins
set_option linter.unusedVariables false

theorem cellsVal : Tryd.prog.cellsOf 34 = 4 := by kernel_rfl
section
variable {H : Type} {enc : TypeId × Value → H} {w : World} {base : Nat} {spare : Nat → Bool} {held : Bool}
set_option maxRecDepth 100000 in
theorem open_val {r : Reach} {b0 : Nat} {v : Value} {d : DataW H} {p : List MemPlace} (hv : Value.okWide Tryd.prog w r b0 34 v) (h : DataW.Trod enc Tryd.prog w base spare held 34 v d p) :
    ∃ (k i : Int) (s : ByteArray) (b : Bool), v = .agg #[.int .i64 k, .int .i64 i, .string s, .bool b] ∧ d = .agg [.lit (.int .i64 k), .lit (.int .i64 i), .lit (.string s.data.toList), .lit (.bool b)] ∧ p = [] ∧ (Lit.int .i64 k).wf = true ∧ (Lit.int .i64 i).wf = true ∧ s.size ≤ maxLen := by
  obtain ⟨c0, c1, c2, c3, y0, y1, y2, y3, m, rfl, rfl, rfl, hy0, hy1, hy2, hy3⟩ := open_agg4 Tryd.underlying34 (by kernel_rfl) cellsVal hv h
  obtain ⟨k, e0, rfl, wk⟩ := DataW.trod_int Tryd.underlying3 hy0
  obtain ⟨i, e1, rfl, wi⟩ := DataW.trod_int Tryd.underlying2 hy1
  obtain ⟨s, e2, rfl, ws⟩ := DataW.trod_string Tryd.underlying9 hy2
  obtain ⟨b, e3, rfl⟩ := DataW.trod_bool Tryd.underlying4 hy3
  simp at e0 e1 e2 e3
  subst e0 e1 e2 e3
  exact ⟨k, i, s, b, rfl, rfl, rfl, wk, wi, ws⟩
set_option maxRecDepth 100000 in
theorem shut_val {k i : Int} {s : ByteArray} {b : Bool} (wk : (Lit.int .i64 k).wf = true) (wi : (Lit.int .i64 i).wf = true) (ws : s.size ≤ maxLen) :
    DataW.Trod enc Tryd.prog w base spare held 34 (.agg #[.int .i64 k, .int .i64 i, .string s, .bool b]) (.agg [.lit (.int .i64 k), .lit (.int .i64 i), .lit (.string s.data.toList), .lit (.bool b)]) [] :=
  shut_agg4 (y0 := (.lit (.int .i64 k), [])) (y1 := (.lit (.int .i64 i), [])) (y2 := (.lit (.string s.data.toList), [])) (y3 := (.lit (.bool b), [])) Tryd.underlying34 (by kernel_rfl) cellsVal
    ⟨1, by simp [DataW.trod, Tryd.underlying3, wk]⟩ ⟨1, by simp [DataW.trod, Tryd.underlying2, wi]⟩ ⟨1, by simp [DataW.trod, Tryd.underlying9, ws]⟩ ⟨1, by simp [DataW.trod, Tryd.underlying4]⟩
end
end Go.Proofs.YtjohiehlnbgdaaaDoor
