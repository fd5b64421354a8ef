/- The kinds' names, the kinds of names, and of which kinds operators' answers are. -/
import Derived.Test.YtmpoloninpakbaaGreatDoorValOpMath
namespace Go.Proofs.YtmpoloninpakbaaGreatDoor
open Go.RowKit
set_option linter.unusedVariables false

/-- A kind's name. -/
def nameV (k : Int) : ByteArray := if k = 1 then ⟨#[105, 110, 116]⟩ else if k = 2 then ⟨#[115, 116, 114, 105, 110, 103]⟩ else if k = 3 then ⟨#[98, 111, 111, 108]⟩ else ⟨#[]⟩
/-- A name's kind. -/
def kindV (s : ByteArray) : Int := if s.toList = [105, 110, 116] then 1 else if s.toList = [115, 116, 114, 105, 110, 103] then 2 else if s.toList = [98, 111, 111, 108] then 3 else 0

set_option maxHeartbeats 400000 in
theorem vName_calls (k : Int) (w : World) :
    Calls Tryz.prog 11 #[.int .i64 k] w fun e w' => e = .returned (.string (nameV k)) ∧ w = w' := by
  go_enter Tryz.func11, Tryz.ntmps11
  go_wp2
  all_goals go_ret
  all_goals exact ⟨by simp_all [nameV], rfl⟩

set_option maxHeartbeats 400000 in
theorem vKind_calls (s : ByteArray) (w : World) :
    Calls Tryz.prog 12 #[.string s] w fun e w' => e = .returned (.int .i64 (kindV s)) ∧ w = w' := by
  go_enter Tryz.func12, Tryz.ntmps12
  go_wp2
  all_goals go_ret
  all_goals exact ⟨by simp_all [kindV], rfl⟩

def ifK (f : Bool) (k : Int) : Int := if f = true then k else 0
set_option maxHeartbeats 400000 in
theorem kindIf_calls (f : Bool) (k : Int) (w : World) :
    Calls Tryz.prog 24 #[.bool f, .int .i64 k] w fun e w' => e = .returned (.int .i64 (ifK f k)) ∧ w = w' := by
  cases f
  all_goals
    go_enter Tryz.func24, Tryz.ntmps24
    go_wp2
    go_ret
    exact ⟨rfl, rfl⟩

set_option maxHeartbeats 1000000 in
theorem typeTwo_calls (o k : Int) (w : World) :
    Calls Tryz.prog 25 #[.int .i64 o, .int .i64 k] w fun e w' => e = .returned (.int .i64 (typeTwo o k)) ∧ w = w' := by
  have HC := Lib.hid (fun f k w1 => kindIf_calls f k w1)
  go_enter Tryz.func25, Tryz.ntmps25
  go_wp2_with (go_at_call 24; refine (HC.out _ _ _).mono ?_; rintro e w' ⟨rfl, rfl⟩)
  all_goals go_ret
  all_goals refine ⟨?_, rfl⟩
  all_goals clear HC
  all_goals simp_all [typeTwo, ifK]

set_option maxHeartbeats 1000000 in
theorem vType_calls (o k k' : Int) (w : World) :
    Calls Tryz.prog 10 #[.int .i64 o, .int .i64 k, .int .i64 k'] w fun e w' => e = .returned (.int .i64 (typeV o k k')) ∧ w = w' := by
  by_cases h4 : o = 4
  · have hr : typeV o k k' = ifK (k == 3) 3 := by subst h4; simp [typeV, ifK]
    rw [hr]
    have HC := Lib.hid (fun w1 => kindIf_calls (k == 3) 3 w1)
    have t4 : (o == 4) = true := by simpa using h4
    clear h4 hr
    go_enter Tryz.func10, Tryz.ntmps10
    go_wp2_with fail
    refine (HC.out _).mono ?_
    rintro e w1 ⟨rfl, rfl⟩
    go_wp2_with fail
    go_ret
    exact ⟨rfl, rfl⟩
  have t4 : (o == 4) = false := by simpa using h4
  by_cases h5 : o = 5
  · have hr : typeV o k k' = ifK (k == 1) 1 := by subst h5; simp [typeV, ifK]
    rw [hr]
    have HC := Lib.hid (fun w1 => kindIf_calls (k == 1) 1 w1)
    have t5 : (o == 5) = true := by simpa using h5
    clear h4 h5 hr
    go_enter Tryz.func10, Tryz.ntmps10
    go_wp2_with fail
    refine (HC.out _).mono ?_
    rintro e w1 ⟨rfl, rfl⟩
    go_wp2_with fail
    go_ret
    exact ⟨rfl, rfl⟩
  have t5 : (o == 5) = false := by simpa using h5
  by_cases hkk : k = k'
  case neg =>
    have hr : typeV o k k' = 0 := by unfold typeV; rw [if_neg h4, if_neg h5, if_neg (fun h => hkk h.1)]
    rw [hr]
    have t6 : (k != k') = true := by simpa using hkk
    clear h4 h5 hkk hr
    go_enter Tryz.func10, Tryz.ntmps10
    go_wp2_with fail
    go_ret
    exact ⟨rfl, rfl⟩
  case pos =>
    subst hkk
    have t6 : (k != k) = false := by simp
    by_cases hk : k = 1 ∨ k = 2 ∨ k = 3
    · have hr : typeV o k k = typeTwo o k := by unfold typeV; rw [if_neg h4, if_neg h5, if_pos ⟨rfl, hk⟩]
      rw [hr]
      have hn : ¬ (nameV k).toList = [] := by rcases hk with rfl | rfl | rfl <;> simp [nameV, ByteArray.toList_eq]
      have HN := fun w1 => vName_calls k w1
      obtain ⟨N, hN⟩ : ∃ N, N = nameV k := ⟨_, rfl⟩
      rw [← hN] at hn HN
      have hn0 : N.toList.isEmpty = false := by simpa using hn
      have HN := Lib.hid HN
      have HT := Lib.hid (fun w1 => typeTwo_calls o k w1)
      clear h4 h5 hk hr hN hn
      go_enter Tryz.func10, Tryz.ntmps10
      go_wp2_with fail
      refine (HN.out _).mono ?_
      rintro e w1 ⟨rfl, rfl⟩
      go_wp2_with fail
      refine (HT.out _).mono ?_
      rintro e w1 ⟨rfl, rfl⟩
      go_wp2_with fail
      go_ret
      exact ⟨rfl, rfl⟩
    · have hr : typeV o k k = 0 := by unfold typeV; rw [if_neg h4, if_neg h5, if_neg (fun h => hk h.2)]
      rw [hr]
      have hn : nameV k = ⟨#[]⟩ := by unfold nameV; rw [if_neg (fun e => hk (.inl e)), if_neg (fun e => hk (.inr (.inl e))), if_neg (fun e => hk (.inr (.inr e)))]
      have HN := fun w1 => vName_calls k w1
      rw [hn] at HN
      have HN := Lib.hid HN
      clear h4 h5 hk hr hn
      go_enter Tryz.func10, Tryz.ntmps10
      go_wp2_with fail
      refine (HN.out _).mono ?_
      rintro e w1 ⟨rfl, rfl⟩
      go_wp2_with fail
      go_ret
      exact ⟨rfl, rfl⟩
end Go.Proofs.YtmpoloninpakbaaGreatDoor
