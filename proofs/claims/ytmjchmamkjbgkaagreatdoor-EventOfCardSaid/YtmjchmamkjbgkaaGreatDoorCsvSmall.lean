/- Small facts on texts; what package csv's functions that look at one byte, or at a text's beginning, do, and its reference's. -/
import Derived.Test.YtmjchmamkjbgkaaGreatDoorBase
import Derived.Test.YtmjchmamkjbgkaaGreatDoorCsvMath
import Derived.Test.YtmjchmamkjbgkaaGreatDoorShelfCsv
import Derived.WalkKit
import Derived.WalkSpells
import Derived.WalkLawsBesides
import Derived.Lib.Hide
import Derived.LoopTactic
namespace Go.Proofs.YtmjchmamkjbgkaaGreatDoor
open Go.RowKit
set_option linter.unusedVariables false

theorem cs_size (a : ByteArray) : a.size = a.data.toList.length := by rw [Array.length_toList]; rfl
theorem cs_tl (a : ByteArray) : a.toList = a.data.toList := ByteArray.toList_eq a
theorem cs_of {a : ByteArray} {l : List UInt8} (h : a.data.toList = l) : a = ⟨l.toArray⟩ := by subst h; rfl
theorem cs_drop (s : ByteArray) (k : Nat) : (s.extract k s.size).data.toList = s.data.toList.drop k := by
  rw [ByteArray.data_extract]
  simp
  exact List.take_of_length_le (by simp)
theorem cs_take (s : ByteArray) (k : Nat) : (s.extract 0 k).data.toList = s.data.toList.take k := by
  rw [ByteArray.data_extract]
  simp
theorem cs_at (s : ByteArray) (k : Nat) (h : k < s.size) : s.data.toList[k]? = some s[k] := by
  have h' : k < s.data.toList.length := by rw [← cs_size]; exact h
  rw [List.getElem?_eq_getElem h']; rfl
theorem cs_cons (s : ByteArray) (k : Nat) (h : k < s.size) : s.data.toList.drop k = s[k] :: s.data.toList.drop (k + 1) := by
  rw [List.drop_eq_getElem_cons (by rw [← cs_size]; exact h)]; rfl
theorem cs_ne {c : UInt8} {n : Nat} (hn : n < 256) : c = UInt8.ofNat n ↔ c.toNat = n := by
  constructor
  · rintro rfl; simp; omega
  · intro h; exact UInt8.toNat_inj.1 (by simp; omega)
theorem cs_beq (c : UInt8) (n : Nat) (hn : n < 256) : ((c.toNat : Int) == (n : Int)) = (c == UInt8.ofNat n) := by
  rw [Bool.eq_iff_iff, beq_iff_eq, beq_iff_eq, cs_ne hn]; omega
theorem hp_one (l : List UInt8) (c : UInt8) : Lib.hasPrefix l [c] = (l.head? == some c) := by
  unfold Lib.hasPrefix
  cases l with
  | nil => rfl
  | cons d r =>
    by_cases h : c = d
    · subst h; simp
    · have h2 : (c == d) = false := by simpa using h
      have h3 : (d == c) = false := by simpa using fun e : d = c => h e.symm
      simp [List.isPrefixOf, h2, h3]

set_option maxHeartbeats 400000 in
theorem csPlain_calls (c : UInt8) (w : World) :
    Calls Tryz.prog 103 #[.int .u8 c.toNat] w fun e w' => e = .returned (.bool (plC c)) ∧ w = w' := by
  have e1 := cs_beq c 34 (by omega)
  have e2 := cs_beq c 44 (by omega)
  by_cases h1 : 32 ≤ c.toNat
  · by_cases h2 : c.toNat ≤ 126
    · by_cases h3 : c = 34
      · subst h3
        clear e1 e2 h1 h2
        go_enter Tryz.func103, Tryz.ntmps103
        go_wp2
        go_ret
        exact ⟨rfl, rfl⟩
      by_cases h4 : c = 44
      · subst h4
        clear e1 e2 h1 h2 h3
        go_enter Tryz.func103, Tryz.ntmps103
        go_wp2
        go_ret
        exact ⟨rfl, rfl⟩
      have hp : plC c = true := by simp [plC, h1, h2, h3, h4]
      rw [hp]
      have t3 : ((c.toNat : Int) != 34) = true := by rw [bne, show ((c.toNat : Int) == 34) = (c == 34) from e1]; simp [h3]
      have t4 : ((c.toNat : Int) != 44) = true := by rw [bne, show ((c.toNat : Int) == 44) = (c == 44) from e2]; simp [h4]
      have t1 : decide ((32 : Int) ≤ (c.toNat : Int)) = true := by simp; omega
      have t2 : decide ((c.toNat : Int) ≤ 126) = true := by simp; omega
      clear e1 e2 h1 h2 h3 h4 hp
      go_enter Tryz.func103, Tryz.ntmps103
      go_wp2
      go_ret
      exact ⟨rfl, rfl⟩
    · have hp : plC c = false := by simp [plC, h2]
      rw [hp]
      have t1 : decide ((32 : Int) ≤ (c.toNat : Int)) = true := by simp; omega
      have t2 : decide ((c.toNat : Int) ≤ 126) = false := by simp; omega
      clear e1 e2 h1 h2 hp
      go_enter Tryz.func103, Tryz.ntmps103
      go_wp2
      go_ret
      exact ⟨rfl, rfl⟩
  · have hp : plC c = false := by simp [plC, h1]
    rw [hp]
    have t1 : decide ((32 : Int) ≤ (c.toNat : Int)) = false := by simp; omega
    clear e1 e2 h1 hp
    go_enter Tryz.func103, Tryz.ntmps103
    go_wp2
    go_ret
    exact ⟨rfl, rfl⟩

set_option maxHeartbeats 400000 in
theorem refPlain_calls (c : UInt8) (w : World) :
    Calls Tryz.prog 64 #[.int .u8 c.toNat] w fun e w' => e = .returned (.bool (plC c)) ∧ w = w' := by
  have e1 := cs_beq c 34 (by omega)
  have e2 := cs_beq c 44 (by omega)
  by_cases h1 : 32 ≤ c.toNat
  · by_cases h2 : c.toNat ≤ 126
    · by_cases h3 : c = 34
      · subst h3
        clear e1 e2 h1 h2
        go_enter Tryz.func64, Tryz.ntmps64
        go_wp2
        go_ret
        exact ⟨rfl, rfl⟩
      by_cases h4 : c = 44
      · subst h4
        clear e1 e2 h1 h2 h3
        go_enter Tryz.func64, Tryz.ntmps64
        go_wp2
        go_ret
        exact ⟨rfl, rfl⟩
      have hp : plC c = true := by simp [plC, h1, h2, h3, h4]
      rw [hp]
      have t3 : ((c.toNat : Int) != 34) = true := by rw [bne, show ((c.toNat : Int) == 34) = (c == 34) from e1]; simp [h3]
      have t4 : ((c.toNat : Int) != 44) = true := by rw [bne, show ((c.toNat : Int) == 44) = (c == 44) from e2]; simp [h4]
      have t1 : decide ((32 : Int) ≤ (c.toNat : Int)) = true := by simp; omega
      have t2 : decide ((c.toNat : Int) ≤ 126) = true := by simp; omega
      clear e1 e2 h1 h2 h3 h4 hp
      go_enter Tryz.func64, Tryz.ntmps64
      go_wp2
      go_ret
      exact ⟨rfl, rfl⟩
    · have hp : plC c = false := by simp [plC, h2]
      rw [hp]
      have t1 : decide ((32 : Int) ≤ (c.toNat : Int)) = true := by simp; omega
      have t2 : decide ((c.toNat : Int) ≤ 126) = false := by simp; omega
      clear e1 e2 h1 h2 hp
      go_enter Tryz.func64, Tryz.ntmps64
      go_wp2
      go_ret
      exact ⟨rfl, rfl⟩
  · have hp : plC c = false := by simp [plC, h1]
    rw [hp]
    have t1 : decide ((32 : Int) ≤ (c.toNat : Int)) = false := by simp; omega
    clear e1 e2 h1 hp
    go_enter Tryz.func64, Tryz.ntmps64
    go_wp2
    go_ret
    exact ⟨rfl, rfl⟩

theorem pre_calls1 (s : ByteArray) (c : UInt8) (w : World) :
    Calls Tryz.prog 106 #[.string s, .string ⟨#[c]⟩] w fun e w' => e = .returned (.bool (s.data.toList.head? == some c)) ∧ w = w' := by
  refine (Tryz.strings_HasPrefix s ⟨#[c]⟩ w).mono ?_
  rintro e w' ⟨rfl, rfl⟩
  refine ⟨?_, rfl⟩
  rw [show (⟨#[c]⟩ : ByteArray).data.toList = [c] from rfl, hp_one]
theorem pre_calls2 (s : ByteArray) (c d : UInt8) (w : World) :
    Calls Tryz.prog 106 #[.string s, .string ⟨#[c, d]⟩] w fun e w' => e = .returned (.bool ([c, d].isPrefixOf s.data.toList)) ∧ w = w' := by
  refine (Tryz.strings_HasPrefix s ⟨#[c, d]⟩ w).mono ?_
  rintro e w' ⟨rfl, rfl⟩
  exact ⟨rfl, rfl⟩
set_option maxHeartbeats 400000 in
theorem endsField_calls (s : ByteArray) (w : World) :
    Calls Tryz.prog 108 #[.string s] w fun e w' => e = .returned (.bool (endsF s.data.toList)) ∧ w = w' := by
  have H1 := Lib.hid (fun w1 => pre_calls1 s 44 w1)
  have H2 := Lib.hid (fun w1 => pre_calls2 s 13 10 w1)
  have HE : Hid (endsF s.data.toList = (s.data.toList.isEmpty || (s.data.toList.head? == some 44 || [13, 10].isPrefixOf s.data.toList))) := Lib.hid rfl
  have hl := cs_tl s
  cases e1 : s.data.toList.isEmpty
  · have t0 : s.toList.isEmpty = false := by rw [hl]; exact e1
    cases e2 : (s.data.toList.head? == some 44)
    · rw [e2] at H1
      cases e3 : [13, 10].isPrefixOf s.data.toList
      all_goals
        rw [e3] at H2
        rw [e1, e2, e3] at HE
        clear e1 e2 e3 hl
        go_enter Tryz.func108, Tryz.ntmps108
        go_wp2_with fail
        refine (H1.out _).mono ?_
        rintro e w1 ⟨rfl, rfl⟩
        go_wp2_with fail
        refine (H2.out _).mono ?_
        rintro e w1 ⟨rfl, rfl⟩
        go_wp2_with fail
        go_ret
        exact ⟨by rw [HE.out]; rfl, rfl⟩
    · rw [e2] at H1
      rw [e1, e2] at HE
      clear e1 e2 hl
      go_enter Tryz.func108, Tryz.ntmps108
      go_wp2_with fail
      refine (H1.out _).mono ?_
      rintro e w1 ⟨rfl, rfl⟩
      go_wp2_with fail
      go_ret
      exact ⟨by rw [HE.out]; rfl, rfl⟩
  · have t0 : s.toList.isEmpty = true := by rw [hl]; exact e1
    rw [e1] at HE
    clear e1 hl
    go_enter Tryz.func108, Tryz.ntmps108
    go_wp2_with fail
    go_ret
    exact ⟨by rw [HE.out]; rfl, rfl⟩

set_option maxHeartbeats 1000000 in
theorem plainSize_calls (s : ByteArray) (w : World) (hs : s.size ≤ 9223372036854775807) :
    Calls Tryz.prog 86 #[.string s] w fun e w' => e = .returned (.int .i64 (plSize s.data.toList : Nat)) ∧ w = w' := by
  have HC := Lib.hid (fun c w1 => csPlain_calls c w1)
  go_enter Tryz.func86, Tryz.ntmps86
  go_wp2_with fail
  go_loopw [6] (fun i wr => ∃ (n : Nat), n ≤ s.size ∧ i = .int .i64 n ∧ Hid (plTo s.data.toList n) ∧ w = wr) (fun i _ => s.size - (intOf i).toNat)
  case atStart => exact ⟨0, Nat.zero_le _, rfl, Lib.hid (fun c h => by simp at h), rfl⟩
  case round =>
    obtain ⟨n, hn, rfl, HP, rfl⟩ := hrel
    by_cases h : n < s.size
    case neg =>
      obtain rfl : n = s.size := by omega
      have HE : Hid (plSize s.data.toList = s.size) := Lib.hid (plSize_of _ _ (by rw [← cs_size]; exact Nat.le_refl _) HP.out (fun c hc => by rw [List.getElem?_eq_none (by rw [← cs_size]; exact Nat.le_refl _)] at hc; cases hc))
      go_wp2_with fail
      go_ret
      exact ⟨by rw [HE.out]; rfl, rfl⟩
    case pos =>
      have H1 := Lib.hid (fun w1 => HC.out s[n] w1)
      cases hp : plC s[n]
      · have HE : Hid (plSize s.data.toList = n) := Lib.hid (plSize_of _ _ (by rw [← cs_size]; exact hn) HP.out (fun c hc => by rw [cs_at s n h] at hc; cases hc; exact hp))
        rw [hp] at H1
        clear hp
        go_wp2_with fail
        refine (H1.out _).mono ?_
        rintro e w1 ⟨rfl, rfl⟩
        go_wp2_with fail
        go_ret
        exact ⟨by rw [HE.out]; rfl, rfl⟩
      · have HE : Hid (plTo s.data.toList (n + 1)) := Lib.hid (plTo_succ (by rw [← cs_size]; exact h) HP.out (by have := cs_at s n h; rw [List.getElem?_eq_getElem (by rw [← cs_size]; exact h)] at this; rw [Option.some.inj this]; exact hp))
        rw [hp] at H1
        clear hp
        go_wp2_with fail
        refine (H1.out _).mono ?_
        rintro e w1 ⟨rfl, rfl⟩
        go_wp2_with fail
        go_roundw
        case rel => exact ⟨n + 1, h, by go_num, HE, trivial⟩
        case measure => simp [intOf]; omega
end Go.Proofs.YtmjchmamkjbgkaaGreatDoor
