/- What the reference's ends and field do with any text. -/
import Derived.Test.YtkihjfdpfglkbaaDoorCsvSmall
import Derived.OwnWalk
namespace Go.Proofs.YtkihjfdpfglkbaaDoor
open Go.RowKit
set_option linter.unusedVariables false

def endsN (r : List UInt8) : Nat := if r = [] then 2 else if [13, 10].isPrefixOf r then 1 else 0
theorem ba_nil {s : ByteArray} : s.size = 0 ↔ s.data.toList = [] := by rw [cs_size]; exact List.length_eq_zero_iff

set_option maxHeartbeats 1000000 in
theorem ends_calls (s : ByteArray) (w : World) (hs : s.size ≤ 9223372036854775807) :
    Calls Tryd.prog 22 #[.string s] w fun e w' => e = .returned (.int .i64 (endsN s.data.toList : Nat)) ∧ w = w' := by
  by_cases h0 : s.size = 0
  · have HE : Hid (endsN s.data.toList = 2) := Lib.hid (by rw [endsN, if_pos (ba_nil.1 h0)])
    have t0 : ((s.size : Int) == 0) = true := by rw [h0]; rfl
    have t1 : s.toList.isEmpty = true := by rw [cs_tl, ba_nil.1 h0]; rfl
    clear h0
    go_enter Tryd.func22, Tryd.ntmps22
    go_wp2_with fail
    go_ret
    exact ⟨by rw [HE.out]; rfl, rfl⟩
  have hne : s.data.toList ≠ [] := fun e => h0 (ba_nil.2 e)
  have t0 : ((s.size : Int) == 0) = false := beq_eq_false_iff_ne.2 (by omega)
  have t1 : s.toList.isEmpty = false := by rw [cs_tl]; simpa using hne
  by_cases h2 : 2 ≤ s.size
  case neg =>
    have HE : Hid (endsN s.data.toList = 0) := Lib.hid (by
      rw [endsN, if_neg hne, if_neg]
      intro e
      obtain ⟨x, hx⟩ := pre2 e
      rw [cs_size, hx] at h2
      simp at h2)
    have t2 : decide ((2 : Int) ≤ (s.size : Int)) = false := decide_eq_false (by omega)
    clear h0 hne h2
    go_enter Tryd.func22, Tryd.ntmps22
    go_wp2_with fail
    go_ret
    exact ⟨by rw [HE.out]; rfl, rfl⟩
  case pos =>
    have t2 : decide ((2 : Int) ≤ (s.size : Int)) = true := decide_eq_true (by omega)
    have b0 : 0 < s.size := by omega
    have b1 : 1 < s.size := by omega
    have hl : s.data.toList = s[0] :: s[1] :: s.data.toList.drop 2 := by
      have e0 := cs_cons s 0 b0
      have e1 := cs_cons s 1 b1
      rw [List.drop_zero] at e0
      exact e0.trans (by rw [Nat.zero_add, e1])
    by_cases h13 : s[0] = 13
    · have t3 : ((s[0].toNat : Int) == 13) = true := by rw [h13]; rfl
      by_cases h10 : s[1] = 10
      · have t4 : ((s[1].toNat : Int) == 10) = true := by rw [h10]; rfl
        have HE : Hid (endsN s.data.toList = 1) := Lib.hid (by rw [endsN, if_neg hne, hl, h13, h10]; simp [List.isPrefixOf])
        clear h0 hne hl h13 h10
        go_enter Tryd.func22, Tryd.ntmps22
        go_wp2_with fail
        go_ret
        exact ⟨by rw [HE.out]; rfl, rfl⟩
      · have t4 : ((s[1].toNat : Int) == 10) = false := by rw [show ((s[1].toNat : Int) == 10) = (s[1] == 10) from cs_beq s[1] 10 (by omega)]; simpa using h10
        have HE : Hid (endsN s.data.toList = 0) := Lib.hid (by rw [endsN, if_neg hne, if_neg]; rw [hl]; simp [List.isPrefixOf]; exact fun _ e => h10 e.symm)
        clear h0 hne hl h13 h10
        go_enter Tryd.func22, Tryd.ntmps22
        go_wp2_with fail
        go_ret
        exact ⟨by rw [HE.out]; rfl, rfl⟩
    · have t3 : ((s[0].toNat : Int) == 13) = false := by rw [show ((s[0].toNat : Int) == 13) = (s[0] == 13) from cs_beq s[0] 13 (by omega)]; simpa using h13
      have HE : Hid (endsN s.data.toList = 0) := Lib.hid (by rw [endsN, if_neg hne, if_neg]; rw [hl]; simp [List.isPrefixOf]; exact fun e => absurd e.symm h13)
      clear h0 hne hl h13
      go_enter Tryd.func22, Tryd.ntmps22
      go_wp2_with fail
      go_ret
      exact ⟨by rw [HE.out]; rfl, rfl⟩
end Go.Proofs.YtkihjfdpfglkbaaDoor
