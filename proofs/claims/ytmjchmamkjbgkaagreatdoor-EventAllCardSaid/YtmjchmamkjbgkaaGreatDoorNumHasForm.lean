/- What num.hasForm and the reference's Form do with any text: whether it is of the form of a number's text. -/
import Derived.Test.YtmjchmamkjbgkaaGreatDoorNumForm
import Derived.Test.YtmjchmamkjbgkaaGreatDoorBase
import Derived.Test.YtmjchmamkjbgkaaGreatDoorNumMath
import Derived.Test.YtmjchmamkjbgkaaGreatDoorShelfParse
import Derived.LoopTactic
namespace Go.Proofs.YtmjchmamkjbgkaaGreatDoor
open Go.RowKit

theorem trim_mag (l : List UInt8) : Lib.trimPrefix l [45] = mag l := by
  unfold Lib.trimPrefix Lib.hasPrefix mag
  cases l with
  | nil => rfl
  | cons c r =>
    by_cases h : c = 45
    · subst h; rfl
    · have h2 : ([45] : List UInt8).isPrefixOf (c :: r) = false := by
        simp only [List.isPrefixOf, Bool.and_true, beq_eq_false_iff_ne, ne_eq]
        exact fun e => h e.symm
      rw [h2, if_neg (show ¬ (c :: r).head? = some 45 from fun e => h (Option.some.inj e))]; rfl

/-- All digits, up to there. -/
theorem all_take (l : List UInt8) (k : Nat) (h : k < l.length) : (l.take (k + 1)).all isD = ((l.take k).all isD && isD l[k]) := by
  rw [List.take_succ_eq_append_getElem h, List.all_append, List.all_cons, List.all_nil, Bool.and_true]
theorem all_dead (l : List UInt8) (k : Nat) (h : k < l.length) (hd : isD l[k] = false) : l.all isD = false := by
  rw [List.all_eq_false]
  exact ⟨l[k], List.getElem_mem h, by simp [hd]⟩

set_option maxHeartbeats 400000 in
theorem trim_calls (s : ByteArray) (w : World) :
    Calls Tryz.prog 92 #[.string s, .string ⟨#[45]⟩] w fun e w' => e = .returned (.string ⟨(mag s.data.toList).toArray⟩) ∧ w = w' := by
  refine (Tryz.strings_TrimPrefix s ⟨#[45]⟩ w).mono ?_
  rintro e w' ⟨rfl, rfl⟩
  refine ⟨?_, rfl⟩
  rw [show (⟨#[45]⟩ : ByteArray).data.toList = [45] from rfl, trim_mag]

set_option maxHeartbeats 400000 in
theorem hasForm_calls (s : ByteArray) (w : World) (hs : s.size ≤ 9223372036854775807) :
    Calls Tryz.prog 112 #[.string s] w fun e w' => e = .returned (.bool (formB s.data.toList)) ∧ w = w' := by
  have HT := Lib.hid (trim_calls s w)
  obtain ⟨d, hd⟩ : ∃ d : ByteArray, d = ⟨(mag s.data.toList).toArray⟩ := ⟨_, rfl⟩
  have ed : d.data.toList = mag s.data.toList := by rw [hd]
  rw [← hd] at HT
  clear hd
  have hlen : d.size = (mag s.data.toList).length := by rw [← ed, ← Lib.size_eq]
  by_cases h0 : mag s.data.toList = []
  · have hf : formB s.data.toList = false := by unfold formB; rw [h0]; rfl
    rw [hf]
    have e0 : d.toList = [] := by rw [Lib.toList_data, ed, h0]
    have e1 : d.toList.isEmpty = true := by rw [e0]; rfl
    clear hlen ed hf h0
    go_enter Tryz.func112, Tryz.ntmps112
    go_wp2_with (go_at_call 92; refine HT.out.mono ?_; rintro e w' ⟨rfl, rfl⟩)
    go_ret
    exact ⟨rfl, rfl⟩
  have hpos : 0 < d.size := by rw [hlen]; exact List.length_pos_iff.2 h0
  have e1 : d.toList.isEmpty = false := by rw [Lib.toList_data, ed]; simpa using h0
  have hne : ¬ d.toList = [] := by rw [Lib.toList_data, ed]; exact h0
  obtain ⟨c, hc⟩ : ∃ c, c = d[0] := ⟨_, rfl⟩
  have ehead : (mag s.data.toList).head? = some c := by
    rw [← ed, hc, List.head?_eq_getElem?, List.getElem?_eq_getElem (by rw [← Lib.size_eq]; exact hpos)]; rfl
  by_cases h48 : c = 48
  · have hf : formB s.data.toList = (s.data.toList == [48]) := by
      unfold formB; rw [ehead, h48, if_pos rfl]
      cases hm : mag s.data.toList with
      | nil => exact absurd hm h0
      | cons a r => rfl
    rw [hf, ← Lib.toList_data]
    have t0 : ((d[0].toNat : Int) == 48) = true := by rw [← hc, h48]; rfl
    clear hlen ed hf h0 ehead hc h48
    go_enter Tryz.func112, Tryz.ntmps112
    go_wp2_with (go_at_call 92; refine HT.out.mono ?_; rintro e w' ⟨rfl, rfl⟩)
    go_ret
    exact ⟨rfl, rfl⟩
  have t0 : ((d[0].toNat : Int) == 48) = false := by
    rw [← hc, beq_eq_false_iff_ne]
    intro e
    exact h48 (UInt8.toNat_inj.1 (by have : (48 : UInt8).toNat = 48 := rfl; omega))
  have HF : Hid (formB s.data.toList = (mag s.data.toList).all isD) := by
    refine Lib.hid ?_
    unfold formB
    rw [ehead, if_neg (fun e => h48 (Option.some.inj e))]
    cases hm : mag s.data.toList with
    | nil => exact absurd hm h0
    | cons a r => rfl
  obtain ⟨m, hm⟩ : ∃ m, m = mag s.data.toList := ⟨_, rfl⟩
  rw [← hm] at HF ed hlen
  have hmax : d.size ≤ 9223372036854775807 := by
    rw [hlen, hm, ← trim_mag]
    exact Nat.le_trans (Lib.trimPrefix_le _ _) (by rw [← Lib.size_eq]; exact hs)
  have HE := Lib.hid ed
  have HL := Lib.hid hlen
  clear ehead hc h48 h0 hm ed hlen hs
  go_enter Tryz.func112, Tryz.ntmps112
  go_wp2_with (go_at_call 92; refine HT.out.mono ?_; rintro e w' ⟨rfl, rfl⟩)
  go_loop [16] (fun i => ∃ k : Nat, k ≤ d.size ∧ i = .int .i64 k ∧ Hid ((m.take k).all isD = true)) (fun i => d.size - (intOf i).toNat)
  case atStart => exact ⟨0, Nat.zero_le _, rfl, Lib.hid rfl⟩
  case round =>
    obtain ⟨k, hk, rfl, HA⟩ := hrel
    by_cases hlt : k < d.size
    · have hkm : k < m.length := by rw [← HL.out]; exact hlt
      have HC : Hid (m[k] = d[k]) := Lib.hid (by
        have := HE.out
        subst this
        rfl)
      by_cases hdig : 48 ≤ d[k].toNat ∧ d[k].toNat ≤ 57
      · obtain ⟨g1, g2⟩ := hdig
        have HN : Hid ((m.take (k + 1)).all isD = true) := Lib.hid (by rw [all_take m k hkm, HA.out, HC.out]; simp [isD, g1, g2])
        have t1 : decide ((d[k].toNat : Int) < 48) = false := by simp; omega
        have t2 : decide ((57 : Int) < (d[k].toNat : Int)) = false := by simp; omega
        clear HC g1 g2
        go_wp2
        go_round
        case rel => exact ⟨k + 1, by omega, by go_num, HN⟩
        case measure => simp [intOf]; omega
      · have HD : Hid (m.all isD = false) := Lib.hid (all_dead m k hkm (by rw [HC.out]; unfold isD; simpa using hdig))
        by_cases hlow : d[k].toNat < 48
        · have t1 : decide ((d[k].toNat : Int) < 48) = true := by simp; omega
          clear HC hdig hlow
          go_wp2
          go_ret
          rw [HF.out, HD.out]
          exact ⟨rfl, rfl⟩
        · have t1 : decide ((d[k].toNat : Int) < 48) = false := by simp; omega
          have t2 : decide ((57 : Int) < (d[k].toNat : Int)) = true := by simp; omega
          clear HC hdig hlow
          go_wp2
          go_ret
          rw [HF.out, HD.out]
          exact ⟨rfl, rfl⟩
    · have HX : Hid (m.all isD = true) := Lib.hid (by have := HA.out; rwa [List.take_of_length_le (by rw [← HL.out]; omega)] at this)
      go_wp2
      go_ret
      rw [HF.out, HX.out]
      exact ⟨rfl, rfl⟩
end Go.Proofs.YtmjchmamkjbgkaaGreatDoor
