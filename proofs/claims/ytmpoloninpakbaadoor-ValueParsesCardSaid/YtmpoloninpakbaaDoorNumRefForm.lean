/- What the reference's Form does with any text. -/
import Derived.Test.YtmpoloninpakbaaDoorNumHasForm
namespace Go.Proofs.YtmpoloninpakbaaDoor
open Go.RowKit

/-- From where the digits stand. -/
def fromOf (l : List UInt8) : Nat := if l.head? = some 45 then 1 else 0
theorem mag_drop (l : List UInt8) : mag l = l.drop (fromOf l) := by
  unfold mag fromOf; split
  · rw [List.drop_one]
  · rfl
theorem fromOf_le (l : List UInt8) : fromOf l ≤ 1 := by unfold fromOf; split <;> omega
theorem form_of (l : List UInt8) (h0 : mag l ≠ []) (h48 : ¬ ((mag l).head? = some 48 ∧ 1 < l.length)) : formB l = (mag l).all isD := by
  unfold formB
  have he : (mag l).isEmpty = false := by
    cases hm : mag l with
    | nil => exact absurd hm h0
    | cons a r => rfl
  rw [he]
  by_cases hh : (mag l).head? = some 48
  · rw [if_pos hh]
    have h1 : l.length ≤ 1 := by
      rcases Nat.lt_or_ge 1 l.length with hc | hc
      · exact absurd ⟨hh, hc⟩ h48
      · exact hc
    cases l with
    | nil => exact absurd rfl h0
    | cons a r =>
      have hr : r = [] := by
        cases r with
        | nil => rfl
        | cons b t => simp at h1
      subst hr
      by_cases ha : a = 45
      · subst ha; exact absurd rfl h0
      · have em : mag [a] = [a] := if_neg (fun e => ha (Option.some.inj e))
        rw [em] at hh ⊢
        obtain rfl : a = 48 := Option.some.inj hh
        rfl
  · rw [if_neg hh]; rfl
theorem form_not (l : List UInt8) (h : (mag l).head? = some 48) (h1 : 1 < l.length) : formB l = false := by
  unfold formB
  rw [if_pos h]
  have : (l == [48]) = false := by
    rw [beq_eq_false_iff_ne]; intro e; subst e; simp at h1
  rw [this, Bool.and_false]

/-- The loop over the digits, and what stands behind it, from the byte f on. -/
theorem all_drop_take (l : List UInt8) (f k : Nat) (h : k < l.length) (hf : f ≤ k) : ((l.drop f).take (k + 1 - f)).all isD = (((l.drop f).take (k - f)).all isD && isD l[k]) := by
  have e : k + 1 - f = (k - f) + 1 := by omega
  have hl : k - f < (l.drop f).length := by rw [List.length_drop]; omega
  rw [e, all_take _ _ hl, List.getElem_drop]
  congr 3
  omega


set_option maxHeartbeats 1000000 in
theorem refForm0_calls (s : ByteArray) (w : World) (hs : s.size ≤ 9223372036854775807) (l : List UInt8) (hl : l = s.data.toList) (hpos : 0 < s.size) (tA : ((s[0].toNat : Int) == 45) = false) (hmd : mag l = l.drop 0) :
    Calls Tryd.prog 46 #[.string s] w fun e w' => e = .returned (.bool (formB l)) ∧ w = w' := by
  have hsz : s.size = l.length := by rw [hl]; exact Lib.size_eq s
  have hidx : ∀ k (hk : k < s.size) (hk2 : k < l.length), l[k] = s[k] := fun k hk hk2 => by subst hl; rfl
  have tz : decide ((0 : Int) < (s.size : Int)) = true := by simp; omega
  have tC : decide ((s.size : Int) ≤ 0) = false := decide_eq_false (by omega)
  have hE : ¬ s = ByteArray.empty := fun e => by rw [e] at hpos; exact absurd hpos (by decide)
  have hne : mag l ≠ [] := by rw [hmd]; intro e; have := congrArg List.length e; rw [List.length_drop, List.length_nil] at this; omega
  have hhd : (mag l).head? = some s[0] := by
    rw [hmd, List.head?_drop, List.getElem?_eq_getElem (by omega), hidx 0 (by omega) (by omega)]
  by_cases h48 : s[0].toNat = 48 ∧ 1 < s.size
  · have hf : formB l = false := form_not l (by rw [hhd]; exact congrArg some (UInt8.toNat_inj.1 h48.1)) (by omega)
    rw [hf]
    obtain ⟨g1, g2⟩ := h48
    have tB : decide ((1 : Int) < (s.size : Int)) = true := by simp; omega
    have t48 : ((s[0].toNat : Int) == 48) = true := by simp; omega
    clear hf hmd hidx hsz hl hne hhd g1
    go_enter Tryd.func46, Tryd.ntmps46
    go_wp2
    go_ret
    exact ⟨rfl, rfl⟩
  have HF := Lib.hid (form_of l hne (fun h => h48 ⟨by have := h.1; rw [hhd] at this; rw [Option.some.inj this]; rfl, by omega⟩))
  rw [hmd] at HF
  have HI := Lib.hid hidx
  have HZ := Lib.hid hsz
  clear hidx hsz hl hne hhd hmd
  by_cases hz : s[0].toNat = 48
  · have hno : ¬ 1 < s.size := fun h => h48 ⟨hz, h⟩
    have tB : decide ((1 : Int) < (s.size : Int)) = false := by simp; omega
    have t48 : ((s[0].toNat : Int) == 48) = true := by simp; omega
    clear h48 hz
    go_enter Tryd.func46, Tryd.ntmps46
    go_wp2
    go_loop [4] (fun i => ∃ k : Nat, 0 ≤ k ∧ k ≤ s.size ∧ i = .int .i64 k ∧ Hid (((l.drop 0).take (k - 0)).all isD = true)) (fun i => s.size - (intOf i).toNat)
    case atStart => exact ⟨0, Nat.le_refl _, by omega, rfl, Lib.hid (by rw [Nat.sub_self]; rfl)⟩
    case round =>
      obtain ⟨k, hfk, hk, rfl, HA⟩ := hrel
      by_cases hlt : k < s.size
      · have hkl : k < l.length := by rw [← HZ.out]; exact hlt
        have HT := Lib.hid (all_drop_take l 0 k hkl hfk)
        have HC : Hid (l[k] = s[k]) := Lib.hid (HI.out k hlt hkl)
        by_cases hdig : 48 ≤ s[k].toNat ∧ s[k].toNat ≤ 57
        · obtain ⟨g1, g2⟩ := hdig
          have HN : Hid (((l.drop 0).take (k + 1 - 0)).all isD = true) := Lib.hid (by rw [HT.out, HA.out, HC.out]; simp [isD, g1, g2])
          have t1 : decide ((s[k].toNat : Int) < 48) = false := by simp; omega
          have t2 : decide ((57 : Int) < (s[k].toNat : Int)) = false := by simp; omega
          clear HC g1 g2
          go_wp2
          go_round
          case rel => exact ⟨k + 1, by omega, by omega, by go_num, HN⟩
          case measure => simp [intOf]; omega
        · have HD : Hid ((l.drop 0).all isD = false) := Lib.hid (all_dead (l.drop 0) (k - 0) (by rw [List.length_drop]; omega) (by
            have e : (l.drop 0)[k - 0]'(by rw [List.length_drop]; omega) = s[k] := by
              rw [List.getElem_drop, ← HC.out]; congr 1; omega
            rw [e]; unfold isD; simpa using hdig))
          by_cases hlow : s[k].toNat < 48
          · have t1 : decide ((s[k].toNat : Int) < 48) = true := by simp; omega
            clear HC hdig hlow
            go_wp2
            go_ret
            rw [HF.out, HD.out]
            exact ⟨rfl, rfl⟩
          · have t1 : decide ((s[k].toNat : Int) < 48) = false := by simp; omega
            have t2 : decide ((57 : Int) < (s[k].toNat : Int)) = true := by simp; omega
            clear HC hdig hlow
            go_wp2
            go_ret
            rw [HF.out, HD.out]
            exact ⟨rfl, rfl⟩
      · have HX : Hid ((l.drop 0).all isD = true) := Lib.hid (by have := HA.out; rwa [List.take_of_length_le (by rw [List.length_drop, ← HZ.out]; omega)] at this)
        go_wp2
        go_ret
        rw [HF.out, HX.out]
        exact ⟨rfl, rfl⟩
  · have t48 : ((s[0].toNat : Int) == 48) = false := by rw [beq_eq_false_iff_ne]; omega
    clear h48 hz
    go_enter Tryd.func46, Tryd.ntmps46
    go_wp2
    go_loop [4] (fun i => ∃ k : Nat, 0 ≤ k ∧ k ≤ s.size ∧ i = .int .i64 k ∧ Hid (((l.drop 0).take (k - 0)).all isD = true)) (fun i => s.size - (intOf i).toNat)
    case atStart => exact ⟨0, Nat.le_refl _, by omega, rfl, Lib.hid (by rw [Nat.sub_self]; rfl)⟩
    case round =>
      obtain ⟨k, hfk, hk, rfl, HA⟩ := hrel
      by_cases hlt : k < s.size
      · have hkl : k < l.length := by rw [← HZ.out]; exact hlt
        have HT := Lib.hid (all_drop_take l 0 k hkl hfk)
        have HC : Hid (l[k] = s[k]) := Lib.hid (HI.out k hlt hkl)
        by_cases hdig : 48 ≤ s[k].toNat ∧ s[k].toNat ≤ 57
        · obtain ⟨g1, g2⟩ := hdig
          have HN : Hid (((l.drop 0).take (k + 1 - 0)).all isD = true) := Lib.hid (by rw [HT.out, HA.out, HC.out]; simp [isD, g1, g2])
          have t1 : decide ((s[k].toNat : Int) < 48) = false := by simp; omega
          have t2 : decide ((57 : Int) < (s[k].toNat : Int)) = false := by simp; omega
          clear HC g1 g2
          go_wp2
          go_round
          case rel => exact ⟨k + 1, by omega, by omega, by go_num, HN⟩
          case measure => simp [intOf]; omega
        · have HD : Hid ((l.drop 0).all isD = false) := Lib.hid (all_dead (l.drop 0) (k - 0) (by rw [List.length_drop]; omega) (by
            have e : (l.drop 0)[k - 0]'(by rw [List.length_drop]; omega) = s[k] := by
              rw [List.getElem_drop, ← HC.out]; congr 1; omega
            rw [e]; unfold isD; simpa using hdig))
          by_cases hlow : s[k].toNat < 48
          · have t1 : decide ((s[k].toNat : Int) < 48) = true := by simp; omega
            clear HC hdig hlow
            go_wp2
            go_ret
            rw [HF.out, HD.out]
            exact ⟨rfl, rfl⟩
          · have t1 : decide ((s[k].toNat : Int) < 48) = false := by simp; omega
            have t2 : decide ((57 : Int) < (s[k].toNat : Int)) = true := by simp; omega
            clear HC hdig hlow
            go_wp2
            go_ret
            rw [HF.out, HD.out]
            exact ⟨rfl, rfl⟩
      · have HX : Hid ((l.drop 0).all isD = true) := Lib.hid (by have := HA.out; rwa [List.take_of_length_le (by rw [List.length_drop, ← HZ.out]; omega)] at this)
        go_wp2
        go_ret
        rw [HF.out, HX.out]
        exact ⟨rfl, rfl⟩

set_option maxHeartbeats 1000000 in
theorem refForm1_calls (s : ByteArray) (w : World) (hs : s.size ≤ 9223372036854775807) (l : List UInt8) (hl : l = s.data.toList) (hpos : 0 < s.size) (tA : ((s[0].toNat : Int) == 45) = true) (hmd : mag l = l.drop 1) :
    Calls Tryd.prog 46 #[.string s] w fun e w' => e = .returned (.bool (formB l)) ∧ w = w' := by
  have hsz : s.size = l.length := by rw [hl]; exact Lib.size_eq s
  have hidx : ∀ k (hk : k < s.size) (hk2 : k < l.length), l[k] = s[k] := fun k hk hk2 => by subst hl; rfl
  have tz : decide ((0 : Int) < (s.size : Int)) = true := by simp; omega
  by_cases hone : s.size ≤ 1
  · have hf : formB l = false := by
      have : mag l = [] := by rw [hmd]; exact List.drop_eq_nil_of_le (by omega)
      unfold formB; rw [this]; rfl
    rw [hf]
    have tC : decide ((s.size : Int) ≤ 1) = true := by simp; omega
    clear hf hmd hidx hsz hl
    go_enter Tryd.func46, Tryd.ntmps46
    go_wp2
    go_ret
    exact ⟨rfl, rfl⟩
  have hbig : 1 < s.size := by omega
  have tC : decide ((s.size : Int) ≤ 1) = false := by simp; omega
  clear hone
  have hne : mag l ≠ [] := by rw [hmd]; intro e; have := congrArg List.length e; rw [List.length_drop, List.length_nil] at this; omega
  have hhd : (mag l).head? = some s[1] := by
    rw [hmd, List.head?_drop, List.getElem?_eq_getElem (by omega), hidx 1 (by omega) (by omega)]
  by_cases h48 : s[1].toNat = 48 ∧ 1 < s.size
  · have hf : formB l = false := form_not l (by rw [hhd]; exact congrArg some (UInt8.toNat_inj.1 h48.1)) (by omega)
    rw [hf]
    obtain ⟨g1, g2⟩ := h48
    have tB : decide ((1 : Int) < (s.size : Int)) = true := by simp; omega
    have t48 : ((s[1].toNat : Int) == 48) = true := by simp; omega
    clear hf hmd hidx hsz hl hne hhd g1
    go_enter Tryd.func46, Tryd.ntmps46
    go_wp2
    go_ret
    exact ⟨rfl, rfl⟩
  have HF := Lib.hid (form_of l hne (fun h => h48 ⟨by have := h.1; rw [hhd] at this; rw [Option.some.inj this]; rfl, by omega⟩))
  rw [hmd] at HF
  have HI := Lib.hid hidx
  have HZ := Lib.hid hsz
  clear hidx hsz hl hne hhd hmd
  by_cases hz : s[1].toNat = 48
  · have hno : ¬ 1 < s.size := fun h => h48 ⟨hz, h⟩
    have tB : decide ((1 : Int) < (s.size : Int)) = false := by simp; omega
    have t48 : ((s[1].toNat : Int) == 48) = true := by simp; omega
    exact absurd hbig hno
  · have t48 : ((s[1].toNat : Int) == 48) = false := by rw [beq_eq_false_iff_ne]; omega
    clear h48 hz
    go_enter Tryd.func46, Tryd.ntmps46
    go_wp2
    go_loop [4] (fun i => ∃ k : Nat, 1 ≤ k ∧ k ≤ s.size ∧ i = .int .i64 k ∧ Hid (((l.drop 1).take (k - 1)).all isD = true)) (fun i => s.size - (intOf i).toNat)
    case atStart => exact ⟨1, Nat.le_refl _, by omega, rfl, Lib.hid (by rw [Nat.sub_self]; rfl)⟩
    case round =>
      obtain ⟨k, hfk, hk, rfl, HA⟩ := hrel
      by_cases hlt : k < s.size
      · have hkl : k < l.length := by rw [← HZ.out]; exact hlt
        have HT := Lib.hid (all_drop_take l 1 k hkl hfk)
        have HC : Hid (l[k] = s[k]) := Lib.hid (HI.out k hlt hkl)
        by_cases hdig : 48 ≤ s[k].toNat ∧ s[k].toNat ≤ 57
        · obtain ⟨g1, g2⟩ := hdig
          have HN : Hid (((l.drop 1).take (k + 1 - 1)).all isD = true) := Lib.hid (by rw [HT.out, HA.out, HC.out]; simp [isD, g1, g2])
          have t1 : decide ((s[k].toNat : Int) < 48) = false := by simp; omega
          have t2 : decide ((57 : Int) < (s[k].toNat : Int)) = false := by simp; omega
          clear HC g1 g2
          go_wp2
          go_round
          case rel => exact ⟨k + 1, by omega, by omega, by go_num, HN⟩
          case measure => simp [intOf]; omega
        · have HD : Hid ((l.drop 1).all isD = false) := Lib.hid (all_dead (l.drop 1) (k - 1) (by rw [List.length_drop]; omega) (by
            have e : (l.drop 1)[k - 1]'(by rw [List.length_drop]; omega) = s[k] := by
              rw [List.getElem_drop, ← HC.out]; congr 1; omega
            rw [e]; unfold isD; simpa using hdig))
          by_cases hlow : s[k].toNat < 48
          · have t1 : decide ((s[k].toNat : Int) < 48) = true := by simp; omega
            clear HC hdig hlow
            go_wp2
            go_ret
            rw [HF.out, HD.out]
            exact ⟨rfl, rfl⟩
          · have t1 : decide ((s[k].toNat : Int) < 48) = false := by simp; omega
            have t2 : decide ((57 : Int) < (s[k].toNat : Int)) = true := by simp; omega
            clear HC hdig hlow
            go_wp2
            go_ret
            rw [HF.out, HD.out]
            exact ⟨rfl, rfl⟩
      · have HX : Hid ((l.drop 1).all isD = true) := Lib.hid (by have := HA.out; rwa [List.take_of_length_le (by rw [List.length_drop, ← HZ.out]; omega)] at this)
        go_wp2
        go_ret
        rw [HF.out, HX.out]
        exact ⟨rfl, rfl⟩

theorem refForm_calls (s : ByteArray) (w : World) (hs : s.size ≤ 9223372036854775807) :
    Calls Tryd.prog 46 #[.string s] w fun e w' => e = .returned (.bool (formB s.data.toList)) ∧ w = w' := by
  by_cases hz : s.size = 0
  · obtain rfl : s = ⟨#[]⟩ := by
      obtain ⟨⟨d⟩⟩ := s
      have : d = [] := List.length_eq_zero_iff.1 hz
      rw [this]
    rw [show formB (⟨#[]⟩ : ByteArray).data.toList = false from rfl]
    go_enter Tryd.func46, Tryd.ntmps46
    go_wp2
    go_ret
    exact ⟨rfl, rfl⟩
  · have hpos : 0 < s.size := by omega
    have hmd := mag_drop s.data.toList
    have hhead : s.data.toList.head? = some s[0] := by
      rw [List.head?_eq_getElem?, List.getElem?_eq_getElem (by rw [← Lib.size_eq]; exact hpos)]; rfl
    by_cases hc : s[0] = 45
    · have hfr : fromOf s.data.toList = 1 := by unfold fromOf; rw [hhead, hc, if_pos rfl]
      rw [hfr] at hmd
      exact refForm1_calls s w hs _ rfl hpos (by rw [hc]; rfl) hmd
    · have hfr : fromOf s.data.toList = 0 := by unfold fromOf; rw [hhead, if_neg (fun e => hc (Option.some.inj e))]
      rw [hfr] at hmd
      refine refForm0_calls s w hs _ rfl hpos ?_ hmd
      rw [beq_eq_false_iff_ne]
      intro e
      exact hc (UInt8.toNat_inj.1 (by have : (45 : UInt8).toNat = 45 := rfl; omega))
end Go.Proofs.YtmpoloninpakbaaDoor
