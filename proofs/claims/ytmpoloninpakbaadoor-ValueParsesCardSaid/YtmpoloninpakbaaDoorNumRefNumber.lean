/- What the reference's Number does with any text: the number, or the error. -/
import Derived.Test.YtmpoloninpakbaaDoorNumRefForm
import Derived.Test.YtmpoloninpakbaaDoorNumRefMul
namespace Go.Proofs.YtmpoloninpakbaaDoor
open Go.RowKit

theorem dv_drop_take (l : List UInt8) (f k : Nat) (h : k < l.length) (hf : f ≤ k) : dv 0 ((l.drop f).take (k + 1 - f)) = dv 0 ((l.drop f).take (k - f)) * 10 + (l[k].toNat - 48) := by
  have e : k + 1 - f = (k - f) + 1 := by omega
  have hl : k - f < (l.drop f).length := by rw [List.length_drop]; omega
  have e2 : (l.drop f)[k - f] = l[k] := by rw [List.getElem_drop]; congr 1; omega
  rw [e, List.take_succ_eq_append_getElem hl, dv_snoc, e2]
theorem digit_in (l : List UInt8) (f k : Nat) (h : k < l.length) (hf : f ≤ k) (hd : (l.drop f).all isD = true) : 48 ≤ l[k].toNat ∧ l[k].toNat ≤ 57 := by
  have hl : k - f < (l.drop f).length := by rw [List.length_drop]; omega
  have e2 : (l.drop f)[k - f] = l[k] := by rw [List.getElem_drop]; congr 1; omega
  have := List.all_eq_true.1 hd _ (List.getElem_mem hl)
  rw [e2] at this
  simpa [isD] using this
/-- Where the digits so far go over, the whole text is told so. -/
theorem pn_over (l : List UInt8) (h : formB l = true) (k : Nat) (hk : 9223372036854775808 < dv 0 ((mag l).take k)) : pn l = 0 ∧ pe l = 5 := by
  have hle := dv_take_le (mag l) k
  have hno : ¬ (-9223372036854775808 ≤ vl l ∧ vl l ≤ 9223372036854775807) := by
    unfold vl; split <;> omega
  unfold pn pe
  rw [if_pos h, if_pos h, tn_no hno, tb_no hno]
  exact ⟨rfl, rfl⟩
theorem pn_end (l : List UInt8) (h : formB l = true) : pn l = tn (vl l) ∧ pe l = (if tb (vl l) = true then 0 else 5) := by
  unfold pn pe; rw [if_pos h, if_pos h]; exact ⟨rfl, rfl⟩

set_option maxHeartbeats 1000000 in
theorem refNumber_calls (s : ByteArray) (w : World) (hs : s.size ≤ 9223372036854775807) :
    Calls Tryd.prog 31 #[.string s] w fun e w' => e = .returned (.tuple #[.int .i64 (pn s.data.toList), .int .i64 (pe s.data.toList)]) ∧ w = w' := by
  have c1 := refForm_calls s w hs
  have hsz := Lib.size_eq s
  obtain ⟨l, hl⟩ : ∃ l, l = s.data.toList := ⟨_, rfl⟩
  rw [← hl] at hsz c1 ⊢
  by_cases hform : formB l = true
  · rw [hform] at c1
    have H1 := Lib.hid c1
    obtain ⟨hne, hdig⟩ := form_digits hform
    have hmd := mag_drop l
    have hpos : 0 < s.size := by
      rw [hsz]
      rcases Nat.eq_zero_or_pos l.length with h0 | h0
      · rw [List.length_eq_zero_iff.1 h0] at hne; exact absurd rfl hne
      · exact h0
    have hidx : ∀ k (hk : k < s.size) (hk2 : k < l.length), l[k] = s[k] := fun k hk hk2 => by subst hl; rfl
    have hhead : l.head? = some s[0] := by
      rw [List.head?_eq_getElem?, List.getElem?_eq_getElem (by omega), hidx 0 hpos (by omega)]
    have hOver := Lib.hid (pn_over l hform)
    have hEnd := Lib.hid (pn_end l hform)
    obtain ⟨f, hf⟩ : ∃ f, f = fromOf l := ⟨_, rfl⟩
    have hf1 : f ≤ 1 := by rw [hf]; exact fromOf_le l
    rw [← hf] at hmd
    rw [hmd] at hOver hdig
    have HV : Hid (vl l = if f = 1 then -(dv 0 (l.drop f) : Int) else (dv 0 (l.drop f) : Int)) := by
      refine Lib.hid ?_
      unfold vl; rw [hmd, hf]; unfold fromOf
      by_cases hc : l.head? = some 45
      · rw [if_pos hc, if_pos hc]; rfl
      · rw [if_neg hc, if_neg hc]; rfl
    have hs0 : (f = 1 ∧ ((s[0].toNat : Int) == 45) = true) ∨ (f = 0 ∧ ((s[0].toNat : Int) == 45) = false) := by
      rw [hf]; unfold fromOf; rw [hhead]
      by_cases hc : s[0] = 45
      · left; rw [hc]; exact ⟨rfl, rfl⟩
      · right
        refine ⟨if_neg (fun e => hc (Option.some.inj e)), ?_⟩
        rw [beq_eq_false_iff_ne]
        intro e
        exact hc (UInt8.toNat_inj.1 (by have : (45 : UInt8).toNat = 45 := rfl; omega))
    have HS := Lib.hid hs0
    have HI := Lib.hid hidx
    have HZ := Lib.hid hsz
    have HD := Lib.hid hdig
    clear hs0 hidx hsz hdig hmd hf hhead hne hform c1 hl
    go_enter Tryd.func31, Tryd.ntmps31
    go_wp2_with (go_at_call 46; refine H1.out.mono ?_; rintro e w' ⟨rfl, rfl⟩)
    go_loop [4, 5] (fun n i => ∃ (k : Nat) (x : Int), k ≤ s.size ∧ i = .int .i64 k ∧ n = .int .i64 x ∧ Hid (x = -(dv 0 ((l.drop f).take (k - f)) : Int) ∧ -9223372036854775808 ≤ x ∧ x ≤ 0)) (fun _ i => s.size - (intOf i).toNat)
    case atStart => exact ⟨0, 0, Nat.zero_le _, rfl, rfl, Lib.hid ⟨by rw [Nat.zero_sub]; rfl, by omega, by omega⟩⟩
    case round =>
      obtain ⟨k, x, hk, rfl, rfl, HX⟩ := hrel
      obtain ⟨x1, x2⟩ := HX.out.2
      by_cases hlt : k < s.size
      · by_cases hkf : k < f
        · have t45 : ((s[k].toNat : Int) == 45) = true := by
            have h0 : k = 0 := by omega
            subst h0
            rcases HS.out with ⟨_, h⟩ | ⟨h, _⟩
            · exact h
            · omega
          have HN : Hid (x = -(dv 0 ((l.drop f).take (k + 1 - f)) : Int) ∧ -9223372036854775808 ≤ x ∧ x ≤ 0) := by
            refine Lib.hid ⟨?_, x1, x2⟩
            rw [show k + 1 - f = k - f by omega]; exact HX.out.1
          clear HX hkf
          go_wp2_with fail
          go_round
          case rel => exact ⟨k + 1, x, by omega, by go_num, rfl, HN⟩
          case measure => simp [intOf]; omega
        · have hfk : f ≤ k := by omega
          have hkl : k < l.length := by rw [← HZ.out]; exact hlt
          have hc := digit_in l f k hkl hfk HD.out
          rw [HI.out k hlt hkl] at hc
          obtain ⟨c1, c2⟩ := hc
          have hstep := dv_drop_take l f k hkl hfk
          rw [HI.out k hlt hkl] at hstep
          have HO : Hid (9223372036854775808 < dv 0 ((l.drop f).take (k + 1 - f)) → pn l = 0 ∧ pe l = 5) := Lib.hid (fun h => hOver.out _ h)
          obtain ⟨D, hD⟩ : ∃ D, D = dv 0 ((l.drop f).take (k - f)) := ⟨_, rfl⟩
          obtain ⟨D2, hD2⟩ : ∃ D, D = dv 0 ((l.drop f).take (k + 1 - f)) := ⟨_, rfl⟩
          have hxD := HX.out.1
          rw [← hD] at hxD hstep
          rw [← hD2] at hstep HO
          have t45 : ((s[k].toNat : Int) == 45) = false := by rw [beq_eq_false_iff_ne]; omega
          have m1 := refMul_calls x 10 w ⟨x1, by omega⟩ ⟨by omega, by omega⟩
          have hb8 : s[k].toNat ≤ 255 := by omega
          by_cases hm : -9223372036854775808 ≤ x * 10 ∧ x * 10 ≤ 9223372036854775807
          · rw [tn_yes hm.1 hm.2, tb_yes hm.1 hm.2] at m1
            have m2 := refSub_calls (x * 10) ((s[k].toNat : Int) - 48) w hm ⟨by omega, by omega⟩
            by_cases hq : -9223372036854775808 ≤ x * 10 - ((s[k].toNat : Int) - 48) ∧ x * 10 - ((s[k].toNat : Int) - 48) ≤ 9223372036854775807
            · rw [tn_yes hq.1 hq.2, tb_yes hq.1 hq.2] at m2
              obtain ⟨y, hy⟩ : ∃ y, y = x * 10 - ((s[k].toNat : Int) - 48) := ⟨_, rfl⟩
              rw [← hy] at m2 hq
              have HN : Hid (y = -(dv 0 ((l.drop f).take (k + 1 - f)) : Int) ∧ -9223372036854775808 ≤ y ∧ y ≤ 0) := by
                refine Lib.hid ⟨?_, hq.1, by omega⟩
                rw [← hD2]; omega
              have M1 := Lib.hid m1
              have M2 := Lib.hid m2
              clear HX hkf hfk hD hD2 hxD hstep HO m1 m2 hm hq hy hkl
              go_wp2_with (first
                | (go_at_call 47; refine M1.out.mono ?_; rintro e w' ⟨rfl, rfl⟩)
                | (go_at_call 48; refine M2.out.mono ?_; rintro e w' ⟨rfl, rfl⟩))
              go_round
              case rel => exact ⟨k + 1, y, by omega, by go_num, rfl, HN⟩
              case measure => simp [intOf]; omega
            · have HE := Lib.hid (HO.out (by omega))
              rw [tb_no hq] at m2
              have M1 := Lib.hid m1
              have M2 := Lib.hid m2
              clear HX hkf hfk hD hD2 hxD hstep HO m1 m2 hm hq hkl
              go_wp2_with (first
                | (go_at_call 47; refine M1.out.mono ?_; rintro e w' ⟨rfl, rfl⟩)
                | (go_at_call 48; refine M2.out.mono ?_; rintro e w' ⟨rfl, rfl⟩))
              go_ret2
              rw [HE.out.1, HE.out.2]
              exact ⟨rfl, rfl⟩
          · have HE := Lib.hid (HO.out (by omega))
            rw [tn_no hm, tb_no hm] at m1
            have m2 := refSub_calls 0 ((s[k].toNat : Int) - 48) w ⟨by omega, by omega⟩ ⟨by omega, by omega⟩
            have M1 := Lib.hid m1
            have M2 := Lib.hid m2
            clear HX hkf hfk hD hD2 hxD hstep HO m1 m2 hm hkl
            go_wp2_with (first
              | (go_at_call 47; refine M1.out.mono ?_; rintro e w' ⟨rfl, rfl⟩)
              | (go_at_call 48; refine M2.out.mono ?_; rintro e w' ⟨rfl, rfl⟩))
            go_ret2
            rw [HE.out.1, HE.out.2]
            exact ⟨rfl, rfl⟩
      · have hx : x = -(dv 0 (l.drop f) : Int) := by
          have := HX.out.1
          rwa [List.take_of_length_le (by rw [List.length_drop, ← HZ.out]; omega)] at this
        have hv := HV.out
        rcases HS.out with ⟨hf, t0⟩ | ⟨hf, t0⟩
        · rw [if_pos hf, ← hx] at hv
          have HE : Hid (pn l = x ∧ pe l = 0) := by
            refine Lib.hid ?_
            rw [hEnd.out.1, hEnd.out.2, hv, tn_yes x1 (by omega), tb_yes x1 (by omega)]
            exact ⟨rfl, rfl⟩
          clear HX hx hv hf
          go_wp2_with fail
          go_ret2
          rw [HE.out.1, HE.out.2]
          exact ⟨rfl, rfl⟩
        · rw [if_neg (by omega)] at hv
          have hv2 : vl l = -x := by rw [hv, hx]; omega
          have m2 := refSub0_calls x w ⟨x1, by omega⟩
          by_cases hq : -9223372036854775808 ≤ -x ∧ -x ≤ 9223372036854775807
          · rw [tn_yes hq.1 hq.2, tb_yes hq.1 hq.2] at m2
            have M2 := Lib.hid m2
            have HE : Hid (pn l = -x ∧ pe l = 0) := by
              refine Lib.hid ?_
              rw [hEnd.out.1, hEnd.out.2, hv2, tn_yes hq.1 hq.2, tb_yes hq.1 hq.2]
              exact ⟨rfl, rfl⟩
            clear HX hx hv hv2 hf m2 hq
            go_wp2_with (go_at_call 48; refine M2.out.mono ?_; rintro e w' ⟨rfl, rfl⟩)
            go_ret2
            rw [HE.out.1, HE.out.2]
            exact ⟨rfl, rfl⟩
          · rw [tn_no hq, tb_no hq] at m2
            have M2 := Lib.hid m2
            have HE : Hid (pn l = 0 ∧ pe l = 5) := by
              refine Lib.hid ?_
              rw [hEnd.out.1, hEnd.out.2, hv2, tn_no hq, tb_no hq]
              exact ⟨rfl, rfl⟩
            clear HX hx hv hv2 hf m2 hq
            go_wp2_with (go_at_call 48; refine M2.out.mono ?_; rintro e w' ⟨rfl, rfl⟩)
            go_ret2
            rw [HE.out.1, HE.out.2]
            exact ⟨rfl, rfl⟩
  · have hf2 : formB l = false := by simpa using hform
    rw [hf2] at c1
    have H1 := Lib.hid c1
    unfold pn pe
    rw [if_neg hform, if_neg hform]
    clear c1 hform hf2 hl hsz
    go_enter Tryd.func31, Tryd.ntmps31
    go_wp2_with (go_at_call 46; refine H1.out.mono ?_; rintro e w' ⟨rfl, rfl⟩)
    go_ret2
    exact ⟨rfl, rfl⟩
end Go.Proofs.YtmpoloninpakbaaDoor
