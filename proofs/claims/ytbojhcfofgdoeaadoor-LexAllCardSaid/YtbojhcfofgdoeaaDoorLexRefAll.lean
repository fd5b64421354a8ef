/- All tokens of a text, or what is wrong, and where: the reference's All. -/
import Derived.Test.YtbojhcfofgdoeaaDoorLexRefFirst
namespace Go.Proofs.YtbojhcfofgdoeaaDoor
open Go.RowKit
set_option linter.unusedVariables false

theorem infoRk : (Tryd.prog.info? 33).map (fun i => (i.zero, i.size, i.bytes)) = some (some (.agg #[.int .i64 0, .string ⟨#[]⟩, .int .i64 0, .int .i64 0]), 4, 40) := by kernel_rfl
theorem tk_new2 (w : World) (o : Obj) (x : Tk) (T : TypeId) : ∀ j u, (tkC x)[j]? = some u → ((w.alloc o).alloc (.cells #[.int .i64 (x.k : Nat), .string ⟨x.t.toArray⟩, .int .i64 (x.line : Nat), .int .i64 (x.col : Nat)] T)).cell? ((⟨w.heap.size + 1, 0, none⟩ : Addr).add j) = some u := by
  intro j u hj
  have h := tk_new (w.alloc o) x T j u hj
  rwa [World.size_alloc] at h
/-- What the reference's All answers. -/
def RefAllPost (x : Except (Nat × Nat × Nat) (List Tk)) (w : World) (e : Ending) (w' : World) : Prop :=
  (match x with
   | .ok M => ∃ a cap, e = .returned (.tuple #[.slice a M.length cap, .int .i64 0, .int .i64 0, .int .i64 0]) ∧ TkIn w' 33 a M.length M
   | .error (er, l, c) => e = .returned (.tuple #[.slice none 0 0, .int .i64 (er : Nat), .int .i64 (l : Nat), .int .i64 (c : Nat)])) ∧ Below w.heap.size w w'
theorem refA_ok {x : Except (Nat × Nat × Nat) (List Tk)} {M : List Tk} {w w' : World} {e : Ending} (hx : x = .ok M) (h : ∃ a cap, e = .returned (.tuple #[.slice a M.length cap, .int .i64 0, .int .i64 0, .int .i64 0]) ∧ TkIn w' 33 a M.length M) (hb : Below w.heap.size w w') : RefAllPost x w e w' := by
  subst hx; exact ⟨h, hb⟩
theorem refA_no {x : Except (Nat × Nat × Nat) (List Tk)} {er l c : Nat} {w w' : World} {e : Ending} (hx : x = .error (er, l, c)) (he : e = .returned (.tuple #[.slice none 0 0, .int .i64 (er : Nat), .int .i64 (l : Nat), .int .i64 (c : Nat)])) (hb : Below w.heap.size w w') : RefAllPost x w e w' := by
  subst hx; exact ⟨he, hb⟩
theorem word_err {x : List UInt8} {e : Nat} (h : wordT x = .error e) : e ≠ 0 := by
  unfold wordT at h
  repeat' split at h
  all_goals first | (cases h; decide) | cases h
theorem first_err {l : List UInt8} {e : Nat} (h : firstT l = .error e) : e ≠ 0 := by
  unfold firstT at h
  split at h
  · split at h
    · cases h; decide
    · split at h
      · cases h; decide
      · cases h
  · split at h
    · split at h
      · cases h; decide
      · cases h
    · exact word_err h
def intN : Value → Nat
  | .int _ k => k.toNat
  | _ => 0

set_option maxHeartbeats 8000000 in
set_option maxRecDepth 100000 in
theorem refLexAll_calls (s : ByteArray) (w : World) (hs : s.size ≤ 4294967296) :
    Calls Tryd.prog 8 #[.string s] w (RefAllPost (tokL s.data.toList) w) := by
  obtain ⟨l0, hl0⟩ : ∃ l0, l0 = s.data.toList := ⟨_, rfl⟩
  have hlen : s.size = l0.length := by rw [hl0, cs_size]
  rw [← hl0]
  have HL0 := Lib.hid hl0
  by_cases hbig : 65536 < s.size
  case pos =>
    have t1 : decide ((65536 : Int) < (s.size : Int)) = true := by rw [decide_eq_true_eq]; omega
    have HV : Hid (tokL l0 = .error (3, 1, 1)) := Lib.hid (by rw [tokL, if_pos (by omega)])
    clear hl0 hlen hbig
    go_enter Tryd.func8, Tryd.ntmps8
    go_wp2_with fail
    exact bodyPost_ret (cs_result4 rfl _ _ _) rfl (refA_no HV.out rfl (Below.refl _ _))
  case neg =>
  have t1 : decide ((65536 : Int) < (s.size : Int)) = false := by rw [decide_eq_false_iff_not]; omega
  have hs6 : s.size ≤ 65536 := by omega
  have HV : Hid (tokL l0 = tokT l0 (1, 1)) := Lib.hid (by rw [tokL, if_neg (by omega)])
  have HX0 : Hid (tokX l0 [] (l0.drop 0) (1, 1)) := Lib.hid (by rw [List.drop_zero]; exact tokX_zero _)
  have HLn := Lib.hid hlen
  obtain ⟨i0, hi, hz0, hz1, hz2⟩ := cs_parts infoRk
  have HI := Lib.hid hi
  have HZ0 := Lib.hid hz0
  have HZ1 := Lib.hid hz1
  have HZ2 := Lib.hid hz2
  have HB0 := Lib.hid (Below.refl w.heap.size w)
  clear hl0 hlen hi hz0 hz1 hz2 hbig hs
  go_enter Tryd.func8, Tryd.ntmps8
  go_wp2_with fail
  go_loopw [6, 7, 8, 9] (fun o vl vc va wr => ∃ (M : List Tk) (q pl pc : Nat), q ≤ s.size ∧ va = .int .i64 q ∧ vl = .int .i64 pl ∧ vc = .int .i64 pc ∧ M.length ≤ q ∧ pl ≤ 1 + q ∧ pc ≤ 1 + q ∧ 1 ≤ pc ∧ Hid (tokX l0 M (l0.drop q) (pl, pc)) ∧ Hid (wr.ownsRow w.heap.size 33 4 o M.length (tkCs M)) ∧ Hid (Below w.heap.size w wr)) (fun _ _ _ va _ => s.size - intN va)
  case atStart => exact ⟨[], 0, 1, 1, Nat.zero_le _, rfl, rfl, rfl, Nat.le_refl _, by omega, by omega, Nat.le_refl _, HX0, Lib.hid (World.ownsRow_nil _ _ _ _), HB0⟩
  case round =>
    clear HX0 HB0 t1
    obtain ⟨M, q, pl, pc, hq, rfl, rfl, rfl, hM, hpl, hpc, hpc1, HX, HO, HB⟩ := hrel
    obtain ⟨oa, oc, rfl⟩ := cs_own HO.out
    obtain ⟨m, hm⟩ : ∃ m, m = M.length := ⟨_, rfl⟩
    rw [← hm] at HO hM ⊢
    have HM := Lib.hid hm
    obtain ⟨x, hx⟩ : ∃ x, x = s.extract q s.size := ⟨_, rfl⟩
    have hxl : x.data.toList = l0.drop q := by rw [hx, cs_drop, ← HL0.out]
    have hxs : x.size = s.size - q := by rw [hx, lx_drop_len]
    obtain ⟨k, hk⟩ : ∃ k, k = blankN (l0.drop q) false := ⟨_, rfl⟩
    have hkx : k ≤ x.size := by rw [hk, cs_size, hxl]; exact blank_le _ _
    have HG := Lib.hid (fun w1 => lxBlank_calls x w1 (by omega))
    rw [hxl, ← hk, hx] at HG
    have hkq : q + k ≤ s.size := by omega
    have HK := Lib.hid hk
    clear hk hm hxl hxs hkx hx x
    go_wp2_with fail
    refine (HG.out _).mono ?_
    rintro e w1 ⟨rfl, hw1⟩
    subst hw1
    go_wp2_with fail
    go_loopw [7, 8, 11] (fun vl vc vi w1 => ∃ (d ll cc : Nat), d ≤ k ∧ vi = .int .i64 ((q + d : Nat)) ∧ vl = .int .i64 ll ∧ vc = .int .i64 cc ∧ ll ≤ pl + d ∧ cc ≤ pc + d ∧ 1 ≤ cc ∧ Hid ((ll, cc) = adv ((l0.drop q).take d) (pl, pc)) ∧ wr = w1) (fun _ _ vi _ => q + k - intN vi)
    case atStart => exact ⟨0, pl, pc, Nat.zero_le _, rfl, rfl, rfl, Nat.le_refl _, Nat.le_refl _, hpc1, Lib.hid rfl, rfl⟩
    case round =>
      obtain ⟨d, ll, cc, hd, rfl, rfl, rfl, hll, hcc, hcc1, HA, rfl⟩ := hrel
      by_cases hdk : d < k
      case pos =>
        obtain ⟨i, hi⟩ : ∃ i, i = q + d := ⟨_, rfl⟩
        have his : i < s.size := by omega
        have hat : (l0.drop q)[d]? = some s[i] := by rw [List.getElem?_drop, ← hi, HL0.out]; exact cs_at s i his
        have b10 := cs_beq s[i] 10 (by omega)
        have hti : decide (q + d < q + k) = true := by simpa using hdk
        have hti2 : decide (i < q + k) = true := by rw [hi]; exact hti
        have hI := Lib.hid hi
        have hAm := adv_more hat (pl, pc)
        rw [← HA.out] at hAm
        simp only at hAm
        rw [← hi]
        by_cases h10 : s[i] = 10
        · have HA2 : Hid ((ll + 1, 1) = adv ((l0.drop q).take (d + 1)) (pl, pc)) := Lib.hid (by rw [hAm, if_pos h10])
          have t10 : ((s[i].toNat : Int) == 10) = true := b10.trans (by rw [h10]; rfl)
          have hik : i + 1 = q + (d + 1) := by omega
          have hIK := Lib.hid hik
          have hb1 : i + 1 ≤ 65536 := by omega
          have hb2 : i < q + k := by omega
          clear b10 hat hAm h10 hi hti hik
          go_wp2_with fail
          go_roundw
          case rel => exact ⟨d + 1, ll + 1, 1, hdk, by rw [← hIK.out]; go_num, by go_num, rfl, by omega, by omega, Nat.le_refl _, HA2, trivial⟩
          case measure => have := hI.out; simp [intN]; omega
        · have HA2 : Hid ((ll, cc + 1) = adv ((l0.drop q).take (d + 1)) (pl, pc)) := Lib.hid (by rw [hAm, if_neg h10])
          have t10 : ((s[i].toNat : Int) == 10) = false := b10.trans (by simpa using h10)
          have hik : i + 1 = q + (d + 1) := by omega
          have hIK := Lib.hid hik
          have hb1 : i + 1 ≤ 65536 := by omega
          have hb2 : i < q + k := by omega
          clear b10 hat hAm h10 hi hti hik
          go_wp2_with fail
          go_roundw
          case rel => exact ⟨d + 1, ll, cc + 1, hdk, by rw [← hIK.out]; go_num, rfl, by go_num, by omega, by omega, by omega, HA2, trivial⟩
          case measure => have := hI.out; simp [intN]; omega
      case neg =>
        obtain rfl : d = k := by omega
        have hti : decide (q + d < q + d) = false := by simp
        have HD2 : Hid (((l0.drop q).drop (blankN (l0.drop q) false) = l0.drop (q + d)) ∧ adv ((l0.drop q).take (blankN (l0.drop q) false)) (pl, pc) = (ll, cc)) := Lib.hid ⟨by rw [← HK.out, List.drop_drop], by rw [← HK.out]; exact HA.out.symm⟩
        by_cases hend : q + d = s.size
        case pos =>
          have HR : Hid (tokL l0 = .ok M) := Lib.hid (by
            rw [HV.out]
            refine tokX_end HX.out (stepT_none ?_)
            rw [HD2.out.1, hend, HLn.out]
            exact List.drop_eq_nil_iff.2 (Nat.le_refl _))
          have hte : ((q : Int) + (d : Int) == (s.size : Int)) = true := by rw [beq_iff_eq]; omega
          clear hend HD2
          go_wp2_with fail
          refine bodyPost_ret (cs_result4 rfl _ _ _) rfl ?_
          obtain ⟨a2, c2, e2, hin⟩ := own_tkin (by rw [← HM.out]; exact HO.out)
          rw [← HM.out] at e2
          cases e2
          exact refA_ok HR.out ⟨oa, oc, by rw [← HM.out]; rfl, hin⟩ HB.out
        case neg =>
          have hte : ((q : Int) + (d : Int) == (s.size : Int)) = false := by rw [beq_eq_false_iff_ne]; omega
          have HD : Hid ((l0.drop q).drop (blankN (l0.drop q) false) ≠ []) := Lib.hid (by
            rw [HD2.out.1]
            intro e
            have := List.drop_eq_nil_iff.1 e
            rw [← HLn.out] at this
            omega)
          obtain ⟨l2, hl2⟩ : ∃ l2, l2 = l0.drop (q + d) := ⟨_, rfl⟩
          rw [← hl2] at HD2
          have hxl : (s.extract (q + d) s.size).data.toList = l2 := by rw [cs_drop, ← HL0.out, hl2]
          have hxs : (s.extract (q + d) s.size).size = s.size - (q + d) := lx_drop_len _ _
          have HFst := Lib.hid (fun w1 => refFirst_calls (s.extract (q + d) s.size) w1 (by omega) (by omega))
          rw [hxl] at HFst
          have hl2s : l2.length = s.size - (q + d) := by rw [← hxl, ← cs_size, hxs]
          have HL2 := Lib.hid hl2
          clear hend hxl hxs hl2
          cases hf : firstT l2 with
          | error er =>
            rw [hf] at HFst
            have hne := first_err hf
            have HE : Hid (tokL l0 = .error (er, ll, cc)) := Lib.hid (by
              rw [HV.out]
              have h := tokX_bad HX.out (stepT_err (p := (pl, pc)) HD.out (by rw [HD2.out.1]; exact hf))
              rw [HD2.out.2] at h
              exact h)
            simp only [firstV, cutW] at HFst
            have ter : ((er : Int) == 0) = false := by rw [beq_eq_false_iff_ne]; omega
            have ter2 : ((er : Int) != 0) = true := by rw [bne, ter]; rfl
            clear hf hne hl2s
            go_wp2_with fail
            refine (HFst.out _).mono ?_
            rintro e w5 ⟨rfl, k5⟩
            have HB5 := Lib.hid (HB.out.trans (k5.mono HB.out.size))
            clear k5 HFst
            go_wp2_with fail
            refine bodyPost_ret (cs_result4 rfl _ _ _) rfl (refA_no HE.out rfl (HB5.out.alloc HB5.out.size _))
          | ok z =>
            obtain ⟨kk, t, n⟩ := z
            rw [hf] at HFst
            simp only [firstV, cutW] at HFst
            obtain ⟨hta, htp, htl⟩ := tok_adv hf (ll, cc)
            have HXn : Hid (tokX l0 (M ++ [⟨kk, t, ll, cc⟩]) (l0.drop (q + d + n)) (ll, cc + n)) := Lib.hid (by
              have h := tokX_more HX.out (stepT_ok (p := (pl, pc)) HD.out (by rw [HD2.out.1]; exact hf))
              rw [HD2.out.1, HD2.out.2, HL2.out, List.drop_drop] at h
              exact h)
            have r1 : q + d + n ≤ s.size := by omega
            have r2 : m + 1 ≤ q + d + n := by omega
            have r3 : ll ≤ 1 + (q + d + n) := by omega
            have r4 : cc + n ≤ 1 + (q + d + n) := by omega
            have r5 : 1 ≤ cc + n := by omega
            have r6 : q < q + d + n := by omega
            have r7 : q + d ≤ 65536 := by omega
            have HM9 : Hid ((M ++ [(⟨kk, t, ll, cc⟩ : Tk)]).length = m + 1) := Lib.hid (by rw [List.length_append, ← HM.out]; rfl)
            clear hf hta htp htl hl2s
            go_wp2_with fail
            refine (HFst.out _).mono ?_
            rintro e w5 ⟨rfl, k5⟩
            have HB5 := Lib.hid (HB.out.trans (k5.mono HB.out.size))
            have HO5 := Lib.hid (cs_ownBelow HO.out k5)
            clear k5 HFst HO HB
            go_wp2_with (at_builtin; refine wpList_append_own _ rfl _ _ 29 rfl w.heap.size 33 i0 (.agg #[.int .i64 0, .string ⟨#[]⟩, .int .i64 0, .int .i64 0]) 4 40 Tryd.underlying29 HI.out HZ0.out HZ1.out HZ2.out rfl (by decide) _ _ _ rfl ((HO5.out.alloc _).alloc _) _ 1 1 (tkC ⟨kk, t, ll, cc⟩) rfl rfl ?c1 ?c2 ?c3 ?c4 ?c5 ?_)
            case c1 => exact tk_new2 w5 _ ⟨kk, t, ll, cc⟩ _
            case c2 => intro u hu; simp [tkC] at hu; rcases hu with rfl | rfl | rfl | rfl <;> rfl
            case c3 => unfold maxLen; omega
            case c4 => omega
            case c5 => have := HB5.out.size; simp; omega
            intro v' w8 hown' hgrow _
            have hW8 : w.heap.size ≤ ((w5.alloc (.cells #[.int .i64 (kk : Nat), .string ⟨t.toArray⟩, .int .i64 (ll : Nat), .int .i64 (cc : Nat)] 33)).alloc (.cells #[.int .i64 (kk : Nat), .string ⟨t.toArray⟩, .int .i64 (ll : Nat), .int .i64 (cc : Nat)] 33)).heap.size := by have := HB5.out.size; simp; omega
            have hB8 := ((HB5.out.alloc HB5.out.size (.cells #[.int .i64 (kk : Nat), .string ⟨t.toArray⟩, .int .i64 (ll : Nat), .int .i64 (cc : Nat)] 33)).alloc (by have := HB5.out.size; simp; omega) (.cells #[.int .i64 (kk : Nat), .string ⟨t.toArray⟩, .int .i64 (ll : Nat), .int .i64 (cc : Nat)] 33)).grown hgrow hW8 (fun k hk => (HO5.out.lt k hk).1)
            have hO8 : w8.ownsRow w.heap.size 33 4 v' (m + 1) (tkCs (M ++ [⟨kk, t, ll, cc⟩])) := by rw [tkCs_snoc]; exact hown'
            obtain ⟨va, vc, rfl⟩ := cs_own hO8
            have HO8 := Lib.hid hO8
            have HB8 := Lib.hid hB8
            clear hW8 hB8 hO8 hown' hgrow HO5 HB5
            go_wp2_with fail
            go_roundw
            case rel => exact ⟨M ++ [⟨kk, t, ll, cc⟩], q + d + n, ll, cc + n, r1, by go_num, rfl, by go_num, by rw [HM9.out]; exact r2, r3, r4, r5, HXn, Lib.hid (by rw [HM9.out]; exact HO8.out), HB8⟩
            case measure => simp [intN]; omega
end Go.Proofs.YtbojhcfofgdoeaaDoor
