/- How many bytes at a text's beginning are blanks and remarks (gapSize); the place behind a text (place.behind). -/
import Derived.Test.YtbojhcfofgdoeaaDoorLexRun
namespace Go.Proofs.YtbojhcfofgdoeaaDoor
open Go.RowKit
set_option linter.unusedVariables false

theorem tw_head (p : UInt8 → Bool) : ∀ (l : List UInt8) (c : UInt8), (l.drop (twN p l)).head? = some c → p c = false
  | [], c, h => by simp at h
  | d :: l, c, h => by
    by_cases e : p d = true
    · rw [twN, List.takeWhile_cons_of_pos e, List.length_cons, List.drop_succ_cons] at h
      exact tw_head p l c h
    · rw [twN, List.takeWhile_cons_of_neg e, List.length_nil, List.drop_zero, List.head?_cons] at h
      cases h
      simpa using e
theorem bl_run : ∀ (l : List UInt8), blankN l false = twN blankB l + blankN (l.drop (twN blankB l)) false
  | [] => rfl
  | c :: l => by
    have ih := bl_run l
    by_cases e : blankB c = true
    · have h35 : c ≠ 35 := by rintro rfl; exact absurd e (by decide)
      have e2 : twN blankB (c :: l) = twN blankB l + 1 := by rw [twN, List.takeWhile_cons_of_pos e, List.length_cons]; rfl
      rw [e2, List.drop_succ_cons, blankN, if_neg h35, if_pos e, ih]
      omega
    · have e2 : twN blankB (c :: l) = 0 := by rw [twN, List.takeWhile_cons_of_neg e, List.length_nil]
      rw [e2, List.drop_zero]
      omega
theorem bl_rem : ∀ (l : List UInt8), blankN l true = twN no10 l + blankN (l.drop (twN no10 l)) false
  | [] => rfl
  | c :: l => by
    have ih := bl_rem l
    by_cases e : c = 10
    · subst e
      have e2 : twN no10 (10 :: l) = 0 := by rw [twN, List.takeWhile_cons_of_neg (by decide), List.length_nil]
      rw [e2, List.drop_zero, blankN, blankN, if_pos rfl, if_neg (by decide), if_pos (by decide)]
      omega
    · have e1 : no10 c = true := by simpa [no10] using e
      have e2 : twN no10 (c :: l) = twN no10 l + 1 := by rw [twN, List.takeWhile_cons_of_pos e1, List.length_cons]; rfl
      rw [e2, List.drop_succ_cons, blankN, if_neg e, ih]
      omega
theorem gap_stop {l : List UInt8} {n k : Nat} (h : blX l n false) (hk : k = twN blankB (l.drop n)) (hh : ((l.drop (n + k)).head? == some 35) = false) : blankN l false = n + k := by
  have h1 := bl_run (l.drop n)
  rw [← hk, List.drop_drop] at h1
  have h2 := tw_head blankB (l.drop n)
  rw [← hk, List.drop_drop] at h2
  have h3 : blankN (l.drop (n + k)) false = 0 := by
    cases e : l.drop (n + k) with
    | nil => rfl
    | cons c r =>
      rw [e] at hh h2
      have h35 : c ≠ 35 := by simpa using hh
      have hb := h2 c rfl
      rw [blankN, if_neg h35, if_neg (by rw [hb]; decide)]
  unfold blX at h
  omega
theorem gap_more {l : List UInt8} {n k j : Nat} (h : blX l n false) (hk : k = twN blankB (l.drop n)) (hh : ((l.drop (n + k)).head? == some 35) = true) (hj : j = twN no10 (l.drop (n + k))) : blX l (n + k + j) false ∧ 0 < j := by
  have h1 := bl_run (l.drop n)
  rw [← hk, List.drop_drop] at h1
  cases e : l.drop (n + k) with
  | nil => rw [e] at hh; simp at hh
  | cons c r =>
    rw [e] at hh
    have h35 : c = 35 := by simpa using hh
    subst h35
    have h2 := bl_rem (l.drop (n + k))
    rw [← hj, List.drop_drop] at h2
    have h3 : blankN (35 :: r) false = blankN (35 :: r) true := by rw [blankN, blankN, if_pos rfl, if_neg (by decide)]
    have h4 : 0 < j := by
      rw [hj, e, twN, List.takeWhile_cons_of_pos (by decide), List.length_cons]; omega
    rw [e] at h1 h2
    unfold blX at h ⊢
    exact ⟨by omega, h4⟩
theorem in_blanks : inSet ⟨#[32, 9, 10, 13]⟩ = blankB := by
  funext c
  exact (all8 (P := fun c => (inSet ⟨#[32, 9, 10, 13]⟩ c = blankB c)) (by decide +kernel)) c
theorem lx_wrap {x : Int} (h0 : 0 ≤ x) (h : x ≤ 9223372036854775807) : IntKind.i64.wrap x = x := by
  simp only [IntKind.wrap, IntKind.bits, IntKind.signed]
  simp
  omega
theorem lx_drop_len (s : ByteArray) (k : Nat) : (s.extract k s.size).size = s.size - k := by
  rw [cs_size, cs_drop, List.length_drop, ← cs_size]

set_option maxHeartbeats 2000000 in
theorem gap_calls (s : ByteArray) (w : World) (hs : s.size ≤ 4611686018427387904) :
    Calls Tryd.prog 19 #[.string s] w fun e w' => e = .returned (.int .i64 (blankN s.data.toList false : Nat)) ∧ Below w.heap.size w w' := by
  have HL : Hid (s.data.toList.length = s.size) := Lib.hid (cs_size s).symm
  have HK0 := Lib.hid (Below.refl w.heap.size w)
  obtain ⟨N, hN⟩ : ∃ N, N = blankN s.data.toList false := ⟨_, rfl⟩
  rw [← hN]
  have HN := Lib.hid hN
  clear hN
  go_enter Tryd.func19, Tryd.ntmps19
  go_wp2_with fail
  go_loopw [3] (fun v wr => ∃ (n : Nat), n ≤ s.size ∧ v = .int .i64 n ∧ Hid (blX s.data.toList n false) ∧ Hid (Below w.heap.size w wr)) (fun v _ => s.size - (intOf v).toNat)
  case atStart => exact ⟨0, Nat.zero_le _, rfl, Lib.hid (blX_zero _), HK0⟩
  case round =>
    obtain ⟨n, hn, rfl, HX, HB⟩ := hrel
    obtain ⟨k, hk⟩ : ∃ k, k = twN blankB (s.data.toList.drop n) := ⟨_, rfl⟩
    have hkl : n + k ≤ s.size := by
      have := tw_le blankB (s.data.toList.drop n)
      rw [List.length_drop, HL.out] at this
      omega
    have HK := Lib.hid hk
    obtain ⟨m, hm⟩ : ∃ m, m = n + k := ⟨_, rfl⟩
    have hms : m ≤ s.size := by omega
    have HM := Lib.hid hm
    have HkL := Lib.hid hkl
    obtain ⟨sn, hsn⟩ : ∃ sn, sn = s.extract n s.size := ⟨_, rfl⟩
    have HSn := Lib.hid hsn
    have hsz : sn.size ≤ 9223372036854775807 := by rw [hsn, lx_drop_len]; omega
    have HR := Lib.hid (fun w1 B (hB : w1.cell? ⟨B, 0, none⟩ = some (.string ⟨#[32, 9, 10, 13]⟩)) => runIn_calls sn ⟨#[32, 9, 10, 13]⟩ B w1 hsz hB)
    rw [in_blanks, show sn.data.toList = s.data.toList.drop n by rw [hsn, cs_drop], ← hk] at HR
    have HAm := Lib.hid (fun w1 => among_calls ⟨#[32, 9, 10, 13]⟩ w1)
    clear hk hkl hm hsn hsz
    go_wp2_with fail
    refine wp_region_held_drew (S := fun _ => True) (by kernel_rfl) trivial (fun hH0 => ?_)
    refine wpAnyH_take (i := 0) (v := .int .i64 n) rfl (by kernel_rfl) (by kernel_rfl) (by kernel_rfl) (fun _ _ _ h => h) (Or.inl ⟨by kernel_rfl, fun wS hSw => by (try dsimp only at hSw); go_simp⟩) hH0 ?_
    refine wpAnyH_take (i := 1) (v := .string s) rfl (by kernel_rfl) (by kernel_rfl) (by kernel_rfl) (fun _ _ _ h => h) (Or.inl ⟨by kernel_rfl, fun wS hSw => by (try dsimp only at hSw); go_simp⟩) hH0 ?_
    refine wpAnyH_take (i := 2) (v := .int .i64 n) rfl (by kernel_rfl) (by kernel_rfl) (by kernel_rfl) (fun _ _ _ h => h) (Or.inl ⟨by kernel_rfl, fun wS hSw => by (try dsimp only at hSw); go_simp⟩) hH0 ?_
    refine wpAnyH_take (i := 3) (v := .string sn) rfl (by kernel_rfl) (by kernel_rfl) (by kernel_rfl) (fun _ _ _ h => h) (Or.inl ⟨by kernel_rfl, fun wS hSw => by (try dsimp only at hSw); rw [HSn.out]; go_simp⟩) hH0 ?_
    refine wpAnyH_ready (rs := [4]) (by kernel_rfl) (by simp) ?_
    refine AllReadyH.cons rfl (fun K hK => ?_) AllReadyH.nil
    rw [if_pos (by kernel_rfl)]
    go_simp
    go_at_call 40
    refine (HAm.out _).mono ?_
    rintro e w1 ⟨rfl, hw1⟩
    have HB1 : Hid (Below w.heap.size w w1) := Lib.hid (by rw [hw1]; exact HB.out.drew.alloc (by have := HB.out.size; exact this) _)
    have HC1 : Hid (w1.cell? ⟨wr.drew.heap.size, 0, none⟩ = some (.string ⟨#[32, 9, 10, 13]⟩)) := Lib.hid (by rw [hw1, World.cell?_alloc_at (hn := rfl)]; rfl)
    clear hw1
    refine hK.out _ _ (trivial) (fun hH1 => ?_)
    clear hK K
    refine wpAnyH_ready (rs := [5]) (by kernel_rfl) (by simp) ?_
    refine AllReadyH.cons rfl (fun K hK => ?_) AllReadyH.nil
    rw [if_pos (by kernel_rfl)]
    go_simp
    go_at_call 39
    refine (HR.out _ _ HC1.out).mono ?_
    rintro e w2 ⟨rfl, rfl⟩
    refine hK.out _ _ (trivial) (fun hH2 => ?_)
    clear hK K
    refine wpAnyH_take (i := 6) (v := .int .i64 (m : Nat)) rfl (by kernel_rfl) (by kernel_rfl) (by kernel_rfl) (fun _ _ _ h => h) (Or.inl ⟨by kernel_rfl, fun wS hSw => by (try dsimp only at hSw); rw [HM.out]; have := HkL.out; go_simp; exact lx_wrap (by omega) (by omega)⟩) hH2 ?_
    refine wpAnyH_take (i := 7) (v := .int .i64 (m : Nat)) rfl (by kernel_rfl) (by kernel_rfl) (by kernel_rfl) (fun _ _ _ h => h) (Or.inl ⟨by kernel_rfl, fun wS hSw => by (try dsimp only at hSw); go_simp⟩) hH2 ?_
    refine wpAnyH_done (by kernel_rfl) ?_ _
    go_simp
    have HP := Lib.hid (fun w1 => pre_calls1 (s.extract m s.size) 35 w1)
    rw [cs_drop] at HP
    have hme : (s.extract m s.size).size ≤ 9223372036854775807 := by rw [lx_drop_len]; omega
    cases hh : ((s.data.toList.drop m).head? == some 35)
    case false =>
      have HE : Hid (N = m) := Lib.hid (by rw [HN.out, HM.out]; exact gap_stop HX.out HK.out (by rw [← HM.out]; exact hh))
      rw [hh] at HP
      clear hh
      go_wp2_with fail
      refine (HP.out _).mono ?_
      rintro e w3 ⟨rfl, hw3⟩
      have HB3 : Hid (Below w.heap.size w w3) := Lib.hid (by rw [← hw3]; exact HB1.out)
      clear hw3
      go_wp2_with fail
      go_ret
      exact ⟨by rw [HE.out]; rfl, HB3.out⟩
    case true =>
      obtain ⟨j, hj⟩ : ∃ j, j = twN no10 (s.data.toList.drop m) := ⟨_, rfl⟩
      have hjl : m + j ≤ s.size := by
        have := tw_le no10 (s.data.toList.drop m)
        rw [List.length_drop, HL.out] at this
        omega
      obtain ⟨hx, hj0⟩ := gap_more (j := j) HX.out HK.out (by rw [← HM.out]; exact hh) (by rw [← HM.out]; exact hj)
      rw [← HM.out] at hx
      have HX2 := Lib.hid hx
      have HR2 := Lib.hid (fun w1 => run10_calls (s.extract m s.size) w1 hme)
      rw [cs_drop, ← hj] at HR2
      have HJ := Lib.hid hj
      rw [hh] at HP
      have hnm : n ≤ m := by rw [HM.out]; omega
      clear hh hj hx
      go_wp2_with fail
      refine (HP.out _).mono ?_
      rintro e w3 ⟨rfl, hw3⟩
      have HB3 : Hid (Below w.heap.size w w3) := Lib.hid (by rw [← hw3]; exact HB1.out)
      clear hw3
      go_wp2_with fail
      refine (HR2.out _).mono ?_
      rintro e w4 ⟨rfl, hw4⟩
      subst hw4
      go_wp2_with fail
      go_roundw
      case rel => exact ⟨m + j, hjl, by go_num, HX2, HB3⟩
      case measure => simp [intOf]; omega
end Go.Proofs.YtbojhcfofgdoeaaDoor
