/- The place behind a text: place.behind. -/
import Derived.Test.YtbojhcfofgdoeaaDoorLexGap
namespace Go.Proofs.YtbojhcfofgdoeaaDoor
open Go.RowKit
set_option linter.unusedVariables false

theorem adv_line : ∀ (l : List UInt8) (p : Nat × Nat), (adv l p).1 = p.1 + l.count 10
  | [], p => rfl
  | c :: r, p => by
    rw [adv, adv_line r, List.count_cons]
    by_cases h : c = 10
    · subst h; simp; omega
    · have h2 : (c == 10) = false := by simpa using h
      rw [if_neg h, h2]; simp
theorem adv_none {l : List UInt8} (h : l.count 10 = 0) (p : Nat × Nat) : adv l p = (p.1, p.2 + l.length) :=
  adv_line10 l p (fun c hc e => by subst e; exact absurd h (Nat.ne_of_gt (List.count_pos_iff.2 hc)))
theorem adv_last {a b : List UInt8} (h : ∀ c ∈ b, c ≠ 10) (p : Nat × Nat) : (adv (a ++ 10 :: b) p).2 = b.length + 1 := by
  rw [adv_append, adv, if_pos rfl, adv_line10 b _ h]
  show 1 + b.length = _
  omega
theorem data_bang (s : ByteArray) (j : Nat) (h : j < s.size) : s.data[j]! = s[j] := by
  have h' : j < s.data.size := h
  rw [getElem!_pos s.data j h']; rfl
theorem last_at {s : ByteArray} (h : s.data.toList.count 10 ≠ 0) : ∃ i : Nat, i < s.size ∧ Lib.lastIndexByte s 10 = i ∧ ∀ p, (adv s.data.toList p).2 = s.size - i := by
  rcases Lib.lastIndexByte_spec s 10 with ⟨_, hn⟩ | ⟨i, hi, e, hc, hn⟩
  · refine absurd (List.count_eq_zero.2 (fun hm => ?_)) h
    obtain ⟨j, hj, e⟩ := List.getElem_of_mem hm
    have hj2 : j < s.size := by rw [cs_size]; exact hj
    refine hn j hj2 ?_
    rw [data_bang s j hj2]
    have h2 := cs_at s j hj2
    rw [List.getElem?_eq_getElem hj, e] at h2
    rw [← Option.some.inj h2]; rfl
  · refine ⟨i, hi, e, fun p => ?_⟩
    have hx : s[i] = 10 := by
      rw [data_bang s i hi] at hc
      exact UInt8.toNat_inj.1 (by have : (s[i].toNat : Int) = 10 := hc; show s[i].toNat = 10; omega)
    have h1 := cs_cons s i hi
    rw [hx] at h1
    have h2 : s.data.toList = s.data.toList.take i ++ 10 :: s.data.toList.drop (i + 1) := by rw [← h1, List.take_append_drop]
    have h3 : ∀ c ∈ s.data.toList.drop (i + 1), c ≠ 10 := by
      intro c hm ec
      subst ec
      obtain ⟨j, hj, e⟩ := List.getElem_of_mem hm
      rw [List.length_drop, ← cs_size] at hj
      have hj2 : i + 1 + j < s.size := by omega
      refine hn (i + 1 + j) (by omega) hj2 ?_
      rw [data_bang s _ hj2]
      have h4 := cs_at s _ hj2
      rw [List.getElem_drop] at e
      rw [List.getElem?_eq_getElem (by rw [← cs_size]; exact hj2), e] at h4
      rw [← Option.some.inj h4]; rfl
    have h4 := adv_last (a := s.data.toList.take i) h3 p
    rw [← h2, List.length_drop, ← cs_size] at h4
    omega

/-- A place's value. -/
def placeV (p : Nat × Nat) : Value := .agg #[.int .i64 (p.1 : Nat), .int .i64 (p.2 : Nat)]
theorem place_new (w : World) (u v x y : Value) (t : TypeId) : Below w.heap.size w (((w.alloc (.cells #[u, v] t)).alloc (.cells #[x, y] t))) := ((Below.refl _ _).alloc (Nat.le_refl _) _).alloc (by simp) _
theorem place_set {B g : Nat} {a w : World} (h : Below B a w) (hg : B ≤ g) (x y : Value) : Below B a ((w.setCell ⟨g, 0, none⟩ x).setCell ⟨g, 1, none⟩ y) := (h.setCell hg _).setCell hg _

set_option maxHeartbeats 2000000 in
theorem behind_calls (a b : Nat) (s : ByteArray) (w : World) (ha : a + s.size ≤ 4611686018427387903) (hb : b + s.size ≤ 4611686018427387903) :
    Calls Tryd.prog 20 #[placeV (a, b), .string s] w fun e w' => e = .returned (placeV (adv s.data.toList (a, b))) ∧ Below w.heap.size w w' := by
  have HC := Lib.hid (fun w1 => Tryd.strings_Count_one s 10 w1)
  have HI := Lib.hid (fun w1 => Tryd.strings_LastIndex_one s ⟨#[10]⟩ rfl (by omega) w1)
  have HL : Hid (s.data.toList.length = s.size) := Lib.hid (cs_size s).symm
  obtain ⟨k, hk⟩ : ∃ k, k = s.data.toList.count 10 := ⟨_, rfl⟩
  have hkl : k ≤ s.size := by rw [hk, ← HL.out]; exact List.count_le_length
  have HN := Lib.hid (place_new w (.int .i64 (a : Nat)) (.int .i64 (b : Nat)) (.int .i64 0) (.int .i64 0) 49)
  rw [show Lib.countByte s.data.toList 10 = k from hk.symm] at HC
  by_cases hz : k = 0
  case pos =>
    subst hz
    have HA : Hid (adv s.data.toList (a, b) = (a, b + s.size)) := Lib.hid (by rw [adv_none hk.symm, HL.out])
    rw [HA.out]
    clear hk hkl HI
    unfold placeV
    go_enter Tryd.func20, Tryd.ntmps20
    go_wp2_with fail
    refine (HC.out _).mono ?_
    rintro e w1 ⟨rfl, hw⟩
    subst hw
    go_wp2_with fail
    refine bodyPost_ret (v := .agg #[.int .i64 (a : Nat), .int .i64 ((b + s.size : Nat))]) ?_ rfl ⟨rfl, ?_⟩
    · refine cs_result1 rfl _ _ _ (a := ⟨w.heap.size + 1, 0, none⟩) (by rfl) ?_
      go_simp
    · exact place_new w _ _ _ _ _
  case neg =>
    obtain ⟨i, hi, e1, e2⟩ := last_at (s := s) (by omega)
    have HA : Hid (adv s.data.toList (a, b) = (a + k, s.size - i)) := Lib.hid (Prod.ext (by rw [adv_line, hk]) (e2 _))
    have hI2 : Lib.lastIndexByte s (((⟨#[10]⟩ : ByteArray)[0]'(by decide)).toNat : Int) = i := e1
    have HI2 : Hid (∀ w1, Calls Tryd.prog 44 #[.string s, .string ⟨#[10]⟩] w1 fun e w' => e = .returned (.int .i64 (i : Nat)) ∧ w' = w1) := Lib.hid (fun w1 => by have := HI.out w1; rw [hI2] at this; exact this)
    rw [HA.out]
    have t1 : ((k : Int) == 0) = false := by rw [beq_eq_false_iff_ne]; omega
    obtain ⟨d, hd⟩ : ∃ d, d = s.size - i := ⟨_, rfl⟩
    have hdi : (s.size : Int) - (i : Int) = (d : Int) := by omega
    have hds : d ≤ s.size := by omega
    rw [← hd]
    have HD := Lib.hid hdi
    obtain ⟨m, hm⟩ : ∃ m, m = a + k := ⟨_, rfl⟩
    rw [← hm]
    have hml : m ≤ 4611686018427387903 := by omega
    have HM := Lib.hid hm
    have hak : a + k ≤ 4611686018427387903 := by omega
    have HAK := Lib.hid hak
    clear hk e1 e2 hI2 HI hd hdi hm hz hak
    unfold placeV
    go_enter Tryd.func20, Tryd.ntmps20
    go_wp2_with fail
    refine (HC.out _).mono ?_
    rintro e w1 ⟨rfl, hw⟩
    subst hw
    go_wp2_with fail
    refine wp_region_held_drew (S := (fun W => W.cell? ⟨w.heap.size, 0, none⟩ = some (.int .i64 (a : Nat)))) (by kernel_rfl) (by go_simp) (fun hH0 => ?_)
    refine wpAnyH_take (i := 0) (v := .pointer (some ⟨w.heap.size, 0, none⟩)) rfl (by kernel_rfl) (by kernel_rfl) (by kernel_rfl) (fun _ _ _ h => h) (Or.inl ⟨by kernel_rfl, fun wS hSw => by (try dsimp only at hSw); go_simp⟩) hH0 ?_
    refine wpAnyH_take (i := 1) (v := .int .i64 (a : Nat)) rfl (by kernel_rfl) (by kernel_rfl) (by kernel_rfl) (fun _ _ _ h => h) (Or.inl ⟨by kernel_rfl, fun wS hSw => by (try dsimp only at hSw); go_simp⟩) hH0 ?_
    refine wpAnyH_take (i := 2) (v := .int .i64 (k : Nat)) rfl (by kernel_rfl) (by kernel_rfl) (by kernel_rfl) (fun _ _ _ h => h) (Or.inl ⟨by kernel_rfl, fun wS hSw => by (try dsimp only at hSw); go_simp⟩) hH0 ?_
    refine wpAnyH_take (i := 3) (v := .int .i64 (m : Nat)) rfl (by kernel_rfl) (by kernel_rfl) (by kernel_rfl) (fun _ _ _ h => h) (Or.inl ⟨by kernel_rfl, fun wS hSw => by (try dsimp only at hSw); rw [HM.out]; have := HAK.out; go_simp; exact lx_wrap (by omega) (by omega)⟩) hH0 ?_
    refine wpAnyH_take (i := 4) (v := .string s) rfl (by kernel_rfl) (by kernel_rfl) (by kernel_rfl) (fun _ _ _ h => h) (Or.inl ⟨by kernel_rfl, fun wS hSw => by (try dsimp only at hSw); go_simp⟩) hH0 ?_
    refine wpAnyH_take (i := 5) (v := .int .i64 (s.size : Nat)) rfl (by kernel_rfl) (by kernel_rfl) (by kernel_rfl) (fun _ _ _ h => h) (Or.inl ⟨by kernel_rfl, fun wS hSw => by (try dsimp only at hSw); go_simp⟩) hH0 ?_
    refine wpAnyH_take (i := 6) (v := .string s) rfl (by kernel_rfl) (by kernel_rfl) (by kernel_rfl) (fun _ _ _ h => h) (Or.inl ⟨by kernel_rfl, fun wS hSw => by (try dsimp only at hSw); go_simp⟩) hH0 ?_
    refine wpAnyH_ready (rs := [7]) (by kernel_rfl) (by simp) ?_
    refine AllReadyH.cons rfl (fun K hK => ?_) AllReadyH.nil
    rw [if_pos (by kernel_rfl)]
    go_simp
    refine (HI2.out _).mono ?_
    rintro e w2 ⟨rfl, hw⟩
    subst hw
    refine hK.out _ _ (by go_simp) (fun hH1 => ?_)
    clear hK K
    refine wpAnyH_take (i := 8) (v := .int .i64 (d : Nat)) rfl (by kernel_rfl) (by kernel_rfl) (by kernel_rfl) (fun _ _ _ h => h) (Or.inl ⟨by kernel_rfl, fun wS hSw => by (try dsimp only at hSw); rw [← HD.out]; go_simp; exact lx_wrap (by omega) (by omega)⟩) hH1 ?_
    refine wpAnyH_take (i := 9) (v := .agg #[.int .i64 (m : Nat), .int .i64 (d : Nat)]) rfl (by kernel_rfl) (by kernel_rfl) (by kernel_rfl) (fun _ _ _ h => h) (Or.inl ⟨by kernel_rfl, fun wS hSw => by (try dsimp only at hSw); go_simp⟩) hH1 ?_
    refine wpAnyH_ready (rs := [10]) (by kernel_rfl) (by simp) ?_
    refine AllReadyH.cons rfl (fun K hK => ?_) AllReadyH.nil
    rw [if_pos (by kernel_rfl)]
    go_simp
    refine hK.out _ _ (by go_simp) (fun hH2 => ?_)
    clear hK K
    refine wpAnyH_done (by kernel_rfl) ?_ _
    go_simp
    go_wp2_with fail
    refine bodyPost_ret (v := .agg #[.int .i64 (m : Nat), .int .i64 (d : Nat)]) ?_ rfl ⟨rfl, ?_⟩
    · refine cs_result1 rfl _ _ _ (a := ⟨w.heap.size + 1, 0, none⟩) (by rfl) ?_
      go_simp
    · exact (place_new w _ _ _ _ _).drew
end Go.Proofs.YtbojhcfofgdoeaaDoor
