/- What operators make of values: the reference's. -/
import Derived.Test.YtmpoloninpakbaaGreatDoorValOps
import Derived.Test.YtmpoloninpakbaaGreatDoorNumRefAdd
import Derived.Test.YtmpoloninpakbaaGreatDoorNumRefDiv
namespace Go.Proofs.YtmpoloninpakbaaGreatDoor
open Go.RowKit
set_option linter.unusedVariables false

def numB (n : Int) (ok : Bool) : OVal := if ok = true then ⟨1, n, ⟨#[]⟩, false, 0⟩ else badV 6
theorem numB_eq (x : Int) : numB (tn x) (tb x) = numV (tn x) (te x) := by
  by_cases h : -9223372036854775808 ≤ x ∧ x ≤ 9223372036854775807
  · rw [tb_yes h.1 h.2, te_yes h.1 h.2]; rfl
  · rw [tb_no h, te_no h]; rfl

set_option maxHeartbeats 1000000 in
theorem number_calls (n : Int) (ok : Bool) (w : World) :
    Calls Tryz.prog 35 #[.int .i64 n, .bool ok] w fun e w' => e = .returned (numB n ok).val ∧ Below w.heap.size w w' := by
  have HA := Lib.hid (fun o => (Below.refl w.heap.size w).alloc (Nat.le_refl _) o)
  cases ok
  · go_enter Tryz.func35, Tryz.ntmps35
    go_wp2_with fail
    refine bodyPost_ret (v := .tuple #[.agg #[.int .i64 0, .int .i64 0, .string ⟨#[]⟩, .bool false], .int .i64 6]) ?_ rfl ⟨rfl, ?_⟩
    · rw [results_cell_tmp rfl]
      go_simp
    · exact HA.out _
  · go_enter Tryz.func35, Tryz.ntmps35
    go_wp2_with fail
    refine bodyPost_ret (v := .tuple #[.agg #[.int .i64 1, .int .i64 n, .string ⟨#[]⟩, .bool false], .int .i64 0]) ?_ rfl ⟨rfl, ?_⟩
    · rw [results_cell_tmp rfl]
      go_simp
    · exact HA.out _

set_option maxHeartbeats 1000000 in
theorem refTruth_calls (q : Bool) (w : World) :
    Calls Tryz.prog 21 #[.bool q] w fun e w' => e = .returned (truV q).val ∧ Below w.heap.size w w' := by
  have HA := Lib.hid (fun o => (Below.refl w.heap.size w).alloc (Nat.le_refl _) o)
  go_enter Tryz.func21, Tryz.ntmps21
  go_wp2_with fail
  refine bodyPost_ret (v := .tuple #[.agg #[.int .i64 3, .int .i64 0, .string ⟨#[]⟩, .bool q], .int .i64 0]) ?_ rfl ⟨rfl, ?_⟩
  · rw [results_cell_tmp rfl]
    go_simp
  · exact HA.out _

theorem boxed_drewN {g : Nat} {k i : Int} {s : ByteArray} {b : Bool} {w : World} (n : Nat) (h : Boxed g k i s b w) : Boxed g k i s b (w.drewN n) := h
theorem free_drewN {g : Nat} {w : World} (n : Nat) (h : Free4 g w) : Free4 g (w.drewN n) := h

set_option maxHeartbeats 1000000 in
theorem arith8 (a b : Int) (w : World) (ha : -9223372036854775808 ≤ a ∧ a ≤ 9223372036854775807) (hb : -9223372036854775808 ≤ b ∧ b ≤ 9223372036854775807) :
    Calls Tryz.prog 22 #[.int .i64 8, .int .i64 a, .int .i64 b] w fun e w' => e = .returned (arithV 8 a b).val ∧ Below w.heap.size w w' := by
  have HA := Lib.hid (fun o => (Below.refl w.heap.size w).alloc (Nat.le_refl _) o)
  have HB := Lib.hid (Boxed.new 0 0 ⟨#[]⟩ false w 23)
  have HF := Lib.hid (Free4.new #[.int .i64 0, .int .i64 0, .string ⟨#[]⟩, .bool false] w 23)
  have H1 := Lib.hid (fun w1 => refAdd_calls a b w1 ha hb)
  have h2 := fun w1 => number_calls (tn (a + b)) (tb (a + b)) w1
  rw [numB_eq] at h2
  have hr : arithV 8 a b = numV (tn (a + b)) (te (a + b)) := by simp [arithV]
  rw [hr]
  obtain ⟨qk, qi, qs, qb, qe, hv⟩ := (numV (tn (a + b)) (te (a + b))).val_eq
  rw [hv] at h2 ⊢
  have H2 := Lib.hid h2
  clear h2 hv hr ha hb
  go_enter Tryz.func22, Tryz.ntmps22
  go_wp2_with fail
  refine (H1.out _).mono ?_
  rintro e w1 ⟨rfl, rfl⟩
  go_wp2_with fail
  refine (H2.out _).mono ?_
  rintro e w1 ⟨rfl, k1⟩
  obtain ⟨c0, c1, c2, c3⟩ := HB.out.below k1 (by simp)
  obtain ⟨f0, f1, f2, f3⟩ := HF.out.below k1 (by simp)
  have HK := Lib.hid ((HA.out _).trans (k1.mono (by simp)))
  clear k1
  go_wp2_with fail
  refine bodyPost_ret (v := .tuple #[.agg #[.int .i64 qk, .int .i64 qi, .string qs, .bool qb], .int .i64 qe]) ?_ rfl ⟨rfl, ?_⟩
  · rw [results_cell_tmp rfl]
    go_simp
  · repeat' (first | exact HK.out | refine Below.setCell ?_ (by simp) _)

set_option maxHeartbeats 1000000 in
theorem arith9 (a b : Int) (w : World) (ha : -9223372036854775808 ≤ a ∧ a ≤ 9223372036854775807) (hb : -9223372036854775808 ≤ b ∧ b ≤ 9223372036854775807) :
    Calls Tryz.prog 22 #[.int .i64 9, .int .i64 a, .int .i64 b] w fun e w' => e = .returned (arithV 9 a b).val ∧ Below w.heap.size w w' := by
  have HA := Lib.hid (fun o => (Below.refl w.heap.size w).alloc (Nat.le_refl _) o)
  have HB := Lib.hid (Boxed.new 0 0 ⟨#[]⟩ false w 23)
  have HF := Lib.hid (Free4.new #[.int .i64 0, .int .i64 0, .string ⟨#[]⟩, .bool false] w 23)
  have H1 := Lib.hid (fun w1 => refSub_calls a b w1 ha hb)
  have h2 := fun w1 => number_calls (tn (a - b)) (tb (a - b)) w1
  rw [numB_eq] at h2
  have hr : arithV 9 a b = numV (tn (a - b)) (te (a - b)) := by simp [arithV]
  rw [hr]
  obtain ⟨qk, qi, qs, qb, qe, hv⟩ := (numV (tn (a - b)) (te (a - b))).val_eq
  rw [hv] at h2 ⊢
  have H2 := Lib.hid h2
  clear h2 hv hr ha hb
  go_enter Tryz.func22, Tryz.ntmps22
  go_wp2_with fail
  refine (H1.out _).mono ?_
  rintro e w1 ⟨rfl, rfl⟩
  go_wp2_with fail
  refine (H2.out _).mono ?_
  rintro e w1 ⟨rfl, k1⟩
  obtain ⟨c0, c1, c2, c3⟩ := HB.out.below k1 (by simp)
  obtain ⟨f0, f1, f2, f3⟩ := HF.out.below k1 (by simp)
  have HK := Lib.hid ((HA.out _).trans (k1.mono (by simp)))
  clear k1
  go_wp2_with fail
  refine bodyPost_ret (v := .tuple #[.agg #[.int .i64 qk, .int .i64 qi, .string qs, .bool qb], .int .i64 qe]) ?_ rfl ⟨rfl, ?_⟩
  · rw [results_cell_tmp rfl]
    go_simp
  · repeat' (first | exact HK.out | refine Below.setCell ?_ (by simp) _)

set_option maxHeartbeats 1000000 in
theorem arith10 (a b : Int) (w : World) (ha : -9223372036854775808 ≤ a ∧ a ≤ 9223372036854775807) (hb : -9223372036854775808 ≤ b ∧ b ≤ 9223372036854775807) :
    Calls Tryz.prog 22 #[.int .i64 10, .int .i64 a, .int .i64 b] w fun e w' => e = .returned (arithV 10 a b).val ∧ Below w.heap.size w w' := by
  have HA := Lib.hid (fun o => (Below.refl w.heap.size w).alloc (Nat.le_refl _) o)
  have HB := Lib.hid (Boxed.new 0 0 ⟨#[]⟩ false w 23)
  have HF := Lib.hid (Free4.new #[.int .i64 0, .int .i64 0, .string ⟨#[]⟩, .bool false] w 23)
  have H1 := Lib.hid (fun w1 => refMul_calls a b w1 ha hb)
  have h2 := fun w1 => number_calls (tn (a * b)) (tb (a * b)) w1
  rw [numB_eq] at h2
  have hr : arithV 10 a b = numV (tn (a * b)) (te (a * b)) := by simp [arithV]
  rw [hr]
  obtain ⟨qk, qi, qs, qb, qe, hv⟩ := (numV (tn (a * b)) (te (a * b))).val_eq
  rw [hv] at h2 ⊢
  have H2 := Lib.hid h2
  clear h2 hv hr ha hb
  go_enter Tryz.func22, Tryz.ntmps22
  go_wp2_with fail
  refine (H1.out _).mono ?_
  rintro e w1 ⟨rfl, rfl⟩
  go_wp2_with fail
  refine (H2.out _).mono ?_
  rintro e w1 ⟨rfl, k1⟩
  obtain ⟨c0, c1, c2, c3⟩ := HB.out.below k1 (by simp)
  obtain ⟨f0, f1, f2, f3⟩ := HF.out.below k1 (by simp)
  have HK := Lib.hid ((HA.out _).trans (k1.mono (by simp)))
  clear k1
  go_wp2_with fail
  refine bodyPost_ret (v := .tuple #[.agg #[.int .i64 qk, .int .i64 qi, .string qs, .bool qb], .int .i64 qe]) ?_ rfl ⟨rfl, ?_⟩
  · rw [results_cell_tmp rfl]
    go_simp
  · repeat' (first | exact HK.out | refine Below.setCell ?_ (by simp) _)

set_option maxHeartbeats 1000000 in
theorem arith5 (a b : Int) (w : World) (ha : -9223372036854775808 ≤ a ∧ a ≤ 9223372036854775807) (hb : -9223372036854775808 ≤ b ∧ b ≤ 9223372036854775807) :
    Calls Tryz.prog 22 #[.int .i64 9, .int .i64 0, .int .i64 a] w fun e w' => e = .returned (arithV 5 a b).val ∧ Below w.heap.size w w' := by
  have HA := Lib.hid (fun o => (Below.refl w.heap.size w).alloc (Nat.le_refl _) o)
  have HB := Lib.hid (Boxed.new 0 0 ⟨#[]⟩ false w 23)
  have HF := Lib.hid (Free4.new #[.int .i64 0, .int .i64 0, .string ⟨#[]⟩, .bool false] w 23)
  have H1 := Lib.hid (fun w1 => refSub0_calls a w1 ha)
  have h2 := fun w1 => number_calls (tn (-a)) (tb (-a)) w1
  rw [numB_eq] at h2
  have hr : arithV 5 a b = numV (tn (-a)) (te (-a)) := by simp [arithV]
  rw [hr]
  obtain ⟨qk, qi, qs, qb, qe, hv⟩ := (numV (tn (-a)) (te (-a))).val_eq
  rw [hv] at h2 ⊢
  have H2 := Lib.hid h2
  clear h2 hv hr ha hb
  go_enter Tryz.func22, Tryz.ntmps22
  go_wp2_with fail
  refine (H1.out _).mono ?_
  rintro e w1 ⟨rfl, rfl⟩
  go_wp2_with fail
  refine (H2.out _).mono ?_
  rintro e w1 ⟨rfl, k1⟩
  obtain ⟨c0, c1, c2, c3⟩ := HB.out.below k1 (by simp)
  obtain ⟨f0, f1, f2, f3⟩ := HF.out.below k1 (by simp)
  have HK := Lib.hid ((HA.out _).trans (k1.mono (by simp)))
  clear k1
  go_wp2_with fail
  refine bodyPost_ret (v := .tuple #[.agg #[.int .i64 qk, .int .i64 qi, .string qs, .bool qb], .int .i64 qe]) ?_ rfl ⟨rfl, ?_⟩
  · rw [results_cell_tmp rfl]
    go_simp
  · repeat' (first | exact HK.out | refine Below.setCell ?_ (by simp) _)

set_option maxHeartbeats 2000000 in
theorem arithDiv (o a b : Int) (w : World) (ho : o = 11 ∨ o = 12) (ha : -9223372036854775808 ≤ a ∧ a ≤ 9223372036854775807) (hb : -9223372036854775808 ≤ b ∧ b ≤ 9223372036854775807) :
    Calls Tryz.prog 22 #[.int .i64 o, .int .i64 a, .int .i64 b] w fun e w' => e = .returned (arithV o a b).val ∧ Below w.heap.size w w' := by
  have HA := Lib.hid (fun o => (Below.refl w.heap.size w).alloc (Nat.le_refl _) o)
  have HB := Lib.hid (Boxed.new 0 0 ⟨#[]⟩ false w 23)
  have HF := Lib.hid (Free4.new #[.int .i64 0, .int .i64 0, .string ⟨#[]⟩, .bool false] w 23)
  have h1 := fun w1 => refDiv_calls a b w1 ha hb
  by_cases h0 : b = 0
  · have hr : arithV o a b = badV 7 := by subst h0; rcases ho with rfl | rfl <;> simp [arithV, numV, de_zero, me_zero]
    rw [hr]
    rw [h0, dn_zero, mn_zero, de_zero] at h1
    have H1 := Lib.hid h1
    subst h0
    clear h1 hr ha hb
    rcases ho with rfl | rfl
    all_goals
      go_enter Tryz.func22, Tryz.ntmps22
      go_wp2_with fail
      refine (H1.out _).mono ?_
      rintro e w1 ⟨rfl, n, rfl⟩
      obtain ⟨c0, c1, c2, c3⟩ := boxed_drewN n HB.out
      obtain ⟨f0, f1, f2, f3⟩ := free_drewN n HF.out
      have HK := Lib.hid (below_drewN n (HA.out (.cells #[.int .i64 0, .int .i64 0, .string ⟨#[]⟩, .bool false] 23)))
      go_wp2_with fail
      refine bodyPost_ret (v := .tuple #[.agg #[.int .i64 0, .int .i64 0, .string ⟨#[]⟩, .bool false], .int .i64 7]) ?_ rfl ⟨rfl, ?_⟩
      · rw [results_cell_tmp rfl]
        go_simp
      · repeat' (first | exact HK.out | refine Below.setCell ?_ (by simp) _)
  · rcases ho with rfl | rfl
    · have hr : arithV 11 a b = numV (tn (a.tdiv b)) (te (a.tdiv b)) := by simp [arithV, dn_ne h0, de_ne h0]
      rw [hr]
      rw [dn_ne h0, mn_ne h0, de_ne h0] at h1
      have h2 := fun w1 => number_calls (tn (a.tdiv b)) (tb (a.tdiv b)) w1
      rw [numB_eq] at h2
      have he : (te (a.tdiv b) == 7) = false := by unfold te; split <;> rfl
      have he2 : (te (a.tdiv b) == 0) = tb (a.tdiv b) := by
        by_cases h : -9223372036854775808 ≤ a.tdiv b ∧ a.tdiv b ≤ 9223372036854775807
        · rw [tb_yes h.1 h.2, te_yes h.1 h.2]; rfl
        · rw [tb_no h, te_no h]; rfl
      obtain ⟨qk, qi, qs, qb, qe, hv⟩ := (numV (tn (a.tdiv b)) (te (a.tdiv b))).val_eq
      rw [hv] at h2 ⊢
      obtain ⟨x, hx⟩ : ∃ x, x = tn (a.tdiv b) := ⟨_, rfl⟩
      obtain ⟨y, hy⟩ : ∃ y, y = te (a.tdiv b) := ⟨_, rfl⟩
      obtain ⟨z, hz⟩ : ∃ z, z = a.tmod b := ⟨_, rfl⟩
      obtain ⟨u, hu⟩ : ∃ u, u = tb (a.tdiv b) := ⟨_, rfl⟩
      rw [← hx, ← hy, ← hz] at h1
      rw [← hx, ← hu] at h2
      rw [← hy] at he he2
      rw [← hu] at he2
      have H1 := Lib.hid h1
      have H2 := Lib.hid h2
      clear h1 h2 hr hv hx hy hz hu ha hb h0
      go_enter Tryz.func22, Tryz.ntmps22
      go_wp2_with fail
      refine (H1.out _).mono ?_
      rintro e w1 ⟨rfl, n, rfl⟩
      have HB1 := Lib.hid (boxed_drewN n HB.out)
      have HF1 := Lib.hid (free_drewN n HF.out)
      have HK := Lib.hid (below_drewN n (HA.out (.cells #[.int .i64 0, .int .i64 0, .string ⟨#[]⟩, .bool false] 23)))
      go_wp2_with fail
      refine (H2.out _).mono ?_
      rintro e w1 ⟨rfl, k1⟩
      obtain ⟨c0, c1, c2, c3⟩ := HB1.out.below k1 (by simp)
      obtain ⟨f0, f1, f2, f3⟩ := HF1.out.below k1 (by simp)
      have HK2 := Lib.hid (HK.out.trans (k1.mono HK.out.size))
      clear k1
      go_wp2_with fail
      refine bodyPost_ret (v := .tuple #[.agg #[.int .i64 qk, .int .i64 qi, .string qs, .bool qb], .int .i64 qe]) ?_ rfl ⟨rfl, ?_⟩
      · rw [results_cell_tmp rfl]
        go_simp
      · repeat' (first | exact HK2.out | refine Below.setCell ?_ (by simp) _)
    · have hr : arithV 12 a b = ⟨1, a.tmod b, ⟨#[]⟩, false, 0⟩ := by simp [arithV, mn_ne h0, me_ne h0, numV]
      rw [hr]
      rw [dn_ne h0, mn_ne h0, de_ne h0] at h1
      have he : (te (a.tdiv b) == 7) = false := by unfold te; split <;> rfl
      obtain ⟨x, hx⟩ : ∃ x, x = tn (a.tdiv b) := ⟨_, rfl⟩
      obtain ⟨y, hy⟩ : ∃ y, y = te (a.tdiv b) := ⟨_, rfl⟩
      obtain ⟨z, hz⟩ : ∃ z, z = a.tmod b := ⟨_, rfl⟩
      rw [← hx, ← hy, ← hz] at h1
      rw [← hy] at he
      rw [← hz]
      have H1 := Lib.hid h1
      clear h1 hr hx hy hz ha hb h0
      go_enter Tryz.func22, Tryz.ntmps22
      go_wp2_with fail
      refine (H1.out _).mono ?_
      rintro e w1 ⟨rfl, n, rfl⟩
      obtain ⟨c0, c1, c2, c3⟩ := boxed_drewN n HB.out
      obtain ⟨f0, f1, f2, f3⟩ := free_drewN n HF.out
      have HK := Lib.hid (below_drewN n (HA.out (.cells #[.int .i64 0, .int .i64 0, .string ⟨#[]⟩, .bool false] 23)))
      go_wp2_with fail
      refine bodyPost_ret (v := .tuple #[.agg #[.int .i64 1, .int .i64 z, .string ⟨#[]⟩, .bool false], .int .i64 0]) ?_ rfl ⟨rfl, ?_⟩
      · rw [results_cell_tmp rfl]
        go_simp
      · repeat' (first | exact HK.out | refine Below.setCell ?_ (by simp) _)

theorem arith_calls (o a b : Int) (w : World) (ho : 8 ≤ o ∧ o ≤ 12) (ha : -9223372036854775808 ≤ a ∧ a ≤ 9223372036854775807) (hb : -9223372036854775808 ≤ b ∧ b ≤ 9223372036854775807) :
    Calls Tryz.prog 22 #[.int .i64 o, .int .i64 a, .int .i64 b] w fun e w' => e = .returned (arithV o a b).val ∧ Below w.heap.size w w' := by
  rcases (show o = 8 ∨ o = 9 ∨ o = 10 ∨ o = 11 ∨ o = 12 by omega) with rfl | rfl | rfl | rfl | rfl
  · exact arith8 a b w ha hb
  · exact arith9 a b w ha hb
  · exact arith10 a b w ha hb
  · exact arithDiv 11 a b w (.inl rfl) ha hb
  · exact arithDiv 12 a b w (.inr rfl) ha hb
end Go.Proofs.YtmpoloninpakbaaGreatDoor
