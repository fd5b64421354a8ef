/- What quote.fromDigits does with any two bytes. -/
import Derived.Test.YtbojhcfofgdoeaaDoorQuoteWrite
namespace Go.Proofs.YtbojhcfofgdoeaaDoor
open Go.RowKit

/-- The closure: whether a rune is the digit. -/
theorem digit_pred (w : World) (q : Nat) (c : UInt8) (hq : q < w.heap.size) (hc : w.cell? ⟨q, 0, none⟩ = some (.int .u8 c.toNat)) :
    PredAt Tryd.prog 86 #[.pointer (some ⟨q, 0, none⟩)] encR (fun r => ((r : Int) == (c.toNat : Int))) w := fun W r hb => by
  have hc' : W.cell? ⟨q, 0, none⟩ = some (.int .u8 c.toNat) := (hb.cell (p := ⟨q, 0, none⟩) hq).trans hc
  have hlt : c.toNat < 256 := c.toNat_lt
  clear hc
  unfold FnGives
  go_enter Tryd.func86, Tryd.ntmps86
  go_wp2
  go_ret
  exact ⟨rfl, 0, rfl⟩

theorem idx_hex : ∀ c : UInt8, Lib.idxFunc (fun r => ((r : Int) == (c.toNat : Int))) true ⟨#[48, 49, 50, 51, 52, 53, 54, 55, 56, 57, 97, 98, 99, 100, 101, 102]⟩ = if ux c < 16 then (ux c : Int) else -1 := all8 (by decide +kernel)

/-- The place of a digit among the sixteen. -/
theorem place_calls (w : World) (q : Nat) (c : UInt8) (hq : q < w.heap.size) (hc : w.cell? ⟨q, 0, none⟩ = some (.int .u8 c.toNat)) :
    Calls Tryd.prog 85 #[.string ⟨#[48, 49, 50, 51, 52, 53, 54, 55, 56, 57, 97, 98, 99, 100, 101, 102]⟩, .func (.func 86) #[] #[.pointer (some ⟨q, 0, none⟩)]] w
      fun e w' => e = .returned (.int .i64 (if ux c < 16 then (ux c : Int) else -1)) ∧ Below w.heap.size w w' := by
  have h := Tryd.strings_IndexFunc 86 #[.pointer (some ⟨q, 0, none⟩)] (enters_of Tryd.func86 (by kernel_rfl) rfl) _ ⟨#[48, 49, 50, 51, 52, 53, 54, 55, 56, 57, 97, 98, 99, 100, 101, 102]⟩ w (digit_pred w q c hq hc)
  rw [idx_hex c] at h
  exact h

theorem pair_at0 (a b : Value) (w : World) : (Instr.index 116 (.agg #[a, b]) (.int .i64 0)).run Tryd.prog w = .ok a w := by kernel_rfl
theorem pair_at1 (a b : Value) (w : World) : (Instr.index 116 (.agg #[a, b]) (.int .i64 1)).run Tryd.prog w = .ok b w := by kernel_rfl

theorem below_two (w : World) (o o' : Obj) : Below w.heap.size w ((w.alloc o).alloc o') := ((Below.refl _ _).alloc (Nat.le_refl _) o).alloc (by simp) o'

set_option maxHeartbeats 1000000 in
theorem fromDigits_no1 (x y : UInt8) (w : World) (hx : ¬ ux x < 16) :
    Calls Tryd.prog 78 #[.agg #[.int .u8 x.toNat, .int .u8 y.toNat]] w fun e w' => e = .returned (.tuple #[.int .u8 0, .bool false]) ∧ Below w.heap.size w w' := by
  have h1 := fun w q => place_calls w q x
  rw [if_neg hx] at h1
  have H1 := Lib.hid h1
  have i0 := pair_at0
  clear h1 hx
  go_enter Tryd.func78, Tryd.ntmps78
  go_wp2_with fail
  refine wp_loop_rounds 3 ?_
  rw [rounds_succ]
  go_wp2_with fail
  refine (H1.out _ _ (by simp) (by simp)).mono ?_
  rintro e w1 ⟨rfl, k1⟩
  have k2 := (below_two w _ _).trans (k1.mono (by simp; omega))
  clear k1
  go_wp2_with fail
  go_ret2
  exact ⟨rfl, k2⟩

set_option maxHeartbeats 1000000 in
theorem fromDigits_no2 (x y : UInt8) (w : World) (hx : ux x < 16) (hy : ¬ ux y < 16) :
    Calls Tryd.prog 78 #[.agg #[.int .u8 x.toNat, .int .u8 y.toNat]] w fun e w' => e = .returned (.tuple #[.int .u8 0, .bool false]) ∧ Below w.heap.size w w' := by
  have h1 := fun w q => place_calls w q x
  rw [if_pos hx] at h1
  have h2 := fun w q => place_calls w q y
  rw [if_neg hy] at h2
  have H1 := Lib.hid h1
  have H2 := Lib.hid h2
  have i0 := pair_at0
  have i1 := pair_at1
  obtain ⟨u, hu⟩ : ∃ u, u = ux x := ⟨_, rfl⟩
  rw [← hu] at hx H1
  clear h1 h2 hy hu
  go_enter Tryd.func78, Tryd.ntmps78
  go_wp2_with fail
  refine wp_loop_rounds 3 ?_
  rw [rounds_succ]
  go_wp2_with fail
  refine (H1.out _ _ (by simp) (by simp)).mono ?_
  rintro e w1 ⟨rfl, k1⟩
  have k2 := (below_two w _ _).trans (k1.mono (by simp; omega))
  clear k1
  go_wp2_with fail
  rw [rounds_succ]
  go_wp2_with fail
  refine (H2.out _ _ (by simp) (by simp)).mono ?_
  rintro e w2 ⟨rfl, k3⟩
  have k4 := (k2.alloc k2.size _).trans (k3.mono (by have := k2.size; simp; omega))
  clear k2 k3
  go_wp2_with fail
  go_ret2
  exact ⟨rfl, k4⟩

theorem bits_or2 (u v : Nat) (hu : u < 16) (hv : v < 16) : bits .or .u8 (bits .or .u8 0 (u : Int) * 16 % 256) (v : Int) = ((16 * u + v : Nat) : Int) := by
  have : ∀ u v : Fin 16, bits .or .u8 (bits .or .u8 0 (u.val : Int) * 16 % 256) (v.val : Int) = ((16 * u.val + v.val : Nat) : Int) := by decide +kernel
  exact this ⟨u, hu⟩ ⟨v, hv⟩
/-- What is told besides: the byte, or 0. -/
def fdR (x y : UInt8) : UInt8 := if fdB x y = true then fdV x y else 0
theorem fdV_num (x y : UInt8) (hx : ux x < 16) (hy : ux y < 16) : (fdV x y).toNat = 16 * ux x + ux y := by
  unfold fdV
  rw [UInt8.toNat_ofNat']
  omega

set_option maxHeartbeats 1000000 in
theorem fromDigits_two (x y : UInt8) (w : World) (hx : ux x < 16) (hy : ux y < 16) (hE : Esc w) (lb pb : Bool) (hl : ltB (fdV x y) = lb) (hp : plB (fdV x y) = pb) :
    Calls Tryd.prog 78 #[.agg #[.int .u8 x.toNat, .int .u8 y.toNat]] w fun e w' => e = .returned (.tuple #[.int .u8 (fdR x y).toNat, .bool (fdB x y)]) ∧ Below w.heap.size w w' := by
  have h1 := fun w q => place_calls w q x
  rw [if_pos hx] at h1
  have h2 := fun w q => place_calls w q y
  rw [if_pos hy] at h2
  have hb := bits_or2 _ _ hx hy
  rw [← fdV_num x y hx hy] at hb
  have hfd : fdB x y = (!lb && !pb) := by unfold fdB; rw [hl, hp]; simp [hx, hy]
  have hfr : fdR x y = if (!lb && !pb) = true then fdV x y else 0 := by unfold fdR; rw [hfd]
  rw [hfr, hfd]
  have i0 := pair_at0
  have i1 := pair_at1
  obtain ⟨u, hu⟩ : ∃ u, u = ux x := ⟨_, rfl⟩
  rw [← hu] at hx h1 hb
  obtain ⟨v, hv⟩ : ∃ v, v = ux y := ⟨_, rfl⟩
  rw [← hv] at hy h2 hb
  obtain ⟨c, hc⟩ : ∃ c, c = fdV x y := ⟨_, rfl⟩
  rw [← hc] at hb hl hp ⊢
  have hg := var_lt gEsc hE
  have h3 := fun w1 (hb : Below w.heap.size w w1) => letterOf_calls c w1 (esc_below hE hg hb)
  have h4 := fun w1 => isPlain_calls c w1
  rw [hl] at h3
  rw [hp] at h4
  have H1 := Lib.hid h1
  have H2 := Lib.hid h2
  have H3 := Lib.hid h3
  have H4 := Lib.hid h4
  have HB := Lib.hid hb
  have t0 : decide ((u : Int) < 0) = false := by simp
  have t1 : decide ((v : Int) < 0) = false := by simp
  clear h1 h2 h3 h4 hu hv hc hl hp hfd hfr hb hE hg
  go_enter Tryd.func78, Tryd.ntmps78
  go_wp2_with fail
  refine wp_loop_rounds 3 ?_
  rw [rounds_succ]
  go_wp2_with fail
  refine (H1.out _ _ (by simp) (by simp)).mono ?_
  rintro e w1 ⟨rfl, k1⟩
  have k2 := (below_two w _ _).trans (k1.mono (by simp; omega))
  clear k1
  go_wp2_with fail
  rw [rounds_succ]
  go_wp2_with fail
  refine (H2.out _ _ (by simp) (by simp)).mono ?_
  rintro e w2 ⟨rfl, k3⟩
  have k4 := (k2.alloc k2.size _).trans (k3.mono (by have := k2.size; simp; omega))
  clear k2 k3
  go_wp2_with fail
  rw [rounds_succ]
  go_wp2_with fail
  rw [HB.out]
  refine (H3.out _ k4).mono ?_
  rintro e w3 ⟨rfl, k5⟩
  have k6 := k4.trans (k5.mono k4.size)
  clear k4 k5
  cases lb
  · go_wp2_with fail
    refine (H4.out _).mono ?_
    rintro e w' ⟨rfl, rfl⟩
    cases pb
    · go_wp2_with fail
      go_ret2
      exact ⟨rfl, k6⟩
    · go_wp2_with fail
      go_ret2
      exact ⟨rfl, k6⟩
  · go_wp2_with fail
    go_ret2
    exact ⟨rfl, k6⟩

theorem fromDigits_calls (x y : UInt8) (w : World) (hE : Esc w) :
    Calls Tryd.prog 78 #[.agg #[.int .u8 x.toNat, .int .u8 y.toNat]] w fun e w' => e = .returned (.tuple #[.int .u8 (fdR x y).toNat, .bool (fdB x y)]) ∧ Below w.heap.size w w' := by
  by_cases hx : ux x < 16
  · by_cases hy : ux y < 16
    · exact fromDigits_two x y w hx hy hE _ _ rfl rfl
    · have hf : fdB x y = false := by unfold fdB; simp [hy]
      have hr : fdR x y = 0 := by unfold fdR; rw [hf]; rfl
      rw [hf, hr]
      exact fromDigits_no2 x y w hx hy
  · have hf : fdB x y = false := by unfold fdB; simp [hx]
    have hr : fdR x y = 0 := by unfold fdR; rw [hf]; rfl
    rw [hf, hr]
    exact fromDigits_no1 x y w hx
end Go.Proofs.YtbojhcfofgdoeaaDoor
