/- What quote.writeChar does: it writes a byte's form. -/
import Derived.Test.YtbojhcfofgdoeaaDoorQuoteBuild
import Derived.RegionTactic
import Derived.BigRegion
namespace Go.Proofs.YtbojhcfofgdoeaaDoor
open Go.RowKit

theorem esc_below {w w' : World} {B : Nat} (h : Esc w) (hB : 2 < B) (hb : Below B w w') : Esc w' := var?_below hb gEsc hB h

theorem hex_index (k : Nat) (h : k < 16) (w : World) : (Instr.index 9 (.string ⟨#[48, 49, 50, 51, 52, 53, 54, 55, 56, 57, 97, 98, 99, 100, 101, 102]⟩) (.int .u8 (k : Int))).run Tryd.prog w = .ok (.int .u8 ((hx k).toNat : Int)) w := by
  rcases (show k = 0 ∨ k = 1 ∨ k = 2 ∨ k = 3 ∨ k = 4 ∨ k = 5 ∨ k = 6 ∨ k = 7 ∨ k = 8 ∨ k = 9 ∨ k = 10 ∨ k = 11 ∨ k = 12 ∨ k = 13 ∨ k = 14 ∨ k = 15 by omega) with h | h | h | h | h | h | h | h | h | h | h | h | h | h | h | h <;> subst h <;> kernel_rfl

theorem bits_and : ∀ c : UInt8, bits .and .u8 (c.toNat : Int) 15 = (c.toNat : Int) % 16 := all8 (by decide +kernel)

set_option maxHeartbeats 1000000 in
theorem writeChar_calls (B b : Nat) (l : List UInt8) (c : UInt8) (w : World) (h : IsB B b l w) (hlen : l.length + 4 ≤ 140737488355328) (hBw : B ≤ w.heap.size) (hE : Esc w) (hg : 2 < B) :
    Calls Tryd.prog 38 #[.pointer (some ⟨b, 0, none⟩), .int .u8 c.toNat] w fun e w' => e = .returned (.tuple #[]) ∧ IsB B b (l ++ one c) w' ∧ Below B w w' := by
  have h1 := isPlain_calls c
  by_cases hp : plB c = true
  · rw [one_plain c hp]
    rw [hp] at h1
    have H1 := Lib.hid h1
    have H2 := Lib.hid (writeByte_calls B b l c w h.may (by omega) hBw)
    clear h1 h hp hlen hBw hE hg
    go_enter Tryd.func38, Tryd.ntmps38
    go_wp2_with fail
    refine (H1.out _).mono ?_
    rintro e w' ⟨rfl, rfl⟩
    go_wp2_with fail
    refine H2.out.mono ?_
    rintro e w1 ⟨rfl, k1, k2⟩
    go_wp2_with fail
    refine bodyPost_ret (results_none rfl _ _ _) rfl ?_
    exact ⟨rfl, k1, k2⟩
  have hp' : plB c = false := by simpa using hp
  rw [hp'] at h1
  have H1 := Lib.hid h1
  have H2 := Lib.hid (writeByte_calls B b l 92 w h.may (by omega) hBw)
  have H3 := Lib.hid (fun w1 (k : Below B w w1) => letterOf_calls c w1 (esc_below hE hg k))
  have H4 := Lib.hid (fun (m : List UInt8) (d : UInt8) w1 (k : IsB B b m w1) (j : m.length ≤ l.length + 2) (k2 : Below B w w1) => writeByte_calls B b m d w1 k.may (by omega) (Nat.le_trans hBw k2.size))
  by_cases hl : ltB c = true
  · rw [one_lt c hl]
    clear h1 h hp hp' hlen hE hg
    have H3' := Lib.hid (fun w1 k => by have := H3.out w1 k; rw [hl] at this; exact this)
    clear H3 hl
    go_enter Tryd.func38, Tryd.ntmps38
    go_wp2_with fail
    refine (H1.out _).mono ?_
    rintro e w' ⟨rfl, rfl⟩
    go_wp2_with fail
    refine H2.out.mono ?_
    rintro e w1 ⟨rfl, k1, k2⟩
    go_wp2_with fail
    refine (H3'.out _ k2).mono ?_
    rintro e w2 ⟨rfl, k3⟩
    have k4 : Below B w w2 := k2.trans (k3.mono (Nat.le_trans hBw k2.size))
    have k5 : IsB B b (l ++ [92]) w2 := k1.below k3
    clear k1 k2 k3
    go_wp2_with fail
    refine (H4.out _ _ _ k5 (by simp) k4).mono ?_
    rintro e w3 ⟨rfl, k6, k7⟩
    go_wp2_with fail
    refine bodyPost_ret (results_none rfl _ _ _) rfl ?_
    exact ⟨rfl, by simpa using k6, k4.trans k7⟩
  · have hl' : ltB c = false := by simpa using hl
    rw [one_hex c hp' hl']
    obtain ⟨d1, e1⟩ : ∃ d, d = hx (c.toNat / 16) := ⟨_, rfl⟩
    obtain ⟨d2, e2⟩ : ∃ d, d = hx (c.toNat % 16) := ⟨_, rfl⟩
    rw [← e1, ← e2]
    have H5 := Lib.hid (fun q m w1 (k : IsB B b m w1) (j : m.length ≤ l.length + 2) (k2 : Below B w w1) hc hd => write2_calls B b q m d1 d2 w1 k (by omega) (Nat.le_trans hBw k2.size) hc hd)
    have H3' := Lib.hid (fun w1 k => by have := H3.out w1 k; rw [hl'] at this; exact this)
    have H6 := Lib.hid (fun q x y (m : List UInt8) w1 (k : IsB B b m w1) (j : m.length ≤ l.length + 2) (k2 : Below B w w1) hq hqb => writeByteK_calls B b m 120 w1 k.may (by omega) (Nat.le_trans hBw k2.size) q x y hq hqb)
    have hb := bits_and c
    have i1 := hex_index (c.toNat / 16) (by have : c.toNat < 256 := c.toNat_lt; omega)
    have i2 := hex_index (c.toNat % 16) (by omega)
    rw [← e1, show (((c.toNat / 16 : Nat)) : Int) = (c.toNat : Int) / 16 by omega] at i1
    rw [← e2, show (((c.toNat % 16 : Nat)) : Int) = (c.toNat : Int) % 16 by omega] at i2
    clear h1 h hp hp' hlen hE hg H3 hl hl' e1 e2
    go_enter Tryd.func38, Tryd.ntmps38
    go_wp2_with fail
    refine (H1.out _).mono ?_
    rintro e w' ⟨rfl, rfl⟩
    go_wp2_with fail
    refine H2.out.mono ?_
    rintro e w1 ⟨rfl, k1, k2⟩
    go_wp2_with fail
    refine (H3'.out _ k2).mono ?_
    rintro e w2 ⟨rfl, k3⟩
    have k4 : Below B w w2 := k2.trans (k3.mono (Nat.le_trans hBw k2.size))
    have k5 : IsB B b (l ++ [92]) w2 := k1.below k3
    clear k1 k2 k3
    go_wp2_with fail
    go_region
    have hlt : b < w2.heap.size := Lib.BuilderAtF.lt k5
    have ka : Below w2.heap.size w2 (w2.alloc (.cells #[.int .u8 d1.toNat, .int .u8 d2.toNat] 116)).drew := ((Below.refl _ w2).alloc (Nat.le_refl _) _).drew
    have k6 := k5.below ka
    have k7 : Below B w (w2.alloc (.cells #[.int .u8 d1.toNat, .int .u8 d2.toNat] 116)).drew := k4.trans (ka.mono (Nat.le_trans hBw k4.size))
    have hq : (w2.alloc (.cells #[.int .u8 d1.toNat, .int .u8 d2.toNat] 116)).drew.heap[w2.heap.size]? = some (.cells #[.int .u8 d1.toNat, .int .u8 d2.toNat] 116 (0, 0)) := by
      show (w2.heap.push _)[w2.heap.size]? = _
      simp
    obtain ⟨q, hqe⟩ : ∃ q, q = w2.heap.size := ⟨_, rfl⟩
    obtain ⟨w3, hw3⟩ : ∃ w3, w3 = (w2.alloc (.cells #[.int .u8 d1.toNat, .int .u8 d2.toNat] 116)).drew := ⟨_, rfl⟩
    rw [← hqe] at hq hlt ⊢
    rw [← hw3] at hq k6 k7 ⊢
    have HQ := Lib.hid hq
    have hne : q ≠ b := by omega
    clear hq hqe hw3 ka k4 k5 hlt
    go_wp2_with fail
    refine (H6.out q _ _ _ w3 k6 (by simp) k7 HQ.out hne).mono ?_
    rintro e w4 ⟨rfl, k8, k9, c1, c2⟩
    have k10 := k7.trans k9
    have C1 := Lib.hid c1
    have C2 := Lib.hid c2
    clear c1 c2 k6 k7 k9
    go_wp2_with fail
    refine (H5.out q _ _ k8 (by simp) k10 C1.out C2.out).mono ?_
    rintro e w5 ⟨rfl, k11, k12⟩
    go_wp2_with fail
    go_end0
    exact ⟨rfl, by simpa using k11, k10.trans k12⟩
end Go.Proofs.YtbojhcfofgdoeaaDoor
