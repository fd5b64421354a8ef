/- What quote.Quote does with any text. -/
import Derived.Test.YtbojhcfofgdoeaaDoorQuoteWrite
import Derived.Test.YtbojhcfofgdoeaaDoorQuoteSmall
namespace Go.Proofs.YtbojhcfofgdoeaaDoor
open Go.RowKit

set_option maxHeartbeats 1000000 in
theorem quote_calls (s : ByteArray) (w : World) (hs : s.size ≤ 4294967296) (hE : Esc w) :
    Calls Tryd.prog 18 #[.string s] w fun e w' => e = .returned (.string ⟨(quoteL s.data.toList).toArray⟩) ∧ Below w.heap.size w w' := by
  obtain ⟨l, hl⟩ : ∃ l, l = s.data.toList := ⟨_, rfl⟩
  have hlen : s.size = l.length := by rw [hl, ba_size]
  rw [← hl]
  have HL := Lib.hid hl
  have HN := Lib.hid hlen
  clear hl hlen
  have hg := var_lt gEsc hE
  obtain ⟨B, hB⟩ : ∃ B, B = w.heap.size := ⟨_, rfl⟩
  have ha : Below B w (w.alloc (.cells #[.pointer none, .slice none 0 0] 79)) := by rw [hB]; exact (Below.refl _ w).alloc (Nat.le_refl _) _
  have hq : (w.alloc (.cells #[.pointer none, .slice none 0 0] 79)).heap[B]? = some (.cells #[.pointer none, .slice none 0 0] 79 (0, 0)) := by
    rw [hB]; show (w.heap.push _)[w.heap.size]? = _
    simp
  have h1 := grow_calls B B (s.size + 2) _ (Nat.le_refl _) hq (by rw [hB]; simp) (by omega)
  rw [show ((s.size + 2 : Nat) : Int) = (s.size : Int) + 2 by omega] at h1
  have hBw : B ≤ w.heap.size := by omega
  have HE := Lib.hid hE
  have H1 := Lib.hid h1
  have H2 := Lib.hid (fun (m : List UInt8) (d : UInt8) w1 (k : MayB B B m w1) (j : m.length ≤ 281474976710) (k2 : Below B w w1) => writeByte_calls B B m d w1 k (by omega) (Nat.le_trans hBw k2.size))
  have H3 := Lib.hid (fun (m : List UInt8) (d : UInt8) w1 (k : IsB B B m w1) (j : m.length ≤ 281474976710) (k2 : Below B w w1) => writeChar_calls B B m d w1 k (by omega) (Nat.le_trans hBw k2.size) (esc_below hE (by omega) k2) (by omega))
  have H4 := Lib.hid (fun (m : List UInt8) w1 (k : IsB B B m w1) (k2 : Below B w w1) => string_calls B B m w1 k.may (Nat.le_trans hBw k2.size))
  have HB := Lib.hid hB
  clear h1 hq hE hg hBw
  rw [← hB]
  go_enter Tryd.func18, Tryd.ntmps18
  go_wp2_with fail
  rw [← hB]
  clear hB
  refine H1.out.mono ?_
  rintro e w1 ⟨rfl, k1, k2⟩
  have k3 := ha.trans k2
  clear k2 ha
  go_wp2_with fail
  refine (H2.out _ 34 _ k1 (by simp) k3).mono ?_
  rintro e w2 ⟨rfl, k4, k5⟩
  have k6 := k3.trans k5
  clear k1 k3 k5
  go_wp2_with fail
  go_loopw [12] (fun i wr => ∃ (k : Nat) (m : List UInt8), k ≤ s.size ∧ i = .int .i64 k ∧ Hid (m = 34 :: body (l.take k)) ∧ IsB B B m wr ∧ Below B w wr) (fun i _ => s.size - (intOf i).toNat)
  case atStart => exact ⟨0, [34], Nat.zero_le _, rfl, Lib.hid rfl, k4, k6⟩
  case round =>
    clear k4 k6
    obtain ⟨k, m, hk, rfl, HM, k4, k6⟩ := hrel
    have hml : m.length ≤ 1 + 4 * k := by
      rw [HM.out, List.length_cons]
      have := (body_len (l.take k)).2
      have : (l.take k).length ≤ k := List.length_take_le _ _
      omega
    by_cases hlt : k < s.size
    · have hkl : k < l.length := by rw [← HN.out]; exact hlt
      have HC : Hid (l[k] = s[k]) := Lib.hid (by
        have := HL.out
        subst this
        rfl)
      go_wp2_with fail
      refine (H3.out _ s[k] _ k4 (by omega) k6).mono ?_
      rintro e w3 ⟨rfl, k7, k8⟩
      have k9 := k6.trans k8
      clear k4 k6 k8
      go_wp2_with fail
      go_roundw
      case rel => exact ⟨k + 1, m ++ one s[k], by omega, by go_num, Lib.hid (by rw [HM.out, body_take l k hkl, HC.out]; rfl), k7, k9⟩
      case measure => simp [intOf]; omega
    · have HX : Hid (m ++ [34] = quoteL l) := Lib.hid (by rw [HM.out, List.take_of_length_le (by rw [← HN.out]; omega)]; rfl)
      go_wp2_with fail
      refine (H2.out _ 34 _ k4.may (by omega) k6).mono ?_
      rintro e w3 ⟨rfl, k7, k8⟩
      have k9 := k6.trans k8
      clear k4 k6 k8
      go_wp2_with fail
      refine (H4.out _ _ k7 k9).mono ?_
      rintro e w4 ⟨rfl, k10⟩
      have k11 := k9.trans k10
      go_wp2_with fail
      go_ret
      refine ⟨ret_str ?_, k11⟩
      rw [HX.out]

end Go.Proofs.YtbojhcfofgdoeaaDoor
