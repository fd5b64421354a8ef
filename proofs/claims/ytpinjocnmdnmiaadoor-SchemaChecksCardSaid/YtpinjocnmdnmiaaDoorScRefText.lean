/- A declaration's text: the reference's Text. -/
import Derived.Test.YtpinjocnmdnmiaaDoorScText
namespace Go.Proofs.YtpinjocnmdnmiaaDoor
open Go.RowKit
set_option linter.unusedVariables false

theorem textN_one (x : ByteArray) (V : List Int) : textN x V 1 = textN x V 0 ++ kindL (V.getD 0 0) := by simp [textN, kindsN]
theorem textN_more (x : ByteArray) (V : List Int) (n : Nat) (h : n ≠ 0) : textN x V (n + 1) = textN x V n ++ [44, 32] ++ kindL (V.getD n 0) := by
  rw [textN, textN, kindsN, if_neg h]
  simp
theorem textN_len (x : ByteArray) (V : List Int) (n : Nat) : (textN x V n).length ≤ x.size + 1 + 8 * n := by
  have := kinds_len V n
  rw [textN, List.length_append, List.length_append, ← sc_size]
  simp only [List.length_cons, List.length_nil]
  omega

set_option maxHeartbeats 4000000 in
set_option maxRecDepth 100000 in
theorem refText_calls (x : ByteArray) (b : Option Addr) (len c : Nat) (V : List Int) (w : World) (h : KIn w b len V) (hx : x.size ≤ 1000000) (hl : len ≤ 1000000) :
    Calls Tryd.prog 17 #[.agg #[.string x, .slice b len c]] w fun e w' => e = .returned (.string (textT x V)) ∧ Below w.heap.size w w' := by
  have HL := Lib.hid h.leng
  have hB1 : Below w.heap.size w (w.alloc (.cells #[.string x, .slice b len c] 36)) := (Below.refl w.heap.size w).alloc (Nat.le_refl _) _
  have HB1 := Lib.hid hB1
  have H := Lib.hid (h.below hB1)
  have x0 := cell_new w #[.string x, .slice b len c] 36 (n := 0) rfl
  have x1 := cell_new w #[.string x, .slice b len c] 36 (n := 1) rfl
  have hz : w.heap.size < (w.alloc (.cells #[.string x, .slice b len c] 36)).heap.size := by simp
  have z1 : (⟨#[40]⟩ : ByteArray).size = 1 := rfl
  have hc0 := sc_hcat x ⟨#[40]⟩ (by omega)
  have HX0 : Hid ((x ++ ⟨#[40]⟩).data.toList = textN x V 0) := Lib.hid (by rw [sc_cat]; simp [textN, kindsN])
  have X0 := Lib.hid x0
  have X1 := Lib.hid x1
  have HZ := Lib.hid hz
  clear h hB1 z1 x0 x1 hz
  go_enter Tryd.func17, Tryd.ntmps17
  go_wp2_with fail
  clear hc0
  obtain ⟨w1, hw1⟩ : ∃ w1, w1 = w.alloc (.cells #[.string x, .slice b len c] 36) := ⟨_, rfl⟩
  rw [← hw1] at HB1 H X0 X1 HZ ⊢
  clear hw1
  have x0 := X0.out
  have x1 := X1.out
  have hz := HZ.out
  go_loopw [3, 4] (fun ov iv wr => ∃ (n : Nat) (X : ByteArray), n ≤ len ∧ iv = .int .i64 n ∧ ov = .string X ∧ Hid (X.data.toList = textN x V n) ∧ w1 = wr) (fun _ i _ => len - (intOf i).toNat)
  case atStart => exact ⟨0, _, Nat.zero_le _, rfl, rfl, HX0, rfl⟩
  case round =>
    obtain ⟨n, X, hn, rfl, rfl, HX, rfl⟩ := hrel
    have hXs : X.size ≤ 9000001 := by
      have := textN_len x V n
      rw [sc_size, HX.out]; omega
    by_cases hlt : n < len
    case neg =>
      have z1 : (⟨#[41]⟩ : ByteArray).size = 1 := rfl
      have hc1 := sc_hcat X ⟨#[41]⟩ (by omega)
      have HV : Hid (textT x V = X ++ ⟨#[41]⟩) := Lib.hid (by
        refine (sc_eq ?_).symm
        rw [sc_cat, HX.out, textL, HL.out, ← show n = len by omega])
      clear z1 hXs
      go_wp2_with fail
      go_ret
      exact ⟨by rw [HV.out]; rfl, HB1.out⟩
    case pos =>
      obtain ⟨g, off, rfl, hg, hk⟩ := H.out.at' n hlt
      have hkl := kindL_len (V.getD n 0)
      by_cases h0 : n = 0
      · subst h0
        have HT := Lib.hid (textN_one x V)
        rw [Nat.add_zero] at hk
        generalize V.getD 0 0 = k at hk HT hkl
        by_cases k1 : k = 1
        · subst k1
          have z3 : (⟨#[105, 110, 116]⟩ : ByteArray).size = 3 := rfl
          have hc3 := sc_hcat X ⟨#[105, 110, 116]⟩ (by omega)
          have HX2 : Hid ((X ++ ⟨#[105, 110, 116]⟩).data.toList = textN x V (0 + 1)) := Lib.hid (by rw [sc_cat, HX.out, HT.out]; rfl)
          clear z3
          clear HT hkl hXs
          go_wp2_with fail
          go_roundw
          case rel => exact ⟨1, _, hlt, by go_num, rfl, HX2, trivial⟩
          case measure => simp [intOf]; omega
        by_cases k2 : k = 2
        · subst k2
          have z3 : (⟨#[115, 116, 114, 105, 110, 103]⟩ : ByteArray).size = 6 := rfl
          have hc3 := sc_hcat X ⟨#[115, 116, 114, 105, 110, 103]⟩ (by omega)
          have HX2 : Hid ((X ++ ⟨#[115, 116, 114, 105, 110, 103]⟩).data.toList = textN x V (0 + 1)) := Lib.hid (by rw [sc_cat, HX.out, HT.out]; rfl)
          clear z3
          clear HT hkl hXs
          go_wp2_with fail
          go_roundw
          case rel => exact ⟨1, _, hlt, by go_num, rfl, HX2, trivial⟩
          case measure => simp [intOf]; omega
        by_cases k3 : k = 3
        · subst k3
          have z3 : (⟨#[98, 111, 111, 108]⟩ : ByteArray).size = 4 := rfl
          have hc3 := sc_hcat X ⟨#[98, 111, 111, 108]⟩ (by omega)
          have HX2 : Hid ((X ++ ⟨#[98, 111, 111, 108]⟩).data.toList = textN x V (0 + 1)) := Lib.hid (by rw [sc_cat, HX.out, HT.out]; rfl)
          clear z3
          clear HT hkl hXs
          go_wp2_with fail
          go_roundw
          case rel => exact ⟨1, _, hlt, by go_num, rfl, HX2, trivial⟩
          case measure => simp [intOf]; omega
        have hkk : kindL k = [] := by rw [kindL, if_neg k1, if_neg k2, if_neg k3]
        rw [hkk, List.append_nil] at HT
        have HX2 : Hid ((X).data.toList = textN x V (0 + 1)) := Lib.hid (by rw [HX.out, HT.out])
        have t1 : (k == 1) = false := by simpa using k1
        have t2 : (k == 2) = false := by simpa using k2
        have t3 : (k == 3) = false := by simpa using k3
        clear hkk k1 k2 k3
        clear HT hkl hXs
        go_wp2_with fail
        go_roundw
        case rel => exact ⟨1, _, hlt, by go_num, rfl, HX2, trivial⟩
        case measure => simp [intOf]; omega
      · have hn0 : 0 < n := by omega
        have HT := Lib.hid (textN_more x V n h0)
        generalize V.getD n 0 = k at hk HT hkl
        have z2 : (⟨#[44, 32]⟩ : ByteArray).size = 2 := rfl
        have hc2 := sc_hcat X ⟨#[44, 32]⟩ (by omega)
        by_cases k1 : k = 1
        · subst k1
          have z3 : (⟨#[105, 110, 116]⟩ : ByteArray).size = 3 := rfl
          have hc3 := sc_hcat (X ++ ⟨#[44, 32]⟩) ⟨#[105, 110, 116]⟩ (by rw [sc_catSize]; omega)
          have HX2 : Hid ((X ++ ⟨#[44, 32]⟩ ++ ⟨#[105, 110, 116]⟩).data.toList = textN x V (n + 1)) := Lib.hid (by rw [sc_cat, sc_cat, HX.out, HT.out]; rfl)
          clear z3
          clear HT hkl hXs z2 h0
          go_wp2_with fail
          go_roundw
          case rel => exact ⟨n + 1, _, hlt, by go_num, rfl, HX2, trivial⟩
          case measure => simp [intOf]; omega
        by_cases k2 : k = 2
        · subst k2
          have z3 : (⟨#[115, 116, 114, 105, 110, 103]⟩ : ByteArray).size = 6 := rfl
          have hc3 := sc_hcat (X ++ ⟨#[44, 32]⟩) ⟨#[115, 116, 114, 105, 110, 103]⟩ (by rw [sc_catSize]; omega)
          have HX2 : Hid ((X ++ ⟨#[44, 32]⟩ ++ ⟨#[115, 116, 114, 105, 110, 103]⟩).data.toList = textN x V (n + 1)) := Lib.hid (by rw [sc_cat, sc_cat, HX.out, HT.out]; rfl)
          clear z3
          clear HT hkl hXs z2 h0
          go_wp2_with fail
          go_roundw
          case rel => exact ⟨n + 1, _, hlt, by go_num, rfl, HX2, trivial⟩
          case measure => simp [intOf]; omega
        by_cases k3 : k = 3
        · subst k3
          have z3 : (⟨#[98, 111, 111, 108]⟩ : ByteArray).size = 4 := rfl
          have hc3 := sc_hcat (X ++ ⟨#[44, 32]⟩) ⟨#[98, 111, 111, 108]⟩ (by rw [sc_catSize]; omega)
          have HX2 : Hid ((X ++ ⟨#[44, 32]⟩ ++ ⟨#[98, 111, 111, 108]⟩).data.toList = textN x V (n + 1)) := Lib.hid (by rw [sc_cat, sc_cat, HX.out, HT.out]; rfl)
          clear z3
          clear HT hkl hXs z2 h0
          go_wp2_with fail
          go_roundw
          case rel => exact ⟨n + 1, _, hlt, by go_num, rfl, HX2, trivial⟩
          case measure => simp [intOf]; omega
        have hkk : kindL k = [] := by rw [kindL, if_neg k1, if_neg k2, if_neg k3]
        rw [hkk, List.append_nil] at HT
        have HX2 : Hid ((X ++ ⟨#[44, 32]⟩).data.toList = textN x V (n + 1)) := Lib.hid (by rw [sc_cat, HX.out, HT.out])
        have t1 : (k == 1) = false := by simpa using k1
        have t2 : (k == 2) = false := by simpa using k2
        have t3 : (k == 3) = false := by simpa using k3
        clear hkk k1 k2 k3
        clear HT hkl hXs z2 h0
        go_wp2_with fail
        go_roundw
        case rel => exact ⟨n + 1, _, hlt, by go_num, rfl, HX2, trivial⟩
        case measure => simp [intOf]; omega
end Go.Proofs.YtpinjocnmdnmiaaDoor
