/- What key.number does: the number of eight bytes. -/
import Derived.Test.YtppplkfidjjodaaDoorKeyBytes
import Derived.LoopTactic
import Derived.Laws.BitsAll
namespace Go.Proofs.YtppplkfidjjodaaDoor
open Go.RowKit
set_option linter.unusedVariables false

theorem or_u64_nat (a b : Nat) (ha : a < 18446744073709551616) (hb : b < 18446744073709551616) : bits .or .u64 (a : Int) (b : Int) = ((a ||| b : Nat) : Int) := by
  have hx : a ||| b < 2 ^ 64 := Nat.or_lt_two_pow (by omega) (by omega)
  have h1 : (BitVec.ofInt 64 (a : Int)).toNat = a := by
    rw [BitVec.ofInt_natCast, BitVec.toNat_ofNat]; exact Nat.mod_eq_of_lt (by omega)
  have h2 : (BitVec.ofInt 64 (b : Int)).toNat = b := by
    rw [BitVec.ofInt_natCast, BitVec.toNat_ofNat]; exact Nat.mod_eq_of_lt (by omega)
  show IntKind.u64.wrap ((BitVec.ofInt 64 (a : Int) ||| BitVec.ofInt 64 (b : Int)).toNat : Int) = _
  rw [BitVec.toNat_or, h1, h2, IntKind.wrap_u64]
  omega
theorem or_byte (x c : Nat) (hx : x < 72057594037927936) (hc : c < 256) : bits .or .u64 ((x : Int) * 256) (c : Int) = ((x * 256 + c : Nat) : Int) := by
  have e : ((x : Int) * 256) = ((x * 256 : Nat) : Int) := by omega
  rw [e, or_u64_nat _ _ (by omega) (by omega)]
  have := Nat.shiftLeft_add_eq_or_of_lt (i := 8) (b := c) (by omega) x
  rw [Nat.shiftLeft_eq] at this
  rw [show x * 256 = x * 2 ^ 8 by rfl, ← this]
theorem numOf_take (l : List UInt8) (k : Nat) (h : k < l.length) : numOf (l.take (k + 1)) = numOf (l.take k) * 256 + l[k].toNat := by
  rw [List.take_succ_eq_append_getElem h, numOf_snoc]

set_option maxHeartbeats 2000000 in
theorem number_calls (g off len cap : Nat) (l : List UInt8) (w : World) (h : Bts w g off l) (hl : l.length = len) (h8 : 8 ≤ len) (hlc : len ≤ cap) (hb : len ≤ 1000000000) :
    Calls Tryd.prog 23 #[.slice (some ⟨g, off, none⟩) len cap] w fun e w' => e = .returned (.int .i64 ((numOf (l.take 8) : Nat) - 9223372036854775808)) ∧ w = w' := by
  have H := Lib.hid h
  have HL := Lib.hid hl
  have i8 : (8 : Int) ≤ (cap : Int) := by omega
  have HU : Hid (numOf (l.take 8) < 18446744073709551616) := Lib.hid (by
    have h1 := numOf_lt (l.take 8)
    have h2 : (l.take 8).length = 8 := by rw [List.length_take]; omega
    rw [h2] at h1
    exact h1)
  clear h hl
  go_enter Tryd.func23, Tryd.ntmps23
  go_wp2_with fail
  go_loop [3, 9] (fun u i => ∃ (k : Nat), k ≤ 8 ∧ i = .int .i64 k ∧ u = .int .u64 (numOf (l.take k) : Nat)) (fun _ i => 8 - (intOf i).toNat)
  case atStart => exact ⟨0, by omega, rfl, by simp [numOf]⟩
  case round =>
    obtain ⟨k, hk, rfl, rfl⟩ := hrel
    by_cases hk8 : k < 8
    case neg =>
      obtain rfl : k = 8 := by omega
      obtain ⟨u, hu⟩ : ∃ u, u = numOf (l.take 8) := ⟨_, rfl⟩
      have hU := HU.out
      rw [← hu] at hU ⊢
      have HUe := Lib.hid hu
      clear hu HU
      have hw : IntKind.i64.wrap (IntKind.u64.wrap ((u : Int) - 9223372036854775808)) = (u : Int) - 9223372036854775808 := by
        rw [IntKind.wrap_u64, IntKind.wrap_i64]; omega
      go_wp2_with fail
      go_ret
      exact ⟨by rw [← HUe.out]; rfl, rfl⟩
    case pos =>
      have hkl : k < l.length := by rw [HL.out]; omega
      have hc := H.out.get hkl
      have HNx := Lib.hid (numOf_take l k hkl)
      have hx : numOf (l.take k) < 72057594037927936 := by
        have h1 := numOf_lt (l.take k)
        have h2 : (l.take k).length = k := by rw [List.length_take]; omega
        rw [h2] at h1
        exact Nat.lt_of_lt_of_le h1 (Nat.pow_le_pow_right (by omega) (show k ≤ 7 by omega))
      obtain ⟨x, hxe⟩ : ∃ x, x = numOf (l.take k) := ⟨_, rfl⟩
      obtain ⟨c, hce⟩ : ∃ c, c = l[k] := ⟨_, rfl⟩
      rw [← hxe] at hx HNx ⊢
      rw [← hce] at hc HNx
      have hcl := c.toNat_lt
      have hor := or_byte x c.toNat hx hcl
      have hsh : IntKind.u64.wrap ((x : Int) * 256) = (x : Int) * 256 := by rw [IntKind.wrap_u64]; omega
      clear hxe hce hkl
      go_wp2_with fail
      go_round
      case rel => exact ⟨k + 1, by omega, by go_num, by rw [HNx.out, show ((x * 256 + c.toNat : Nat) : Int) = (x : Int) * 256 + (c.toNat : Int) by omega]⟩
      case measure => simp [intOf]; omega
end Go.Proofs.YtppplkfidjjodaaDoor
