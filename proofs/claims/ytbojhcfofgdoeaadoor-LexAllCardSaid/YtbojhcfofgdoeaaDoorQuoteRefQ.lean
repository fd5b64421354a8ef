/- What the reference's Quote does with any text: its quoted form. -/
import Derived.Test.YtbojhcfofgdoeaaDoorQuoteRef
import Derived.Test.YtbojhcfofgdoeaaDoorQuoteSmall
namespace Go.Proofs.YtbojhcfofgdoeaaDoor
open Go.RowKit

/-- A byte's form, under a name. -/
theorem refOne_named (c : UInt8) : ∃ b : ByteArray, Hid (b.data.toList = one c) ∧ Hid (∀ w, Calls Tryd.prog 36 #[.int .u8 c.toNat] w fun e w' => e = .returned (.string b) ∧ Below w.heap.size w w') :=
  ⟨⟨(one c).toArray⟩, Lib.hid rfl, Lib.hid (refOne_calls c)⟩

set_option maxHeartbeats 1000000 in
theorem refQuote_calls (s : ByteArray) (w : World) (hs : s.size ≤ 4294967296) :
    Calls Tryd.prog 17 #[.string s] w fun e w' => e = .returned (.string ⟨(quoteL s.data.toList).toArray⟩) ∧ Below w.heap.size w w' := by
  obtain ⟨l, hl⟩ : ∃ l, l = s.data.toList := ⟨_, rfl⟩
  have hlen : s.size = l.length := by rw [hl, ba_size]
  rw [← hl]
  have HL := Lib.hid hl
  have HN := Lib.hid hlen
  clear hl hlen
  go_enter Tryd.func17, Tryd.ntmps17
  go_wp2_with fail
  go_loopw [3, 4] (fun o i wr => ∃ (k : Nat) (a : ByteArray), k ≤ s.size ∧ i = .int .i64 k ∧ o = .string a ∧ Hid (a.data.toList = 34 :: body (l.take k)) ∧ Below w.heap.size w wr) (fun _ i _ => s.size - (intOf i).toNat)
  case atStart => exact ⟨0, ⟨#[34]⟩, Nat.zero_le _, rfl, rfl, Lib.hid rfl, Below.refl _ _⟩
  case round =>
    obtain ⟨k, a, hk, rfl, rfl, HA, hb⟩ := hrel
    have hal : a.size ≤ 1 + 4 * k := by
      rw [ba_size, HA.out, List.length_cons]
      have := (body_len (l.take k)).2
      have : (l.take k).length ≤ k := List.length_take_le _ _
      omega
    by_cases hlt : k < s.size
    · have hkl : k < l.length := by rw [← HN.out]; exact hlt
      obtain ⟨b, HB, HO⟩ := refOne_named s[k]
      have HC : Hid (l[k] = s[k]) := Lib.hid (by
        have := HL.out
        subst this
        rfl)
      have hbl : b.size ≤ 4 := by rw [ba_size, HB.out]; exact (one_len _).2
      have hcat : ∀ w, (Op.stringOp .add a b).run Tryd.prog w = .ok (.string (a ++ b)) w := fun w => run_string_add_sum w a b (by omega)
      go_wp2_with (go_at_call 36; refine (HO.out _).mono ?_; rintro e w1 ⟨rfl, hb1⟩)
      go_roundw
      case rel => exact ⟨k + 1, a ++ b, by omega, by go_num, rfl, Lib.hid (by rw [cat_list, HA.out, HB.out, body_take l k hkl, HC.out]; rfl), hb.trans (hb1.mono hb.size)⟩
      case measure => simp [intOf]; omega
    · have hcat : ∀ w, (Op.stringOp .add a ⟨#[34]⟩).run Tryd.prog w = .ok (.string (a ++ ⟨#[34]⟩)) w := fun w => run_string_add_sum w a ⟨#[34]⟩ (by have : (⟨#[34]⟩ : ByteArray).size = 1 := rfl; omega)
      go_wp2_with fail
      go_ret
      refine ⟨ret_str (ba_of ?_), hb⟩
      rw [cat_list, HA.out, List.take_of_length_le (by rw [← HN.out]; omega)]
      rfl
end Go.Proofs.YtbojhcfofgdoeaaDoor
