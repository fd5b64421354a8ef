/- Contracts of a lower layer, several texts in one. -/
import Derived.Test.YtmjchmamkjbgkaaGreatDoorNumForm
import Derived.Test.YtmjchmamkjbgkaaGreatDoorBase
import Derived.Test.YtmjchmamkjbgkaaGreatDoorNumMath
import Derived.RegionTactic
import Derived.Deep.QuietTactic
import Derived.BigQuiet
import Derived.IntWalk
import Derived.Lib.ItoaLen
import Derived.Test.YtmjchmamkjbgkaaGreatDoorQuoteBytes
import Derived.Laws.IdiomStrings
import Derived.Test.YtmjchmamkjbgkaaGreatDoorQuoteSmall
import Derived.Test.YtmjchmamkjbgkaaGreatDoorValCells
import Derived.Test.YtmjchmamkjbgkaaGreatDoorValData
import Derived.Test.YtmjchmamkjbgkaaGreatDoorValRight
import Derived.Test.YtmjchmamkjbgkaaGreatDoorCsvCut
import Derived.Test.YtmjchmamkjbgkaaGreatDoorCsvLineMath
import Derived.Test.YtmjchmamkjbgkaaGreatDoorShelfAll
import Derived.Shelf.Strings.BuilderK
import Derived.Test.YtmjchmamkjbgkaaGreatDoorProg
import Derived.Test.YtmjchmamkjbgkaaGreatDoorCsvOwn
/- NumRefText -/
namespace Go.Proofs.YtmjchmamkjbgkaaGreatDoor
open Go.RowKit

theorem itoa_small (k : Nat) (h : k < 10) : Lib.itoa (k : Int) = [UInt8.ofNat (48 + k)] := by
  rw [Lib.itoa_nonneg, Lib.decDigits_one h]
theorem itoa_big (u : Nat) (h : ¬ u < 10) : Lib.itoa (u : Int) = Lib.itoa ((u / 10 : Nat) : Int) ++ [UInt8.ofNat (48 + u % 10)] := by
  rw [Lib.itoa_nonneg, Lib.itoa_nonneg, dec_big h]
theorem itoa_negSmall (k : Nat) (h1 : 1 ≤ k) (h : k < 10) : Lib.itoa (-(k : Int)) = [45, UInt8.ofNat (48 + k)] := by
  rw [Lib.itoa_neg k h1, Lib.decDigits_one h]
theorem itoa_negBig (u : Nat) (h : ¬ u < 10) : Lib.itoa (-(u : Int)) = Lib.itoa (-((u / 10 : Nat) : Int)) ++ [UInt8.ofNat (48 + u % 10)] := by
  rw [Lib.itoa_neg u (by omega), Lib.itoa_neg (u / 10) (by omega), dec_big h]; rfl
theorem digit_at (k : Nat) (h : k < 10) : (⟨#[48, 49, 50, 51, 52, 53, 54, 55, 56, 57]⟩ : ByteArray).extract k (k + 1) = ⟨#[UInt8.ofNat (48 + k)]⟩ := by
  rcases (show k = 0 ∨ k = 1 ∨ k = 2 ∨ k = 3 ∨ k = 4 ∨ k = 5 ∨ k = 6 ∨ k = 7 ∨ k = 8 ∨ k = 9 by omega) with h | h | h | h | h | h | h | h | h | h <;> subst h <;> decide +kernel

set_option maxHeartbeats 400000 in
theorem refTextSmall (k : Nat) (h : k < 10) (w : World) :
    Calls Tryz.prog 61 #[.int .i64 k] w fun e w' => e = .returned (.string ⟨(Lib.itoa k).toArray⟩) ∧ ∃ n, w' = w.drewN n := by
  rw [itoa_small k h]
  have HD := Lib.hid (digit_at k h)
  have t1 : decide ((0 : Int) ≤ (k : Int)) = true := by simp
  have t2 : decide ((k : Int) < 10) = true := by simp; omega
  go_enter Tryz.func61, Tryz.ntmps61
  go_wp2_with fail
  go_ret
  exact ⟨by rw [HD.out]; rfl, 0, rfl⟩

/-- The digit at k, cut out of the ten. -/
theorem slice_digit (k : Nat) (h : k < 10) (w : World) :
    (Instr.slice 9 (.string ⟨#[48, 49, 50, 51, 52, 53, 54, 55, 56, 57]⟩) (some (.int .i64 (k : Int))) (some (.int .i64 ((k : Int) + 1))) none).run Tryz.prog w = .ok (.string ⟨#[UInt8.ofNat (48 + k)]⟩) w := by
  rw [run_slice_string w 9 _ .i64 .i64 (k : Int) ((k : Int) + 1) Tryz.underlying9 (by omega) (by omega) (by show (k : Int) + 1 ≤ 10; omega)]
  rw [show ((k : Int) + 1).toNat = k + 1 by omega, Int.toNat_natCast, digit_at k h]

set_option maxHeartbeats 400000 in
theorem refTextNeg (k : Nat) (h1 : 1 ≤ k) (h : k < 10) (w : World) :
    Calls Tryz.prog 61 #[.int .i64 (-(k : Int))] w fun e w' => e = .returned (.string ⟨(Lib.itoa (-(k : Int))).toArray⟩) ∧ ∃ n, w' = w.drewN n := by
  rw [itoa_negSmall k h1 h]
  have HD := Lib.hid (digit_at k h)
  have t1 : decide ((0 : Int) ≤ -(k : Int)) = false := by simp; omega
  have t2 : decide ((10 : Int) ≤ -(k : Int)) = false := by simp; omega
  have t3 : decide ((-10 : Int) < -(k : Int)) = true := by simp; omega
  go_enter Tryz.func61, Tryz.ntmps61
  go_wp2_with fail
  go_ret
  refine ⟨ret_str ?_, 0, rfl⟩
  rw [HD.out]
  rfl


theorem append_snoc (l : List UInt8) (c : UInt8) : (⟨l.toArray⟩ : ByteArray) ++ ⟨#[c]⟩ = ⟨(l ++ [c]).toArray⟩ := by
  exact ByteArray.mk_append_mk l [c]

set_option maxHeartbeats 400000 in
theorem refTextBig (x : Int) (l : List UInt8) (q : Int) (r : Nat) (w : World) (hl : l.length ≤ 21) (hr10 : r < 10) (hx : 10 ≤ x) (hx2 : x ≤ 9223372036854775807)
    (eq : x.tdiv 10 = q) (er : x.tmod 10 = (r : Int))
    (ih : ∀ w, Calls Tryz.prog 61 #[.int .i64 q] w fun e w' => e = .returned (.string ⟨l.toArray⟩) ∧ ∃ n, w' = w.drewN n) :
    Calls Tryz.prog 61 #[.int .i64 x] w fun e w' => e = .returned (.string ⟨(l ++ [UInt8.ofNat (48 + r)]).toArray⟩) ∧ ∃ n, w' = w.drewN n := by
  have HA := Lib.hid (append_snoc l (UInt8.ofNat (48 + r)))
  have hsl := slice_digit r hr10
  obtain ⟨a, ha⟩ : ∃ a : ByteArray, a = ⟨l.toArray⟩ := ⟨_, rfl⟩
  obtain ⟨b, hb⟩ : ∃ b : ByteArray, b = ⟨#[UInt8.ofNat (48 + r)]⟩ := ⟨_, rfl⟩
  have hsz : a.size + b.size ≤ 9223372036854775807 := by rw [ha, hb]; show l.toArray.size + 1 ≤ _; rw [List.size_toArray]; omega
  rw [← ha] at ih HA
  rw [← hb] at hsl HA
  have HI := Lib.hid ih
  have t1 : decide ((0 : Int) ≤ x) = true := by simp; omega
  have t2 : decide (x < (10 : Int)) = false := by simp; omega
  have t3 : decide ((10 : Int) ≤ x) = true := by simp; omega
  have hq1 : -9223372036854775808 ≤ q ∧ q ≤ 9223372036854775807 := by
    rw [← eq, Int.tdiv_eq_ediv_of_nonneg (by omega)]; omega
  have e1 : IntKind.i64.wrap (x.tdiv 10) = q := by rw [eq]; exact IntWalk.i64_in _ hq1
  have e3 : IntKind.i64.wrap ((r : Int) + 1) = (r : Int) + 1 := IntWalk.i64_in _ (by omega)
  have hcat : ∀ w, (Op.stringOp .add a b).run Tryz.prog w = .ok (.string (a ++ b)) w := fun w => run_string_add_sum w a b hsz
  clear ha hb ih hq1 eq hx hx2 hl hr10 hsz
  go_enter Tryz.func61, Tryz.ntmps61
  go_wp2_with fail
  go_quiet ((go_at_call 61; exact Calls.quiet_of (HI.out _)))
  go_wp2_with fail
  go_ret
  exact ⟨ret_str HA.out, _, rfl⟩

set_option maxHeartbeats 400000 in
theorem refTextNegBig (x : Int) (l : List UInt8) (q : Int) (r : Nat) (w : World) (hl : l.length ≤ 21) (hr10 : r < 10) (hx : x ≤ -10) (hx2 : -9223372036854775808 ≤ x)
    (eq : x.tdiv 10 = q) (hq1 : -9223372036854775808 ≤ q ∧ q ≤ 9223372036854775807) (er : x.tmod 10 = -(r : Int))
    (ih : ∀ w, Calls Tryz.prog 61 #[.int .i64 q] w fun e w' => e = .returned (.string ⟨l.toArray⟩) ∧ ∃ n, w' = w.drewN n) :
    Calls Tryz.prog 61 #[.int .i64 x] w fun e w' => e = .returned (.string ⟨(l ++ [UInt8.ofNat (48 + r)]).toArray⟩) ∧ ∃ n, w' = w.drewN n := by
  have HA := Lib.hid (append_snoc l (UInt8.ofNat (48 + r)))
  have hsl := slice_digit r hr10
  obtain ⟨a, ha⟩ : ∃ a : ByteArray, a = ⟨l.toArray⟩ := ⟨_, rfl⟩
  obtain ⟨b, hb⟩ : ∃ b : ByteArray, b = ⟨#[UInt8.ofNat (48 + r)]⟩ := ⟨_, rfl⟩
  have hsz : a.size + b.size ≤ 9223372036854775807 := by rw [ha, hb]; show l.toArray.size + 1 ≤ _; rw [List.size_toArray]; omega
  rw [← ha] at ih HA
  rw [← hb] at hsl HA
  have HI := Lib.hid ih
  have t1 : decide ((0 : Int) ≤ x) = false := by simp; omega
  have t3 : decide ((10 : Int) ≤ x) = false := by simp; omega
  have t4 : decide ((-10 : Int) < x) = false := by simp; omega
  have e1 : IntKind.i64.wrap (x.tdiv 10) = q := by rw [eq]; exact IntWalk.i64_in _ hq1
  have e3 : IntKind.i64.wrap ((r : Int) + 1) = (r : Int) + 1 := IntWalk.i64_in _ (by omega)
  have hcat : ∀ w, (Op.stringOp .add a b).run Tryz.prog w = .ok (.string (a ++ b)) w := fun w => run_string_add_sum w a b hsz
  clear ha hb ih hq1 eq hl hsz hx hx2
  go_enter Tryz.func61, Tryz.ntmps61
  go_wp2_with fail
  go_quiet ((go_at_call 61; exact Calls.quiet_of (HI.out _)))
  go_wp2_with fail
  go_ret
  exact ⟨ret_str HA.out, _, rfl⟩

theorem refText_calls (k : Nat) : ∀ (x : Int) (w : World), x.natAbs ≤ k → -9223372036854775808 ≤ x → x ≤ 9223372036854775807 →
    Calls Tryz.prog 61 #[.int .i64 x] w fun e w' => e = .returned (.string ⟨(Lib.itoa x).toArray⟩) ∧ ∃ n, w' = w.drewN n := by
  induction k with
  | zero =>
    intro x w hk h1 h2
    obtain rfl : x = ((0 : Nat) : Int) := by omega
    exact refTextSmall 0 (by omega) w
  | succ k ih =>
    intro x w hk h1 h2
    by_cases hs : 0 ≤ x
    · obtain ⟨u, rfl⟩ := Int.eq_ofNat_of_zero_le hs
      by_cases h10 : u < 10
      · exact refTextSmall u h10 w
      · rw [itoa_big u h10]
        exact refTextBig (u : Int) _ ((u / 10 : Nat) : Int) (u % 10) w (Lib.itoa_length_le _ (by omega) (by omega)) (by omega) (by omega) h2
          (by rw [Int.tdiv_eq_ediv_of_nonneg (by omega)]; omega) (by rw [Int.tmod_eq_emod_of_nonneg (by omega)]; omega)
          (fun w => ih _ w (by omega) (by omega) (by omega))
    · obtain ⟨u, hu⟩ := Int.eq_ofNat_of_zero_le (show 0 ≤ -x by omega)
      obtain rfl : x = -(u : Int) := by omega
      by_cases h10 : u < 10
      · exact refTextNeg u (by omega) h10 w
      · rw [itoa_negBig u h10]
        exact refTextNegBig (-(u : Int)) _ (-((u / 10 : Nat) : Int)) (u % 10) w (Lib.itoa_length_le _ (by omega) (by omega)) (by omega) (by omega) h1
          (by rw [Int.neg_tdiv, Int.tdiv_eq_ediv_of_nonneg (by omega)]; omega) ⟨by omega, by omega⟩ (by rw [Int.neg_tmod, Int.tmod_eq_emod_of_nonneg (by omega)]; omega)
          (fun w => ih _ w (by omega) (by omega) (by omega))
end Go.Proofs.YtmjchmamkjbgkaaGreatDoor

/- QuoteRef -/
namespace Go.Proofs.YtmjchmamkjbgkaaGreatDoor
open Go.RowKit

theorem hex_at (k : Nat) (h : k < 16) : (⟨#[48, 49, 50, 51, 52, 53, 54, 55, 56, 57, 97, 98, 99, 100, 101, 102]⟩ : ByteArray).extract k (k + 1) = ⟨#[hx k]⟩ := by
  have : ∀ k : Fin 16, (⟨#[48, 49, 50, 51, 52, 53, 54, 55, 56, 57, 97, 98, 99, 100, 101, 102]⟩ : ByteArray).extract k.val (k.val + 1) = ⟨#[hx k.val]⟩ := by decide +kernel
  exact this ⟨k, h⟩

set_option maxHeartbeats 400000 in
theorem hex_calls (k : Nat) (h : k < 16) (w : World) :
    Calls Tryz.prog 102 #[.int .i64 k] w fun e w' => e = .returned (.string ⟨#[hx k]⟩) ∧ w = w' := by
  have HD := Lib.hid (hex_at k h)
  go_enter Tryz.func102, Tryz.ntmps102
  go_wp2_with fail
  go_ret
  exact ⟨ret_str HD.out, rfl⟩

set_option maxHeartbeats 400000 in
theorem refOne_calls (c : UInt8) (w : World) :
    Calls Tryz.prog 85 #[.int .u8 c.toNat] w fun e w' => e = .returned (.string ⟨(one c).toArray⟩) ∧ Below w.heap.size w w' := by
  by_cases h0 : c = 34
  · subst h0
    go_enter Tryz.func85, Tryz.ntmps85
    go_wp2
    go_ret
    exact ⟨rfl, Below.refl _ _⟩
  by_cases h1 : c = 92
  · subst h1
    clear h0
    go_enter Tryz.func85, Tryz.ntmps85
    go_wp2
    go_ret
    exact ⟨rfl, Below.refl _ _⟩
  by_cases h2 : c = 10
  · subst h2
    clear h0 h1
    go_enter Tryz.func85, Tryz.ntmps85
    go_wp2
    go_ret
    exact ⟨rfl, Below.refl _ _⟩
  by_cases h3 : c = 13
  · subst h3
    clear h0 h1 h2
    go_enter Tryz.func85, Tryz.ntmps85
    go_wp2
    go_ret
    exact ⟨rfl, Below.refl _ _⟩
  by_cases h4 : c = 9
  · subst h4
    clear h0 h1 h2 h3
    go_enter Tryz.func85, Tryz.ntmps85
    go_wp2
    go_ret
    exact ⟨rfl, Below.refl _ _⟩
  have t0 : ((c.toNat : Int) == 34) = false := by rw [show ((c.toNat : Int) == 34) = (c == 34) from byte_beq c 34 (by omega)]; simpa using h0
  have t1 : ((c.toNat : Int) == 92) = false := by rw [show ((c.toNat : Int) == 92) = (c == 92) from byte_beq c 92 (by omega)]; simpa using h1
  have t2 : ((c.toNat : Int) == 10) = false := by rw [show ((c.toNat : Int) == 10) = (c == 10) from byte_beq c 10 (by omega)]; simpa using h2
  have t3 : ((c.toNat : Int) == 13) = false := by rw [show ((c.toNat : Int) == 13) = (c == 13) from byte_beq c 13 (by omega)]; simpa using h3
  have t4 : ((c.toNat : Int) == 9) = false := by rw [show ((c.toNat : Int) == 9) = (c == 9) from byte_beq c 9 (by omega)]; simpa using h4
  have hl : ltB c = false := by unfold ltB; simp [h0, h1, h2, h3, h4]
  have hlt : c.toNat < 256 := c.toNat_lt
  by_cases hp : plB c = true
  · rw [one_plain c hp]
    have hr : 32 ≤ c.toNat ∧ c.toNat ≤ 126 := by
      unfold plB at hp
      simp only [Bool.and_eq_true, decide_eq_true_eq] at hp
      exact ⟨hp.1, hp.2.1⟩
    obtain ⟨g1, g2⟩ := hr
    have t5 : decide ((c.toNat : Int) < 32) = false := by simp; omega
    have t6 : decide ((126 : Int) < (c.toNat : Int)) = false := by simp; omega
    have hc : (convert 65 9 (.slice (some ⟨w.heap.size, 0, none⟩) 1 1)).run Tryz.prog (w.alloc (.cells #[.int .u8 c.toNat] 5)) = .ok (.string ⟨#[c]⟩) (w.alloc (.cells #[.int .u8 c.toNat] 5)) :=
      run_convert_bytes_back _ 65 9 5 ⟨w.heap.size, 0, none⟩ 1 [c] Tryz.underlying65 Tryz.underlying5 Tryz.underlying9 (by
        intro j hj
        have : j = 0 := by simpa using hj
        subst this
        simp [Addr.add])
    clear h0 h1 h2 h3 h4 hp hl g1 g2
    go_enter Tryz.func85, Tryz.ntmps85
    go_wp2
    go_ret
    exact ⟨rfl, (Below.refl _ _).alloc (Nat.le_refl _) _⟩
  · have hp' : plB c = false := by simpa using hp
    rw [one_hex c hp' hl]
    obtain ⟨d1, e1⟩ : ∃ d, d = hx (c.toNat / 16) := ⟨_, rfl⟩
    obtain ⟨d2, e2⟩ : ∃ d, d = hx (c.toNat % 16) := ⟨_, rfl⟩
    have k1 := fun w => hex_calls (c.toNat / 16) (by omega) w
    have k2 := fun w => hex_calls (c.toNat % 16) (by omega) w
    rw [← e1] at k1 ⊢
    rw [← e2] at k2 ⊢
    rw [show (((c.toNat / 16 : Nat)) : Int) = (c.toNat : Int) / 16 by omega] at k1
    rw [show (((c.toNat % 16 : Nat)) : Int) = (c.toNat : Int) % 16 by omega] at k2
    have H1 := Lib.hid k1
    have H2 := Lib.hid k2
    by_cases hs : c.toNat < 32
    · have t5 : decide ((c.toNat : Int) < 32) = true := by simp; omega
      clear h0 h1 h2 h3 h4 hp hl hp' hs e1 e2 k1 k2
      go_enter Tryz.func85, Tryz.ntmps85
      go_wp2_with fail
      refine (H1.out _).mono ?_
      rintro e w' ⟨rfl, rfl⟩
      go_wp2_with fail
      refine (H2.out _).mono ?_
      rintro e w' ⟨rfl, rfl⟩
      go_wp2_with fail
      go_ret
      exact ⟨rfl, Below.refl _ _⟩
    · have hb : 126 < c.toNat := by
        refine Nat.lt_of_not_le fun hle => ?_
        rw [show plB c = true by unfold plB; simp [h0, h1, hle, Nat.le_of_not_lt hs]] at hp'
        exact absurd hp' (by decide)
      have t5 : decide ((c.toNat : Int) < 32) = false := by simp; omega
      have t6 : decide ((126 : Int) < (c.toNat : Int)) = true := by simp; omega
      clear h0 h1 h2 h3 h4 hp hl hp' hs e1 e2 k1 k2
      go_enter Tryz.func85, Tryz.ntmps85
      go_wp2_with fail
      refine (H1.out _).mono ?_
      rintro e w' ⟨rfl, rfl⟩
      go_wp2_with fail
      refine (H2.out _).mono ?_
      rintro e w' ⟨rfl, rfl⟩
      go_wp2_with fail
      go_ret
      exact ⟨rfl, Below.refl _ _⟩
end Go.Proofs.YtmjchmamkjbgkaaGreatDoor

/- QuoteRefQ -/
namespace Go.Proofs.YtmjchmamkjbgkaaGreatDoor
open Go.RowKit

/-- A byte's form, under a name. -/
theorem refOne_named (c : UInt8) : ∃ b : ByteArray, Hid (b.data.toList = one c) ∧ Hid (∀ w, Calls Tryz.prog 85 #[.int .u8 c.toNat] w fun e w' => e = .returned (.string b) ∧ Below w.heap.size w w') :=
  ⟨⟨(one c).toArray⟩, Lib.hid rfl, Lib.hid (refOne_calls c)⟩

set_option maxHeartbeats 1000000 in
theorem refQuote_calls (s : ByteArray) (w : World) (hs : s.size ≤ 4294967296) :
    Calls Tryz.prog 62 #[.string s] w fun e w' => e = .returned (.string ⟨(quoteL s.data.toList).toArray⟩) ∧ Below w.heap.size w w' := by
  obtain ⟨l, hl⟩ : ∃ l, l = s.data.toList := ⟨_, rfl⟩
  have hlen : s.size = l.length := by rw [hl, ba_size]
  rw [← hl]
  have HL := Lib.hid hl
  have HN := Lib.hid hlen
  clear hl hlen
  go_enter Tryz.func62, Tryz.ntmps62
  go_wp2_with fail
  go_loopw [3, 4] (fun o i wr => ∃ (k : Nat) (a : ByteArray), k ≤ s.size ∧ i = .int .i64 k ∧ o = .string a ∧ Hid (a.data.toList = 34 :: body (l.take k)) ∧ Below w.heap.size w wr) (fun _ i _ => s.size - (intOf i).toNat)
  case atStart => exact ⟨0, ⟨#[34]⟩, Nat.zero_le _, rfl, rfl, Lib.hid rfl, Below.refl _ _⟩
  case round =>
    obtain ⟨k, a, hk, rfl, rfl, HA, hb⟩ := hrel
    have hal : a.size ≤ 1 + 4 * k := by
      rw [ba_size, HA.out, List.length_cons]
      have := (body_len (l.take k)).2
      have : (l.take k).length ≤ k := List.length_take_le _ _
      omega
    by_cases hlt : k < s.size
    · have hkl : k < l.length := by rw [← HN.out]; exact hlt
      obtain ⟨b, HB, HO⟩ := refOne_named s[k]
      have HC : Hid (l[k] = s[k]) := Lib.hid (by
        have := HL.out
        subst this
        rfl)
      have hbl : b.size ≤ 4 := by rw [ba_size, HB.out]; exact (one_len _).2
      have hcat : ∀ w, (Op.stringOp .add a b).run Tryz.prog w = .ok (.string (a ++ b)) w := fun w => run_string_add_sum w a b (by omega)
      go_wp2_with (go_at_call 85; refine (HO.out _).mono ?_; rintro e w1 ⟨rfl, hb1⟩)
      go_roundw
      case rel => exact ⟨k + 1, a ++ b, by omega, by go_num, rfl, Lib.hid (by rw [cat_list, HA.out, HB.out, body_take l k hkl, HC.out]; rfl), hb.trans (hb1.mono hb.size)⟩
      case measure => simp [intOf]; omega
    · have hcat : ∀ w, (Op.stringOp .add a ⟨#[34]⟩).run Tryz.prog w = .ok (.string (a ++ ⟨#[34]⟩)) w := fun w => run_string_add_sum w a ⟨#[34]⟩ (by have : (⟨#[34]⟩ : ByteArray).size = 1 := rfl; omega)
      go_wp2_with fail
      go_ret
      refine ⟨ret_str (ba_of ?_), hb⟩
      rw [cat_list, HA.out, List.take_of_length_le (by rw [← HN.out]; omega)]
      rfl
end Go.Proofs.YtmjchmamkjbgkaaGreatDoor

/- ValText -/
namespace Go.Proofs.YtmjchmamkjbgkaaGreatDoor
open Go.RowKit
set_option linter.unusedVariables false

theorem valText_no {k i : Int} {s : ByteArray} {b : Bool} (h : rightB k i s b = false) : valText k i s b = [] := by
  unfold valText; rw [if_neg (by rw [h]; simp)]
theorem valText1 {i : Int} {s : ByteArray} {b : Bool} (h : rightB 1 i s b = true) : valText 1 i s b = Lib.itoa i := by
  unfold valText; rw [if_pos h, if_pos rfl]
theorem valText2 {i : Int} {s : ByteArray} {b : Bool} (h : rightB 2 i s b = true) : valText 2 i s b = quoteL s.data.toList := by
  unfold valText; rw [if_pos h, if_neg (by decide), if_pos rfl]
theorem valText3 {i : Int} {s : ByteArray} {b : Bool} (h : rightB 3 i s b = true) : valText 3 i s b = if b = true then tru else fls := by
  unfold valText; rw [if_pos h, if_neg (by decide), if_neg (by decide)]
set_option maxHeartbeats 1000000 in
theorem vText_calls (k i : Int) (s : ByteArray) (b : Bool) (w : World) (hi : -9223372036854775808 ≤ i ∧ i ≤ 9223372036854775807) (hs : s.size ≤ 9223372036854775807) (hL : Laid w) :
    Calls Tryz.prog 37 #[.agg #[.int .i64 k, .int .i64 i, .string s, .bool b]] w fun e w' => e = .returned (.string ⟨(valText k i s b).toArray⟩) ∧ Below w.heap.size w w' := by
  have HA := (Below.refl w.heap.size w).alloc (Nat.le_refl _) (.cells #[.int .i64 k, .int .i64 i, .string s, .bool b] 44)
  have hL1 := hL.below HA
  have HR := fun w1 => vRight_calls k i s b w1 hs
  have HB := Lib.hid (Boxed.new k i s b w 44)
  cases hr : rightB k i s b
  · rw [valText_no hr]
    rw [hr] at HR
    have HR := Lib.hid HR
    have HA := Lib.hid HA
    clear hr hL hL1
    go_enter Tryz.func37, Tryz.ntmps37
    go_wp2_with fail
    refine (HR.out _).mono ?_
    rintro e w1 ⟨rfl, k1⟩
    go_wp2_with fail
    go_ret
    exact ⟨rfl, HA.out.trans (k1.mono (by simp))⟩
  · rw [hr] at HR
    have HR := Lib.hid HR
    have HL := Lib.hid (fun w1 (hb : Below (w.alloc (.cells #[.int .i64 k, .int .i64 i, .string s, .bool b] 44)).heap.size _ w1) => hL1.below hb)
    have HA := Lib.hid HA
    rcases right_kind hr with rfl | rfl | rfl
    · rw [valText1 hr]
      have HT := Lib.hid (fun w1 (h : Tab w1) => text_calls i w1 hi h)
      clear hr hL hL1
      go_enter Tryz.func37, Tryz.ntmps37
      go_wp2_with fail
      refine (HR.out _).mono ?_
      rintro e w1 ⟨rfl, k1⟩
      obtain ⟨c0, c1, c2, c3⟩ := HB.out.below k1 (by simp)
      have k2 := HA.out.trans (k1.mono (by simp))
      have hT := (HL.out _ k1).1.1
      have HK := Lib.hid k2
      have HX := Lib.hid hT
      clear k1 k2 hT
      go_wp2_with fail
      refine (HT.out _ HX.out).mono ?_
      rintro e w2 ⟨rfl, k3⟩
      go_wp2_with fail
      go_ret
      exact ⟨rfl, HK.out.trans (k3.mono HK.out.size)⟩
    · rw [valText2 hr]
      have HT := Lib.hid (fun w1 (h : Esc w1) => quote_calls s w1 (by have := right2_size hr; omega) h)
      clear hr hL hL1
      go_enter Tryz.func37, Tryz.ntmps37
      go_wp2_with fail
      refine (HR.out _).mono ?_
      rintro e w1 ⟨rfl, k1⟩
      obtain ⟨c0, c1, c2, c3⟩ := HB.out.below k1 (by simp)
      have k2 := HA.out.trans (k1.mono (by simp))
      have hT := (HL.out _ k1).2
      have HK := Lib.hid k2
      have HX := Lib.hid hT
      clear k1 k2 hT
      go_wp2_with fail
      refine (HT.out _ HX.out).mono ?_
      rintro e w2 ⟨rfl, k3⟩
      go_wp2_with fail
      go_ret
      exact ⟨rfl, HK.out.trans (k3.mono HK.out.size)⟩
    · rw [valText3 hr]
      clear hr hL hL1
      cases b
      all_goals
        go_enter Tryz.func37, Tryz.ntmps37
        go_wp2_with fail
        refine (HR.out _).mono ?_
        rintro e w1 ⟨rfl, k1⟩
        obtain ⟨c0, c1, c2, c3⟩ := HB.out.below k1 (by simp)
        have k2 := HA.out.trans (k1.mono (by simp))
        have HK := Lib.hid k2
        clear k1 k2
        go_wp2_with fail
        go_ret
        exact ⟨rfl, HK.out⟩
end Go.Proofs.YtmjchmamkjbgkaaGreatDoor

/- ValRefText -/
namespace Go.Proofs.YtmjchmamkjbgkaaGreatDoor
open Go.RowKit
set_option linter.unusedVariables false

set_option maxHeartbeats 1000000 in
theorem refVText_calls (k i : Int) (s : ByteArray) (b : Bool) (w : World) (hi : -9223372036854775808 ≤ i ∧ i ≤ 9223372036854775807) (hr : rightB k i s b = true) :
    Calls Tryz.prog 39 #[.agg #[.int .i64 k, .int .i64 i, .string s, .bool b]] w fun e w' => e = .returned (.string ⟨(valText k i s b).toArray⟩) ∧ Below w.heap.size w w' := by
  have HA := Lib.hid ((Below.refl w.heap.size w).alloc (Nat.le_refl _) (.cells #[.int .i64 k, .int .i64 i, .string s, .bool b] 44))
  rcases right_kind hr with rfl | rfl | rfl
  · rw [valText1 hr]
    have HT := Lib.hid (fun w1 => refText_calls i.natAbs i w1 (Nat.le_refl _) hi.1 hi.2)
    clear hr
    go_enter Tryz.func39, Tryz.ntmps39
    go_wp2_with fail
    refine (HT.out _).mono ?_
    rintro e w1 ⟨rfl, n, rfl⟩
    go_wp2_with fail
    go_ret
    exact ⟨rfl, HA.out.os, HA.out.tape, HA.out.output, HA.out.size, HA.out.block⟩
  · rw [valText2 hr]
    have HT := Lib.hid (fun w1 => refQuote_calls s w1 (by have := right2_size hr; omega))
    clear hr
    go_enter Tryz.func39, Tryz.ntmps39
    go_wp2_with fail
    refine (HT.out _).mono ?_
    rintro e w1 ⟨rfl, k3⟩
    go_wp2_with fail
    go_ret
    exact ⟨rfl, HA.out.trans (k3.mono HA.out.size)⟩
  · rw [valText3 hr]
    clear hr
    cases b
    all_goals
      go_enter Tryz.func39, Tryz.ntmps39
      go_wp2_with fail
      go_ret
      exact ⟨rfl, HA.out⟩
end Go.Proofs.YtmjchmamkjbgkaaGreatDoor

/- CsvField -/
namespace Go.Proofs.YtmjchmamkjbgkaaGreatDoor
open Go.RowKit
set_option linter.unusedVariables false

theorem cs_cat (a b : ByteArray) : (a ++ b).data.toList = a.data.toList ++ b.data.toList := by simp
theorem cs_hcat (a b : ByteArray) (h : a.size + b.size ≤ 9223372036854775807) : ∀ w, (Op.stringOp .add a b).run Tryz.prog w = .ok (.string (a ++ b)) w := fun w => run_string_add_sum w a b h
theorem cs_catSize (a b : ByteArray) : (a ++ b).size = a.size + b.size := by rw [cs_size, cs_cat, List.length_append, ← cs_size, ← cs_size]
theorem csDup_calls (s : ByteArray) (w : World) (hs : s.size ≤ 4000000) (hm : MaxC w) :
    Calls Tryz.prog 87 #[.string s, .string ⟨#[34]⟩, .string ⟨#[34, 34]⟩] w fun e w' => e = .returned (.string ⟨(dupL s.data.toList).toArray⟩) ∧ Below w.heap.size w w' := by
  obtain ⟨m, hm⟩ := hm
  have hc := Lib.count_le s.data.toList [34]
  have hl := cs_size s
  refine (Tryz.strings_ReplaceAll s ⟨#[34]⟩ ⟨#[34, 34]⟩ m w (by omega) hm (by decide) ?_).mono ?_
  · show s.size + Lib.count s.data.toList [34] * 2 ≤ _
    omega
  · rintro e w' ⟨rfl, hb⟩
    refine ⟨?_, hb⟩
    rw [show (⟨#[34]⟩ : ByteArray).data.toList = [34] from rfl, show (⟨#[34, 34]⟩ : ByteArray).data.toList = [34, 34] from rfl, dup_replace]

set_option maxHeartbeats 1000000 in
theorem csField_calls (s : ByteArray) (w : World) (hs : s.size ≤ 4000000) (hm : MaxC w) :
    Calls Tryz.prog 63 #[.string s] w fun e w' => e = .returned (.string ⟨(fieldL s.data.toList).toArray⟩) ∧ Below w.heap.size w w' := by
  have HP := Lib.hid (fun w1 => plainSize_calls s w1 (by omega))
  have HD := Lib.hid (fun w1 (h : MaxC w1) => csDup_calls s w1 hs h)
  have HM := Lib.hid hm
  have HB := Lib.hid (Below.refl w.heap.size w)
  by_cases h : plSize s.data.toList = s.size
  · have HV : Hid (⟨(fieldL s.data.toList).toArray⟩ = s) := Lib.hid (by rw [fieldL, if_pos (by rw [h, cs_size])])
    rw [h] at HP
    clear h hm hs HD
    go_enter Tryz.func63, Tryz.ntmps63
    go_wp2_with fail
    refine (HP.out _).mono ?_
    rintro e w1 ⟨rfl, rfl⟩
    go_wp2_with fail
    go_ret
    exact ⟨by rw [HV.out]; rfl, HB.out⟩
  · obtain ⟨D, hD⟩ : ∃ D : ByteArray, D = ⟨(dupL s.data.toList).toArray⟩ := ⟨_, rfl⟩
    have HV : Hid (⟨(fieldL s.data.toList).toArray⟩ = (⟨#[34]⟩ : ByteArray) ++ D ++ ⟨#[34]⟩) := Lib.hid (by
      rw [fieldL, if_neg (by rw [← cs_size]; exact h)]
      refine (cs_of ?_).symm
      rw [cs_cat, cs_cat, hD]
      simp)
    have t1 : ((plSize s.data.toList : Int) == (s.size : Int)) = false := beq_eq_false_iff_ne.2 (by omega)
    have hDs : D.size ≤ 8000000 := by
      have := dupL_len s.data.toList
      rw [← cs_size] at this
      rw [hD, cs_size]
      show (dupL s.data.toList).length ≤ _
      omega
    have z1 : (⟨#[34]⟩ : ByteArray).size = 1 := rfl
    have hc1 := cs_hcat ⟨#[34]⟩ D (by omega)
    have hc2 := cs_hcat (⟨#[34]⟩ ++ D) ⟨#[34]⟩ (by rw [cs_catSize]; omega)
    rw [← hD] at HD
    clear h hm hs hD z1 hDs
    obtain ⟨n, hn⟩ : ∃ n, n = plSize s.data.toList := ⟨_, rfl⟩
    rw [← hn] at HP t1
    clear hn
    go_enter Tryz.func63, Tryz.ntmps63
    go_wp2_with fail
    refine (HP.out _).mono ?_
    rintro e w1 ⟨rfl, rfl⟩
    go_wp2_with fail
    refine (HD.out _ HM.out).mono ?_
    rintro e w1 ⟨rfl, k1⟩
    have HB1 := Lib.hid k1
    clear k1
    go_wp2_with fail
    go_ret
    exact ⟨by rw [HV.out]; rfl, HB1.out⟩

set_option maxHeartbeats 2000000 in
theorem refQuoted_calls (s : ByteArray) (w : World) (hs : s.size ≤ 4000000) :
    Calls Tryz.prog 41 #[.string s] w fun e w' => e = .returned (.string ⟨(fieldL s.data.toList).toArray⟩) ∧ w = w' := by
  have HP := Lib.hid (fun c w1 => refPlain_calls c w1)
  go_enter Tryz.func41, Tryz.ntmps41
  go_wp2_with fail
  go_loopw [3, 4, 5] (fun bv ov iv wr => ∃ (n : Nat) (b : Bool) (X : ByteArray), n ≤ s.size ∧ iv = .int .i64 n ∧ bv = .bool b ∧ ov = .string X ∧ Hid (b = true ↔ plTo s.data.toList n) ∧ Hid (X.data.toList = 34 :: dupL (s.data.toList.take n)) ∧ w = wr) (fun _ _ i _ => s.size - (intOf i).toNat)
  case atStart => exact ⟨0, true, _, Nat.zero_le _, rfl, rfl, rfl, Lib.hid ⟨fun _ c h => by simp at h, fun _ => rfl⟩, Lib.hid rfl, rfl⟩
  case round =>
    obtain ⟨n, b, X, hn, rfl, rfl, rfl, HPl, HX, rfl⟩ := hrel
    have hXs : X.size ≤ 2 * n + 1 := by
      have := dupL_len (s.data.toList.take n)
      rw [List.length_take] at this
      rw [cs_size, HX.out, List.length_cons]
      omega
    have z1 : (⟨#[34]⟩ : ByteArray).size = 1 := rfl
    have hc1 := cs_hcat X ⟨#[34]⟩ (by omega)
    by_cases hlt : n < s.size
    case neg =>
      have hns : n = s.size := by omega
      have htk : s.data.toList.take n = s.data.toList := List.take_of_length_le (by rw [← cs_size]; omega)
      cases b
      · have HV : Hid (⟨(fieldL s.data.toList).toArray⟩ = X ++ ⟨#[34]⟩) := Lib.hid (by
          have hno : ¬ plSize s.data.toList = s.data.toList.length := fun e => by
            have h2 := HPl.out.2 (fun c hc => plSize_all e c (by rw [htk] at hc; exact hc))
            cases h2
          rw [fieldL, if_neg hno]
          refine (cs_of ?_).symm
          rw [cs_cat, HX.out, htk]; rfl)
        clear hns htk HX HPl hXs z1
        go_wp2_with fail
        go_ret
        exact ⟨by rw [HV.out]; rfl, rfl⟩
      · have HV : Hid (⟨(fieldL s.data.toList).toArray⟩ = s) := Lib.hid (by
          have hyes : plSize s.data.toList = s.data.toList.length := plSize_of _ _ (Nat.le_refl _) (fun c hc => by
            have h2 := HPl.out.1 rfl
            rw [hns, cs_size] at h2
            exact h2 c hc) (fun c hc => by simp at hc)
          rw [fieldL, if_pos hyes])
        clear hns htk HX HPl hXs z1
        go_wp2_with fail
        go_ret
        exact ⟨by rw [HV.out]; rfl, rfl⟩
    case pos =>
      have hat := cs_at s n hlt
      have hg : s.data.toList[n]? = some s[n] := hat
      have htk : s.data.toList.take (n + 1) = s.data.toList.take n ++ [s[n]] := by
        rw [List.take_add_one, hat]; rfl
      have hex : (s.extract n (n + 1)).data.toList = [s[n]] := by
        rw [cs_mid, cs_cons s n hlt, show n + 1 - n = 1 by omega]; rfl
      have hback : plTo s.data.toList (n + 1) → plTo s.data.toList n := fun h c hc => h c (by rw [htk]; exact List.mem_append_left _ hc)
      have hlast : plTo s.data.toList (n + 1) → plC s[n] = true := fun h => h s[n] (by rw [htk]; simp)
      have hfwd : plTo s.data.toList n → plC s[n] = true → plTo s.data.toList (n + 1) := fun h hp c hc => by
        rw [htk] at hc
        rcases List.mem_append.1 hc with e | e
        · exact h c e
        · rw [List.mem_singleton.1 e]; exact hp
      have H1 := Lib.hid (fun w1 => HP.out s[n] w1)
      have hexs : (s.extract n (n + 1)).size = 1 := by rw [cs_size, hex]; rfl
      have hc2 := cs_hcat X (s.extract n (n + 1)) (by omega)
      have hc3 := cs_hcat (X ++ ⟨#[34]⟩) (s.extract n (n + 1)) (by rw [cs_catSize]; omega)
      by_cases h34 : s[n] = 34
      · have t2 : ((s[n].toNat : Int) == 34) = true := by rw [h34]; rfl
        have hp : plC s[n] = false := by rw [h34]; decide
        have HPl2 : Hid (false = true ↔ plTo s.data.toList (n + 1)) := Lib.hid ⟨fun h => (by cases h), fun h => (by rw [hp] at hlast; exact hlast h)⟩
        have HX2 : Hid ((X ++ ⟨#[34]⟩ ++ s.extract n (n + 1)).data.toList = 34 :: dupL (s.data.toList.take (n + 1))) := Lib.hid (by
          rw [cs_cat, cs_cat, HX.out, hex, htk, h34, dupL_app, dupL_q]
          simp [dupL])
        rw [hp] at H1
        clear hat hg htk hex hexs hXs z1 hback hlast hfwd hp h34
        go_wp2_with fail
        refine (H1.out _).mono ?_
        rintro e w1 ⟨rfl, hw1⟩
        subst hw1
        go_wp2_with fail
        go_roundw
        case rel => exact ⟨n + 1, false, _, hlt, by go_num, rfl, rfl, HPl2, HX2, trivial⟩
        case measure => simp [intOf]; omega
      · have t2 : ((s[n].toNat : Int) == 34) = false := by rw [show ((s[n].toNat : Int) == 34) = (s[n] == 34) from cs_beq s[n] 34 (by omega)]; simpa using h34
        have HX2 : Hid ((X ++ s.extract n (n + 1)).data.toList = 34 :: dupL (s.data.toList.take (n + 1))) := Lib.hid (by
          rw [cs_cat, HX.out, hex, htk, dupL_app, dupL_else h34]
          simp [dupL])
        cases hp : plC s[n]
        · have HPl2 : Hid (false = true ↔ plTo s.data.toList (n + 1)) := Lib.hid ⟨fun h => (by cases h), fun h => (by rw [hp] at hlast; exact hlast h)⟩
          rw [hp] at H1
          clear hat hg htk hex hexs hXs z1 hback hlast hfwd hp h34
          go_wp2_with fail
          refine (H1.out _).mono ?_
          rintro e w1 ⟨rfl, hw1⟩
          subst hw1
          go_wp2_with fail
          go_roundw
          case rel => exact ⟨n + 1, false, _, hlt, by go_num, rfl, rfl, HPl2, HX2, trivial⟩
          case measure => simp [intOf]; omega
        · have HPl2 : Hid (b = true ↔ plTo s.data.toList (n + 1)) := Lib.hid ⟨fun h => hfwd (HPl.out.1 h) hp, fun h => HPl.out.2 (hback h)⟩
          rw [hp] at H1
          clear hat hg htk hex hexs hXs z1 hback hlast hfwd hp h34
          go_wp2_with fail
          refine (H1.out _).mono ?_
          rintro e w1 ⟨rfl, hw1⟩
          subst hw1
          go_wp2_with fail
          go_roundw
          case rel => exact ⟨n + 1, b, _, hlt, by go_num, rfl, rfl, HPl2, HX2, trivial⟩
          case measure => simp [intOf]; omega
end Go.Proofs.YtmjchmamkjbgkaaGreatDoor

/- ShelfLine -/


/- ShelfWrite -/
namespace Go.Proofs
open Go.Shelf
def Tryz.lays166_ren : Go.Shelf.Ren := ⟨fun | 166 => 59 | 240 => 83 | 276 => 100 | n => n, fun | 0 => 0 | 3 => 3 | 4 => 4 | 5 => 5 | 9 => 9 | 20 => 20 | 37 => 65 | 70 => 121 | 72 => 123 | 75 => 73 | 80 => 127 | 164 => 106 | n => n, fun | n => n⟩
theorem Tryz.lays166 : Go.Proofs.Lays.n166 Tryz.prog Tryz.lays166_ren := {
  mixed := by kernel_rfl
  f166 := Tryz.func59.trans (congrArg some (by kernel_rfl))
  f240 := Tryz.func83.trans (congrArg some (by kernel_rfl))
  f276 := Tryz.func100.trans (congrArg some (by kernel_rfl))
  t0 := Tryz.underlying0
  a0 := Tryz.isAgg0
  z0 := Tryz.sizeOf0
  v0 := Tryz.zeroValue0
  t4 := Tryz.underlying4
  a4 := Tryz.isAgg4
  z4 := Tryz.sizeOf4
  v4 := Tryz.zeroValue4
  t3 := Tryz.underlying3
  a3 := Tryz.isAgg3
  z3 := Tryz.sizeOf3
  v3 := Tryz.zeroValue3
  t9 := Tryz.underlying9
  a9 := Tryz.isAgg9
  z9 := Tryz.sizeOf9
  v9 := Tryz.zeroValue9
  t20 := Tryz.underlying20
  a20 := Tryz.isAgg20
  z20 := Tryz.sizeOf20
  v20 := Tryz.zeroValue20
  t37 := Tryz.underlying65
  a37 := Tryz.isAgg65
  z37 := Tryz.sizeOf65
  v37 := Tryz.zeroValue65
  t70 := Tryz.underlying121
  a70 := Tryz.isAgg121
  z70 := Tryz.sizeOf121
  v70 := Tryz.zeroValue121
  t72 := Tryz.underlying123
  a72 := Tryz.isAgg123
  z72 := Tryz.sizeOf123
  v72 := Tryz.zeroValue123
  t75 := Tryz.underlying73
  a75 := Tryz.isAgg73
  z75 := Tryz.sizeOf73
  v75 := Tryz.zeroValue73
  t164 := Tryz.underlying106
  a164 := Tryz.isAgg106
  z164 := Tryz.sizeOf106
  v164 := Tryz.zeroValue106 }
theorem Tryz.Builder_Extra_166 : Builder.Extra Tryz.prog Tryz.lays166_ren := {
  sizeBuilder := by kernel_rfl
  liesBuilder := by kernel_rfl
  t5 := Tryz.underlying5
  a5 := Tryz.isAgg5
  z5 := Tryz.sizeOf5
  v5 := Tryz.zeroValue5
  infoByte := by kernel_rfl
  cellsByte := by kernel_rfl
  sizeByte := by kernel_rfl
  neB5 := by decide }
open Go.RowKit in
theorem Tryz.Builder_WriteString_k (B b : Nat) (bs : List Value) (s : ByteArray) (w : World) (h : Lib.IsBuilderF 123 5 B b bs w) (hlen : bs.length + s.size ≤ 140737488355328) (hBw : B ≤ w.heap.size) :
    Calls Tryz.prog 59 #[.pointer (some ⟨b, 0, none⟩), .string s] w fun e w' => e = .returned (.tuple #[.int .i64 s.size, .nilIface]) ∧ (Lib.BuilderAtF 123 5 B b (.pointer (some ⟨b, 0, none⟩)) (bs ++ Lib.strCells s) w' ∧ Below B w w' ∧ Lib.OthersKept 5 (some b) w w') := Any.Builder_WriteString_k Tryz.lays166 Tryz.Builder_Extra_166 B b bs s w h hlen hBw
end Go.Proofs

/- CsvLine -/
namespace Go.Proofs.YtmjchmamkjbgkaaGreatDoor
open Go.RowKit
set_option linter.unusedVariables false

namespace csb
/-- A builder that has been written into, in block b, and holds these bytes. -/
def IsB (B b : Nat) (l : List UInt8) (w : World) : Prop := Lib.BuilderAtF 123 5 B b (.pointer (some ⟨b, 0, none⟩)) (Lib.byteCells l) w
/-- .. or has not. -/
def MayB (B b : Nat) (l : List UInt8) (w : World) : Prop := Lib.IsBuilderF 123 5 B b (Lib.byteCells l) w
theorem at_below {B b : Nat} {p : Value} {bs : List Value} {w w' : World} (h : Lib.BuilderAtF 123 5 B b p bs w) (hb : Below w.heap.size w w') : Lib.BuilderAtF 123 5 B b p bs w' := by
  obtain ⟨hB, v, hbk, ⟨hl, hown⟩, hne⟩ := h
  have hlt : b < w.heap.size := (Array.getElem?_eq_some_iff.1 hbk).1
  refine ⟨hB, v, by rw [hb.block b hlt]; exact hbk, ⟨hl, ?_⟩, hne⟩
  rcases hown with hn | ⟨g, cap, cur, fz, rfl, h1, hg, rest⟩
  · exact .inl hn
  · have hglt : g < w.heap.size := (Array.getElem?_eq_some_iff.1 hg).1
    exact .inr ⟨g, cap, cur, fz, rfl, h1, by rw [hb.block g hglt]; exact hg, rest⟩
theorem MayB.below {B b : Nat} {l : List UInt8} {w w' : World} (h : MayB B b l w) (hb : Below w.heap.size w w') : MayB B b l w' :=
  h.elim (fun x => .inl (at_below x hb)) (fun x => .inr (at_below x hb))
theorem MayB.fresh {B b : Nat} {w : World} (hB : B ≤ b) (h : w.heap[b]? = some (.cells #[.pointer none, .slice none 0 0] 123 (0, 0))) : MayB B b [] w :=
  .inl ⟨hB, .slice none 0 0, h, World.ownsRowF_nil _ _ _ _, by simp [Value.ownBlock]⟩
theorem write_calls (B b : Nat) (l : List UInt8) (s : ByteArray) (t : List UInt8) (w : World) (h : MayB B b l w) (ht : s.data.toList = t) (hlen : l.length + t.length ≤ 140737488355328) (hBw : B ≤ w.heap.size) :
    Calls Tryz.prog 59 #[.pointer (some ⟨b, 0, none⟩), .string s] w fun e w' => e = .returned (.tuple #[.int .i64 s.size, .nilIface]) ∧ MayB B b (l ++ t) w' ∧ Below B w w' := by
  subst ht
  refine (Tryz.Builder_WriteString_k B b (Lib.byteCells l) s w h (by rw [Lib.byteCells_length, cs_size]; exact hlen) hBw).mono ?_
  rintro e w' ⟨rfl, h1, h2, _⟩
  refine ⟨rfl, .inr ?_, h2⟩
  rw [show Lib.byteCells (l ++ s.data.toList) = Lib.byteCells l ++ Lib.strCells s by simp [Lib.byteCells, Lib.strCells]]
  exact h1
theorem string_calls (B b : Nat) (l : List UInt8) (w : World) (h : MayB B b l w) (hBw : B ≤ w.heap.size) :
    Calls Tryz.prog 60 #[.pointer (some ⟨b, 0, none⟩)] w fun e w' => e = .returned (.string ⟨l.toArray⟩) ∧ Below B w w' := by
  refine (Tryz.Builder_String_any_k B b l w h hBw).mono ?_
  rintro e w' ⟨rfl, _, h2, _⟩
  exact ⟨rfl, h2⟩
end csb

theorem cost_at : ∀ (fs : List (List UInt8)) (n : Nat), n < fs.length → 2 * (fs.getD n []).length + 3 ≤ costF fs
  | f :: r, 0, _ => by simp [costF]
  | f :: r, n + 1, h => by
    have := cost_at r n (by simpa using h)
    simp only [costF, List.getD_cons_succ]
    omega
theorem joinN_step (fs : List (List UInt8)) (n : Nat) (h : n ≠ 0) : joinN fs (n + 1) = joinN fs n ++ [44] ++ fieldL (fs.getD n []) := by rw [joinN, if_neg h]
theorem joinN_one (fs : List (List UInt8)) : joinN fs 1 = fieldL (fs.getD 0 []) := by simp [joinN]

set_option maxHeartbeats 2000000 in
theorem refLine_calls (a : Option Addr) (len cap : Nat) (fs : List (List UInt8)) (w : World) (h : TIn w a len fs) (hne : 0 < len) (hc : costF fs ≤ 3000000) :
    Calls Tryz.prog 19 #[.slice a len cap] w fun e w' => e = .returned (.string ⟨(lineL fs).toArray⟩) ∧ w = w' := by
  have H := Lib.hid h
  have HLn := Lib.hid h.leng
  have hsm := h.small
  have HC := Lib.hid hc
  have HQ := Lib.hid (fun (x : List UInt8) (hx : x.length ≤ 4000000) w1 => refQuoted_calls ⟨x.toArray⟩ w1 (by rw [cs_size]; exact hx))
  clear h hc
  go_enter Tryz.func19, Tryz.ntmps19
  go_wp2_with fail
  go_loopw [3, 4] (fun ov iv wr => ∃ (n : Nat) (X : ByteArray), n ≤ len ∧ iv = .int .i64 n ∧ ov = .string X ∧ Hid (X.data.toList = joinN fs n) ∧ w = wr) (fun _ i _ => len - (intOf i).toNat)
  case atStart => exact ⟨0, _, Nat.zero_le _, rfl, rfl, Lib.hid rfl, rfl⟩
  case round =>
    obtain ⟨n, X, hn, rfl, rfl, HX, rfl⟩ := hrel
    have hXs : X.size ≤ 3000000 := by
      have := joinN_len fs n (by rw [HLn.out]; exact hn)
      have h2 := HC.out
      rw [cs_size, HX.out]; omega
    by_cases hlt : n < len
    case neg =>
      have hnl : n = len := by omega
      have z2 : (⟨#[13, 10]⟩ : ByteArray).size = 2 := rfl
      have hc1 := cs_hcat X ⟨#[13, 10]⟩ (by omega)
      have HV : Hid (⟨(lineL fs).toArray⟩ = X ++ ⟨#[13, 10]⟩) := Lib.hid (by
        have hf : fs ≠ [] := fun e => by
          have := HLn.out
          rw [e] at this
          simp at this; omega
        rw [lineL, if_neg hf]
        refine (cs_of ?_).symm
        rw [cs_cat, HX.out, hnl, ← HLn.out, joinN_all])
      clear hnl z2 hXs
      go_wp2_with fail
      go_ret
      exact ⟨by rw [HV.out]; rfl, rfl⟩
    case pos =>
      obtain ⟨g, off, rfl, hcell⟩ := H.out.at' (Below.refl _ _) hlt
      have hfl := cost_at fs n (by rw [HLn.out]; exact hlt)
      have hcc := HC.out
      have hQl := fieldL_len (fs.getD n [])
      obtain ⟨x, hx⟩ : ∃ x, x = fs.getD n [] := ⟨_, rfl⟩
      rw [← hx] at hcell hfl hQl
      have H1 := Lib.hid (HQ.out x (by omega))
      obtain ⟨Q, hQ⟩ : ∃ Q : ByteArray, Q = ⟨(fieldL x).toArray⟩ := ⟨_, rfl⟩
      have hQs : Q.size ≤ 4000000 := by rw [hQ, cs_size]; show (fieldL x).length ≤ _; omega
      have hQd : Q.data.toList = fieldL x := by rw [hQ]
      rw [← hQ] at H1
      obtain ⟨Y, hY⟩ : ∃ Y : ByteArray, Y = ⟨x.toArray⟩ := ⟨_, rfl⟩
      rw [← hY] at H1 hcell
      have z1 : (⟨#[44]⟩ : ByteArray).size = 1 := rfl
      by_cases h0 : n = 0
      · subst h0
        rw [Nat.add_zero] at hcell
        have hc1 := cs_hcat X Q (by omega)
        have HX2 : Hid ((X ++ Q).data.toList = joinN fs 1) := Lib.hid (by rw [cs_cat, HX.out, hQd, joinN_one, ← hx]; rfl)
        clear hx hfl hcc hQl hQ hQs hQd hY hXs z1
        go_wp2_with fail
        refine (H1.out _).mono ?_
        rintro e w1 ⟨rfl, hw1⟩
        subst hw1
        go_wp2_with fail
        go_roundw
        case rel => exact ⟨1, _, hlt, by go_num, rfl, HX2, trivial⟩
        case measure => simp [intOf]; omega
      · have hn0 : 0 < n := by omega
        have hc1 := cs_hcat X ⟨#[44]⟩ (by omega)
        have hc2 := cs_hcat (X ++ ⟨#[44]⟩) Q (by rw [cs_catSize]; omega)
        have HX2 : Hid ((X ++ ⟨#[44]⟩ ++ Q).data.toList = joinN fs (n + 1)) := Lib.hid (by rw [cs_cat, cs_cat, HX.out, hQd, joinN_step fs n h0, ← hx])
        clear hx hfl hcc hQl hQ hQs hQd hY hXs z1 h0
        go_wp2_with fail
        refine (H1.out _).mono ?_
        rintro e w1 ⟨rfl, hw1⟩
        subst hw1
        go_wp2_with fail
        go_roundw
        case rel => exact ⟨n + 1, _, hlt, by go_num, rfl, HX2, trivial⟩
        case measure => simp [intOf]; omega

set_option maxHeartbeats 4000000 in
theorem csLine_calls (a : Option Addr) (len cap : Nat) (fs : List (List UInt8)) (w : World) (h : TIn w a len fs) (hc : costF fs ≤ 3000000) (hm : MaxC w) :
    Calls Tryz.prog 40 #[.slice a len cap] w fun e w' => e = .returned (.string ⟨(lineL fs).toArray⟩) ∧ Below w.heap.size w w' := by
  have H := Lib.hid h
  have HLn := Lib.hid h.leng
  have hsm := h.small
  have HC := Lib.hid hc
  have HM := Lib.hid hm
  have HF := Lib.hid (fun (x : List UInt8) (hx : x.length ≤ 4000000) w1 (h1 : MaxC w1) => csField_calls ⟨x.toArray⟩ w1 (by rw [cs_size]; exact hx) h1)
  clear h hc hm
  by_cases h0 : len = 0
  · subst h0
    have HV : Hid (⟨(lineL fs).toArray⟩ = (⟨#[]⟩ : ByteArray)) := Lib.hid (by rw [lineL, if_pos (List.length_eq_zero_iff.1 HLn.out)])
    have HB := Lib.hid (Below.refl w.heap.size w)
    go_enter Tryz.func40, Tryz.ntmps40
    go_wp2_with fail
    go_ret
    exact ⟨by rw [HV.out]; rfl, HB.out⟩
  have t0 : ((len : Int) == 0) = false := beq_eq_false_iff_ne.2 (by omega)
  have hnew := heap_alloc_new w (.cells #[.pointer none, .slice none 0 0] 123)
  have HB0 := Lib.hid ((Below.refl w.heap.size w).alloc (Nat.le_refl _) (.cells #[.pointer none, .slice none 0 0] 123))
  have HM0 := Lib.hid (csb.MayB.fresh (B := w.heap.size) (Nat.le_refl _) hnew)
  obtain ⟨b, hb⟩ : ∃ b, b = w.heap.size := ⟨_, rfl⟩
  have HW := Lib.hid (fun (l : List UInt8) (s : ByteArray) (t : List UInt8) w1 (h1 : csb.MayB w.heap.size b l w1) (h2 : s.data.toList = t) (h3 : l.length + t.length ≤ 140737488355328) (h4 : w.heap.size ≤ w1.heap.size) => csb.write_calls w.heap.size b l s t w1 h1 h2 h3 h4)
  have HS := Lib.hid (fun (l : List UInt8) w1 (h1 : csb.MayB w.heap.size b l w1) (h4 : w.heap.size ≤ w1.heap.size) => csb.string_calls w.heap.size b l w1 h1 h4)
  have HM1 : Hid (csb.MayB w.heap.size b [] (w.alloc (.cells #[.pointer none, .slice none 0 0] 123))) := Lib.hid (by rw [hb]; exact HM0.out)
  clear hnew HM0 h0
  have HBe := Lib.hid hb
  clear hb
  go_enter Tryz.func40, Tryz.ntmps40
  go_wp2_with fail
  rw [← HBe.out]
  go_loopw [11] (fun iv wr => ∃ (n : Nat), n ≤ len ∧ iv = .int .i64 n ∧ Hid (csb.MayB w.heap.size b (joinN fs n) wr) ∧ Hid (Below w.heap.size w wr)) (fun i _ => len - (intOf i).toNat)
  case atStart => exact ⟨0, Nat.zero_le _, rfl, HM1, HB0⟩
  case round =>
    obtain ⟨n, hn, rfl, HMb, HB⟩ := hrel
    have hjl := joinN_len fs n (by rw [HLn.out]; exact hn)
    have hcc := HC.out
    by_cases hlt : n < len
    case neg =>
      have hnl : n = len := by omega
      have H1 := Lib.hid (HW.out (joinN fs n) ⟨#[13, 10]⟩ [13, 10] wr HMb.out rfl (by simp; omega) HB.out.size)
      have HV : Hid ((⟨(joinN fs n ++ [13, 10]).toArray⟩ : ByteArray) = ⟨(lineL fs).toArray⟩) := Lib.hid (by
        have hf : fs ≠ [] := fun e => by
          have := HLn.out
          rw [e] at this
          simp at this
          rw [← this] at t0
          simp at t0
        rw [lineL, if_neg hf, hnl, ← HLn.out, joinN_all])
      clear hnl hjl hcc
      go_wp2_with fail
      refine H1.out.mono ?_
      rintro e w1 ⟨rfl, hM1, k1⟩
      have HB1 := Lib.hid (HB.out.trans k1)
      have H2 := Lib.hid (HS.out _ w1 hM1 HB1.out.size)
      clear k1 hM1
      go_wp2_with fail
      refine H2.out.mono ?_
      rintro e w2 ⟨rfl, k2⟩
      have HB2 := Lib.hid (HB1.out.trans k2)
      clear k2
      go_wp2_with fail
      go_ret
      exact ⟨by rw [← HV.out]; rfl, HB2.out⟩
    case pos =>
      obtain ⟨g, off, rfl, hcell⟩ := H.out.at' HB.out hlt
      have hfl := cost_at fs n (by rw [HLn.out]; exact hlt)
      have hQl := fieldL_len (fs.getD n [])
      obtain ⟨x, hx⟩ : ∃ x, x = fs.getD n [] := ⟨_, rfl⟩
      rw [← hx] at hcell hfl hQl
      have H1 := Lib.hid (HF.out x (by omega))
      obtain ⟨Q, hQ⟩ : ∃ Q : ByteArray, Q = ⟨(fieldL x).toArray⟩ := ⟨_, rfl⟩
      have HQd : Hid (Q.data.toList = fieldL x) := Lib.hid (by rw [hQ])
      rw [← hQ] at H1
      obtain ⟨Y, hY⟩ : ∃ Y : ByteArray, Y = ⟨x.toArray⟩ := ⟨_, rfl⟩
      rw [← hY] at H1 hcell
      by_cases h0 : n = 0
      · subst h0
        rw [Nat.add_zero] at hcell
        have HJ : Hid (joinN fs 0 ++ fieldL x = joinN fs (0 + 1)) := Lib.hid (by rw [joinN_one, hx]; rfl)
        clear hx hQ hY
        go_wp2_with fail
        refine (H1.out _ (HM.out.below HB.out)).mono ?_
        rintro e w1 ⟨rfl, k1⟩
        have HB1 := Lib.hid (HB.out.trans (k1.mono HB.out.size))
        have H2 := Lib.hid (HW.out _ Q (fieldL x) w1 (HMb.out.below k1) HQd.out (by omega) HB1.out.size)
        clear k1
        go_wp2_with fail
        refine H2.out.mono ?_
        rintro e w2 ⟨rfl, hM2, k2⟩
        have HB2 := Lib.hid (HB1.out.trans k2)
        have HM2 : Hid (csb.MayB w.heap.size b (joinN fs (0 + 1)) w2) := Lib.hid (by rw [← HJ.out]; exact hM2)
        clear hM2 k2
        go_wp2_with fail
        go_roundw
        case rel => exact ⟨1, hlt, by go_num, HM2, HB2⟩
        case measure => simp [intOf]; omega
      · have hn0 : 0 < n := by omega
        have HJ : Hid (joinN fs n ++ [44] ++ fieldL x = joinN fs (n + 1)) := Lib.hid (by rw [joinN_step fs n h0, hx])
        have H0 := Lib.hid (HW.out (joinN fs n) ⟨#[44]⟩ [44] wr HMb.out rfl (by simp; omega) HB.out.size)
        have HLl : Hid ((joinN fs n ++ [44]).length + (fieldL x).length ≤ 140737488355328) := Lib.hid (by simp; omega)
        clear hx hQ hY h0
        go_wp2_with fail
        refine H0.out.mono ?_
        rintro e w0 ⟨rfl, hM0, k0⟩
        have HB0' := Lib.hid (HB.out.trans k0)
        have HM0' := Lib.hid hM0
        clear k0 hM0
        go_wp2_with fail
        refine (H1.out _ (HM.out.below HB0'.out)).mono ?_
        rintro e w1 ⟨rfl, k1⟩
        have HB1 := Lib.hid (HB0'.out.trans (k1.mono HB0'.out.size))
        have H2 := Lib.hid (HW.out _ Q (fieldL x) w1 (HM0'.out.below k1) HQd.out HLl.out HB1.out.size)
        clear k1
        go_wp2_with fail
        refine H2.out.mono ?_
        rintro e w2 ⟨rfl, hM2, k2⟩
        have HB2 := Lib.hid (HB1.out.trans k2)
        have HM2 : Hid (csb.MayB w.heap.size b (joinN fs (n + 1)) w2) := Lib.hid (by rw [← HJ.out]; exact hM2)
        clear hM2 k2
        go_wp2_with fail
        go_roundw
        case rel => exact ⟨n + 1, hlt, by go_num, HM2, HB2⟩
        case measure => simp [intOf]; omega
end Go.Proofs.YtmjchmamkjbgkaaGreatDoor
