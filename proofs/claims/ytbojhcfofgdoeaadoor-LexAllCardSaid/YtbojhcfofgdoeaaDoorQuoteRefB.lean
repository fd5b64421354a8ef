/- What the reference's byteOf does with any text: the byte as which it begins, and in how many bytes that stands; 0 and 0, if there is none. -/
import Derived.Test.YtbojhcfofgdoeaaDoorQuoteRefQ
namespace Go.Proofs.YtbojhcfofgdoeaaDoor
open Go.RowKit

theorem refOne_num (k : Nat) (hk : k < 256) : ∃ b : ByteArray, Hid (b.data.toList = one (UInt8.ofNat k)) ∧ Hid (∀ w, Calls Tryd.prog 36 #[.int .u8 (k : Int)] w fun e w' => e = .returned (.string b) ∧ Below w.heap.size w w') := by
  obtain ⟨b, hb, hc⟩ := refOne_named (UInt8.ofNat k)
  have e : (UInt8.ofNat k).toNat = k := by rw [UInt8.toNat_ofNat']; omega
  have hc' := hc.out
  rw [e] at hc'
  exact ⟨b, hb, Lib.hid hc'⟩

theorem head_eq (s b : ByteArray) (_hle : b.size ≤ s.size) : (s.extract 0 b.size = b) ↔ ∃ x, s.data.toList = b.data.toList ++ x := by
  have e1 : (s.extract 0 b.size).data.toList = s.data.toList.take b.data.toList.length := by
    rw [ByteArray.data_extract]; simp
  constructor
  · intro h
    have := congrArg (·.data.toList) h
    simp only [e1] at this
    exact ⟨s.data.toList.drop b.data.toList.length, by conv => lhs; rw [← List.take_append_drop b.data.toList.length s.data.toList, this]⟩
  · rintro ⟨x, hx⟩
    have : (s.extract 0 b.size).data.toList = b.data.toList := by rw [e1, hx]; simp
    exact ByteArray.ext (Array.toList_inj.1 this)

theorem head_yes (s b : ByteArray) (h : ∃ x, s.data.toList = b.data.toList ++ x) : b.size ≤ s.size ∧ ((s.extract 0 b.size).toList == b.toList) = true := by
  have hle : b.size ≤ s.size := by
    obtain ⟨x, hx⟩ := h
    rw [ba_size, ba_size, hx, List.length_append]; omega
  exact ⟨hle, by rw [(head_eq s b hle).2 h]; simp⟩
theorem head_no (s b : ByteArray) (hle : b.size ≤ s.size) (h : ∀ x, s.data.toList ≠ b.data.toList ++ x) : ((s.extract 0 b.size).toList == b.toList) = false := by
  rw [beq_eq_false_iff_ne]
  intro e
  have e' : s.extract 0 b.size = b := by
    rw [ByteArray.toList_eq, ByteArray.toList_eq] at e
    exact ByteArray.ext (Array.toList_inj.1 e)
  obtain ⟨x, hx⟩ := (head_eq s b hle).1 e'
  exact h x hx

set_option maxHeartbeats 1000000 in
set_option maxRecDepth 100000 in
theorem byteOf_yes (s : ByteArray) (c : UInt8) (x : List UInt8) (w : World) (_hs : s.size ≤ 9223372036854775807) (h : s.data.toList = one c ++ x) :
    Calls Tryd.prog 50 #[.string s] w fun e w' => e = .returned (.tuple #[.int .u8 c.toNat, .int .i64 (one c).length]) ∧ Below w.heap.size w w' := by
  have H := Lib.hid h
  clear h
  have hc : c.toNat < 256 := c.toNat_lt
  go_enter Tryd.func50, Tryd.ntmps50
  go_wp2_with fail
  go_loopw [4] (fun i wr => ∃ k : Nat, k ≤ c.toNat ∧ i = .int .i64 k ∧ Below w.heap.size w wr) (fun i _ => 256 - (intOf i).toNat)
  case atStart => exact ⟨0, Nat.zero_le _, rfl, Below.refl _ _⟩
  case round =>
    obtain ⟨k, hk, rfl, hb⟩ := hrel
    obtain ⟨b, HB, HO⟩ := refOne_num k (by omega)
    have t0 : decide ((k : Int) < 256) = true := by simp; omega
    have hk256 : k < 256 := by omega
    by_cases hkc : k = c.toNat
    · have hbc : b.data.toList = one c := by rw [HB.out, hkc]; simp
      obtain ⟨hle, t1⟩ := head_yes s b ⟨x, by rw [hbc]; exact H.out⟩
      have HKC := Lib.hid hkc
      have HBC := Lib.hid hbc
      clear hk hc hkc hbc
      go_wp2_with (go_at_call 36; refine (HO.out _).mono ?_; rintro e w1 ⟨rfl, hb1⟩)
      go_ret2
      refine ⟨?_, hb.trans (hb1.mono hb.size)⟩
      rw [HKC.out, ba_size, HBC.out]
      rfl
    · have hne : ∀ y, s.data.toList ≠ b.data.toList ++ y := by
        intro y hy
        rw [H.out, HB.out] at hy
        have := (one_inj hy).1
        rw [this, UInt8.toNat_ofNat'] at hkc
        omega
      have hlt : k < c.toNat := by omega
      by_cases hle : b.size ≤ s.size
      · have t1 := head_no s b hle hne
        clear hk hc hkc hne
        go_wp2_with (go_at_call 36; refine (HO.out _).mono ?_; rintro e w1 ⟨rfl, hb1⟩)
        go_roundw
        case rel => exact ⟨k + 1, by omega, by go_num, hb.trans (hb1.mono hb.size)⟩
        case measure => simp [intOf]; omega
      · have t1 : decide (b.size ≤ s.size) = false := by simpa using hle
        clear hk hc hkc hne hle
        go_wp2_with (go_at_call 36; refine (HO.out _).mono ?_; rintro e w1 ⟨rfl, hb1⟩)
        go_roundw
        case rel => exact ⟨k + 1, by omega, by go_num, hb.trans (hb1.mono hb.size)⟩
        case measure => simp [intOf]; omega

set_option maxHeartbeats 1000000 in
set_option maxRecDepth 100000 in
theorem byteOf_no (s : ByteArray) (w : World) (_hs : s.size ≤ 9223372036854775807) (h : ∀ c x, s.data.toList ≠ one c ++ x) :
    Calls Tryd.prog 50 #[.string s] w fun e w' => e = .returned (.tuple #[.int .u8 0, .int .i64 0]) ∧ Below w.heap.size w w' := by
  have H := Lib.hid h
  clear h
  go_enter Tryd.func50, Tryd.ntmps50
  go_wp2_with fail
  go_loopw [4] (fun i wr => ∃ k : Nat, k ≤ 256 ∧ i = .int .i64 k ∧ Below w.heap.size w wr) (fun i _ => 256 - (intOf i).toNat)
  case atStart => exact ⟨0, Nat.zero_le _, rfl, Below.refl _ _⟩
  case round =>
    obtain ⟨k, hk, rfl, hb⟩ := hrel
    by_cases hk256 : k < 256
    · obtain ⟨b, HB, HO⟩ := refOne_num k (by omega)
      have t0 : decide ((k : Int) < 256) = true := by simp; omega
      have hne : ∀ y, s.data.toList ≠ b.data.toList ++ y := by
        intro y hy
        rw [HB.out] at hy
        exact H.out _ _ hy
      by_cases hle : b.size ≤ s.size
      · have t1 := head_no s b hle hne
        clear hk hne
        go_wp2_with (go_at_call 36; refine (HO.out _).mono ?_; rintro e w1 ⟨rfl, hb1⟩)
        go_roundw
        case rel => exact ⟨k + 1, by omega, by go_num, hb.trans (hb1.mono hb.size)⟩
        case measure => simp [intOf]; omega
      · have t1 : decide (b.size ≤ s.size) = false := by simpa using hle
        clear hk hne hle
        go_wp2_with (go_at_call 36; refine (HO.out _).mono ?_; rintro e w1 ⟨rfl, hb1⟩)
        go_roundw
        case rel => exact ⟨k + 1, by omega, by go_num, hb.trans (hb1.mono hb.size)⟩
        case measure => simp [intOf]; omega
    · have t0 : decide ((k : Int) < 256) = false := by simp; omega
      clear hk hk256
      go_wp2_with fail
      go_ret2
      exact ⟨rfl, hb⟩
end Go.Proofs.YtbojhcfofgdoeaaDoor
