/- Small facts on texts; strings.HasPrefix at one byte and at two. -/
import Derived.Test.YtbojhcfofgdoeaaDoorBase
import Derived.Test.YtbojhcfofgdoeaaDoorShelfCsv
import Derived.WalkKit
import Derived.WalkSpells
import Derived.WalkLawsBesides
import Derived.Lib.Hide
import Derived.LoopTactic
namespace Go.Proofs.YtbojhcfofgdoeaaDoor
open Go.RowKit
set_option linter.unusedVariables false

theorem cs_size (a : ByteArray) : a.size = a.data.toList.length := by rw [Array.length_toList]; rfl
theorem cs_tl (a : ByteArray) : a.toList = a.data.toList := ByteArray.toList_eq a
theorem cs_of {a : ByteArray} {l : List UInt8} (h : a.data.toList = l) : a = ⟨l.toArray⟩ := by subst h; rfl
theorem cs_drop (s : ByteArray) (k : Nat) : (s.extract k s.size).data.toList = s.data.toList.drop k := by
  rw [ByteArray.data_extract]
  simp
  exact List.take_of_length_le (by simp)
theorem cs_take (s : ByteArray) (k : Nat) : (s.extract 0 k).data.toList = s.data.toList.take k := by
  rw [ByteArray.data_extract]
  simp
theorem cs_at (s : ByteArray) (k : Nat) (h : k < s.size) : s.data.toList[k]? = some s[k] := by
  have h' : k < s.data.toList.length := by rw [← cs_size]; exact h
  rw [List.getElem?_eq_getElem h']; rfl
theorem cs_cons (s : ByteArray) (k : Nat) (h : k < s.size) : s.data.toList.drop k = s[k] :: s.data.toList.drop (k + 1) := by
  rw [List.drop_eq_getElem_cons (by rw [← cs_size]; exact h)]; rfl
theorem cs_ne {c : UInt8} {n : Nat} (hn : n < 256) : c = UInt8.ofNat n ↔ c.toNat = n := by
  constructor
  · rintro rfl; simp; omega
  · intro h; exact UInt8.toNat_inj.1 (by simp; omega)
theorem cs_beq (c : UInt8) (n : Nat) (hn : n < 256) : ((c.toNat : Int) == (n : Int)) = (c == UInt8.ofNat n) := by
  rw [Bool.eq_iff_iff, beq_iff_eq, beq_iff_eq, cs_ne hn]; omega
theorem hp_one (l : List UInt8) (c : UInt8) : Lib.hasPrefix l [c] = (l.head? == some c) := by
  unfold Lib.hasPrefix
  cases l with
  | nil => rfl
  | cons d r =>
    by_cases h : c = d
    · subst h; simp
    · have h2 : (c == d) = false := by simpa using h
      have h3 : (d == c) = false := by simpa using fun e : d = c => h e.symm
      simp [List.isPrefixOf, h2, h3]

theorem pre_calls1 (s : ByteArray) (c : UInt8) (w : World) :
    Calls Tryd.prog 41 #[.string s, .string ⟨#[c]⟩] w fun e w' => e = .returned (.bool (s.data.toList.head? == some c)) ∧ w = w' := by
  refine (Tryd.strings_HasPrefix s ⟨#[c]⟩ w).mono ?_
  rintro e w' ⟨rfl, rfl⟩
  refine ⟨?_, rfl⟩
  rw [show (⟨#[c]⟩ : ByteArray).data.toList = [c] from rfl, hp_one]
theorem pre_calls2 (s : ByteArray) (c d : UInt8) (w : World) :
    Calls Tryd.prog 41 #[.string s, .string ⟨#[c, d]⟩] w fun e w' => e = .returned (.bool ([c, d].isPrefixOf s.data.toList)) ∧ w = w' := by
  refine (Tryd.strings_HasPrefix s ⟨#[c, d]⟩ w).mono ?_
  rintro e w' ⟨rfl, rfl⟩
  exact ⟨rfl, rfl⟩
end Go.Proofs.YtbojhcfofgdoeaaDoor
