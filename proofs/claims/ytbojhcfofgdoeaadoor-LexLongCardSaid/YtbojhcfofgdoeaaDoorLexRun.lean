/- Runs of bytes: what lex's closures, and runSize, do. -/
import Derived.Test.YtbojhcfofgdoeaaDoorLexWalkMath
import Derived.Test.YtbojhcfofgdoeaaDoorCsvKeep
namespace Go.Proofs.YtbojhcfofgdoeaaDoor
open Go.RowKit
set_option linter.unusedVariables false

/-- How many bytes at the beginning are such ones. -/
def twN (p : UInt8 → Bool) (l : List UInt8) : Nat := (l.takeWhile p).length
def twTo (p : UInt8 → Bool) (l : List UInt8) (n : Nat) : Prop := ∀ c ∈ l.take n, p c = true
theorem twTo_zero (p : UInt8 → Bool) (l : List UInt8) : twTo p l 0 := fun c hc => by simp at hc
theorem twTo_more {p : UInt8 → Bool} {l : List UInt8} {n : Nat} {c : UInt8} (h : twTo p l n) (hc : l[n]? = some c) (e : p c = true) : twTo p l (n + 1) := by
  intro d hd
  rw [lx_take hc, List.mem_append, List.mem_singleton] at hd
  rcases hd with h1 | rfl
  · exact h d h1
  · exact e
theorem tw_split {p : UInt8 → Bool} {l : List UInt8} {n : Nat} (h : twTo p l n) : l.takeWhile p = l.take n ++ (l.drop n).takeWhile p := by
  have e := List.takeWhile_append_of_pos (l₂ := l.drop n) h
  rwa [List.take_append_drop] at e
theorem tw_stop {p : UInt8 → Bool} {l : List UInt8} {n : Nat} {c : UInt8} (h : twTo p l n) (hc : l[n]? = some c) (e : p c = false) : twN p l = n := by
  have hn := (List.getElem?_eq_some_iff.1 hc).1
  rw [twN, tw_split h, lx_drop hc, List.takeWhile_cons_of_neg (by rw [e]; decide), List.append_nil, List.length_take]
  omega
theorem tw_end {p : UInt8 → Bool} {l : List UInt8} {n : Nat} (h : twTo p l n) (hn : l.length = n) : twN p l = n := by
  rw [twN, tw_split h, List.drop_eq_nil_iff.2 (by omega), List.takeWhile_nil, List.append_nil, List.length_take]
  omega
theorem tw_le (p : UInt8 → Bool) (l : List UInt8) : twN p l ≤ l.length := by
  unfold twN
  exact List.Sublist.length_le (List.takeWhile_sublist p)

/-- Whether a byte is one of a text's. -/
def inSet (set : ByteArray) (c : UInt8) : Bool := set.data.toList.contains c
theorem idx_in : ∀ (l : List UInt8) (c : UInt8), decide ((0 : Int) ≤ Lib.indexByte l c) = l.contains c
  | [], c => by simp [Lib.indexByte]
  | b :: l, c => by
    have ih := idx_in l c
    have hg := Lib.indexByte_ge l c
    rw [List.contains_cons, Lib.indexByte]
    by_cases h : b = c
    · subst h; simp
    · have h1 : (b == c) = false := by simpa using h
      have h2 : (c == b) = false := by simpa using fun e : c = b => h e.symm
      rw [h1, h2, ← ih, Bool.false_or]
      simp only [Bool.false_eq_true, if_false]
      split
      · rename_i h3
        rw [beq_iff_eq] at h3
        rw [h3]
      · rename_i h3
        have h4 : Lib.indexByte l c ≠ -1 := by simpa using h3
        rw [decide_eq_decide]
        omega

set_option maxHeartbeats 400000 in
theorem among_calls (set : ByteArray) (w : World) :
    Calls Tryd.prog 40 #[.string set] w fun e w' => e = .returned (.func (.func 59) #[] #[.pointer (some ⟨w.heap.size, 0, none⟩)]) ∧ w' = w.alloc (.cells #[.string set] 9) := by
  go_enter Tryd.func40, Tryd.ntmps40
  go_wp2
  go_ret
  exact ⟨rfl, rfl⟩
theorem in_byte (c : UInt8) : ((c.toNat : Int)).toNat.toUInt8 = c := by
  rw [Int.toNat_natCast]
  exact UInt8.ofNat_toNat
set_option maxHeartbeats 400000 in
theorem amongIn_calls (c : UInt8) (set : ByteArray) (B : Nat) (w : World) (hB : w.cell? ⟨B, 0, none⟩ = some (.string set)) :
    Calls Tryd.prog 59 #[.int .u8 c.toNat, .pointer (some ⟨B, 0, none⟩)] w fun e w' => e = .returned (.bool (inSet set c)) ∧ w = w' := by
  have H1 := Tryd.strings_IndexByte set (c.toNat : Int) w
  rw [in_byte] at H1
  have h2 := idx_in set.data.toList c
  have HV : Hid (inSet set c = set.data.toList.contains c) := Lib.hid rfl
  have H1 := Lib.hid H1
  generalize inSet set c = r at HV ⊢
  generalize set.data.toList.contains c = q at h2 HV
  generalize Lib.indexByte set.data.toList c = x at H1 h2
  go_enter Tryd.func59, Tryd.ntmps59
  go_wp2_with fail
  refine H1.out.mono ?_
  rintro e w1 ⟨rfl, hw⟩
  subst hw
  go_wp2_with fail
  go_ret
  exact ⟨by rw [HV.out, ← h2]; rfl, rfl⟩
/-- A byte that ends no line. -/
def no10 (c : UInt8) : Bool := c != 10
set_option maxHeartbeats 400000 in
theorem no10_calls (c : UInt8) (w : World) :
    Calls Tryd.prog 42 #[.int .u8 c.toNat] w fun e w' => e = .returned (.bool (no10 c)) ∧ w = w' := by
  have e1 := cs_beq c 10 (by omega)
  have HV : Hid (no10 c = !(c == 10)) := Lib.hid rfl
  generalize no10 c = r at HV ⊢
  cases hq : (c == 10)
  all_goals
    have t1 : ((c.toNat : Int) == 10) = _ := e1.trans hq
    rw [hq] at HV
    clear e1 hq
    go_enter Tryd.func42, Tryd.ntmps42
    go_wp2_with fail
    go_ret
    refine ⟨?_, rfl⟩
    rw [HV.out]
    show Ending.returned (Value.bool ((c.toNat : Int) != 10)) = _
    rw [bne, t1]

set_option maxHeartbeats 1000000 in
theorem runIn_calls (s set : ByteArray) (B : Nat) (w : World) (hs : s.size ≤ 9223372036854775807) (hB : w.cell? ⟨B, 0, none⟩ = some (.string set)) :
    Calls Tryd.prog 39 #[.string s, .func (.func 59) #[] #[.pointer (some ⟨B, 0, none⟩)]] w fun e w' => e = .returned (.int .i64 (twN (inSet set) s.data.toList : Nat)) ∧ w = w' := by
  have HC := Lib.hid (fun c => amongIn_calls c set B w hB)
  have HL : Hid (s.data.toList.length = s.size) := Lib.hid (cs_size s).symm
  clear hB
  generalize inSet set = p at HC ⊢
  go_enter Tryd.func39, Tryd.ntmps39
  go_wp2_with fail
  go_loopw [8] (fun i wr => ∃ (n : Nat), n ≤ s.size ∧ i = .int .i64 n ∧ Hid (twTo p s.data.toList n) ∧ w = wr) (fun i _ => s.size - (intOf i).toNat)
  case atStart => exact ⟨0, Nat.zero_le _, rfl, Lib.hid (twTo_zero _ _), rfl⟩
  case round =>
    obtain ⟨n, hn, rfl, HP, rfl⟩ := hrel
    by_cases h : n < s.size
    case neg =>
      have HE : Hid (twN p s.data.toList = s.size) := Lib.hid (by rw [tw_end HP.out (by rw [HL.out]; omega)]; omega)
      go_wp2_with fail
      go_ret
      exact ⟨by rw [HE.out]; rfl, rfl⟩
    case pos =>
      have H1 := Lib.hid (HC.out s[n])
      cases hp : p s[n]
      · have HE : Hid (twN p s.data.toList = n) := Lib.hid (tw_stop HP.out (cs_at s n h) hp)
        rw [hp] at H1
        clear hp
        go_wp2_with fail
        refine H1.out.mono ?_
        rintro e w1 ⟨rfl, rfl⟩
        go_wp2_with fail
        go_ret
        exact ⟨by rw [HE.out]; rfl, rfl⟩
      · have HE : Hid (twTo p s.data.toList (n + 1)) := Lib.hid (twTo_more HP.out (cs_at s n h) hp)
        rw [hp] at H1
        clear hp
        go_wp2_with fail
        refine H1.out.mono ?_
        rintro e w1 ⟨rfl, rfl⟩
        go_wp2_with fail
        go_roundw
        case rel => exact ⟨n + 1, h, by go_num, HE, trivial⟩
        case measure => simp [intOf]; omega
set_option maxHeartbeats 1000000 in
theorem run10_calls (s : ByteArray) (w : World) (hs : s.size ≤ 9223372036854775807) :
    Calls Tryd.prog 39 #[.string s, .func (.func 42) #[] #[]] w fun e w' => e = .returned (.int .i64 (twN no10 s.data.toList : Nat)) ∧ w = w' := by
  have HC := Lib.hid (fun c => no10_calls c w)
  have HL : Hid (s.data.toList.length = s.size) := Lib.hid (cs_size s).symm
  generalize no10 = p at HC ⊢
  go_enter Tryd.func39, Tryd.ntmps39
  go_wp2_with fail
  go_loopw [8] (fun i wr => ∃ (n : Nat), n ≤ s.size ∧ i = .int .i64 n ∧ Hid (twTo p s.data.toList n) ∧ w = wr) (fun i _ => s.size - (intOf i).toNat)
  case atStart => exact ⟨0, Nat.zero_le _, rfl, Lib.hid (twTo_zero _ _), rfl⟩
  case round =>
    obtain ⟨n, hn, rfl, HP, rfl⟩ := hrel
    by_cases h : n < s.size
    case neg =>
      have HE : Hid (twN p s.data.toList = s.size) := Lib.hid (by rw [tw_end HP.out (by rw [HL.out]; omega)]; omega)
      go_wp2_with fail
      go_ret
      exact ⟨by rw [HE.out]; rfl, rfl⟩
    case pos =>
      have H1 := Lib.hid (HC.out s[n])
      cases hp : p s[n]
      · have HE : Hid (twN p s.data.toList = n) := Lib.hid (tw_stop HP.out (cs_at s n h) hp)
        rw [hp] at H1
        clear hp
        go_wp2_with fail
        refine H1.out.mono ?_
        rintro e w1 ⟨rfl, rfl⟩
        go_wp2_with fail
        go_ret
        exact ⟨by rw [HE.out]; rfl, rfl⟩
      · have HE : Hid (twTo p s.data.toList (n + 1)) := Lib.hid (twTo_more HP.out (cs_at s n h) hp)
        rw [hp] at H1
        clear hp
        go_wp2_with fail
        refine H1.out.mono ?_
        rintro e w1 ⟨rfl, rfl⟩
        go_wp2_with fail
        go_roundw
        case rel => exact ⟨n + 1, h, by go_num, HE, trivial⟩
        case measure => simp [intOf]; omega
end Go.Proofs.YtbojhcfofgdoeaaDoor
