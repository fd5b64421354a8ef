/- What num.Sum does with any list of int64: the sum, one by one, or that it goes over. -/
import Derived.Test.YtjomnmpabchikaaDoorNumCalls
import Derived.LoopTactic
import Derived.RegionTactic
namespace Go.Proofs.YtjomnmpabchikaaDoor
open Go.RowKit

/-- The sum of numbers, one by one; none: it went over somewhere. -/
def sumStep (o : Option Int) (x : Int) : Option Int := o.bind fun n => if tb (n + x) = true then some (n + x) else none
def sumTo (l : List Int) : Option Int := l.foldl sumStep (some 0)
def sv (o : Option Int) : Int := o.getD 0
def se (o : Option Int) : Int := if o.isSome then 0 else 6
def sb (o : Option Int) : Bool := o.isSome
theorem sumTo_snoc (l : List Int) (x : Int) : sumTo (l ++ [x]) = sumStep (sumTo l) x := by simp [sumTo]
theorem foldl_none (l : List Int) : l.foldl sumStep none = none := by
  induction l with
  | nil => rfl
  | cons x r ih => simpa [sumStep] using ih
theorem sumTo_dead (l : List Int) (k : Nat) (h : sumTo (l.take k) = none) : sumTo l = none := by
  have e : sumTo l = (l.drop k).foldl sumStep (sumTo (l.take k)) := by
    unfold sumTo; rw [← List.foldl_append, List.take_append_drop]
  rw [e, h, foldl_none]
theorem sum_bounds (l : List Int) (n : Int) (h : sumTo l = some n) : -9223372036854775808 ≤ n ∧ n ≤ 9223372036854775807 := by
  rcases l.eq_nil_or_concat with rfl | ⟨r, x, rfl⟩
  · simp [sumTo] at h; omega
  · rw [List.concat_eq_append, sumTo_snoc] at h
    cases hr : sumTo r with
    | none => simp [hr, sumStep] at h
    | some m =>
      simp only [hr, sumStep, Option.bind_some] at h
      split at h
      · rename_i ht
        cases h
        simpa [tb] using ht
      · cases h
theorem take_more (l : List Int) (k : Nat) (h : k < l.length) : l.take (k + 1) = l.take k ++ [l.getD k 0] := by
  rw [List.take_succ_eq_append_getElem h]; simp [List.getD, h]
theorem sum_more (l : List Int) (k : Nat) (n : Int) (h : k < l.length) (hn : sumTo (l.take k) = some n) :
    sumTo (l.take (k + 1)) = if tb (n + l.getD k 0) = true then some (n + l.getD k 0) else none := by
  rw [take_more l k h, sumTo_snoc, hn]; rfl

/-- What a walk is told of a slice of int64 that came in, with at least one element: the elements, cell by cell. -/
structure Row64 (w : World) (b off : Nat) (l : List Int) : Prop where
  cell : ∀ i, i < l.length → w.cell? ⟨b, off + i, none⟩ = some (.int .i64 (l.getD i 0))
  fits : ∀ i, i < l.length → -9223372036854775808 ≤ l.getD i 0 ∧ l.getD i 0 ≤ 9223372036854775807

set_option maxHeartbeats 1000000 in
theorem sum_calls (b off cap : Nat) (l : List Int) (w : World) (hr : Row64 w b off l) (hl : l.length ≤ 9223372036854775806) :
    Calls Tryd.prog 21 #[.slice (some ⟨b, off, none⟩) l.length cap] w fun e w' => e = .returned (.tuple #[.int .i64 (sv (sumTo l)), .int .i64 (se (sumTo l))]) ∧ w = w' := by
  obtain ⟨len, hlen⟩ : ∃ n, n = l.length := ⟨_, rfl⟩
  rw [← hlen] at hl ⊢
  have HL := Lib.hid hlen
  have HR := Lib.hid hr
  clear hlen hr
  go_enter Tryd.func21, Tryd.ntmps21
  go_wp2
  go_loop [4, 11] (fun s i => ∃ (k : Nat) (n : Int), k ≤ len ∧ i = .int .i64 k ∧ s = .int .i64 n ∧ Hid (sumTo (l.take k) = some n)) (fun _ i => len - (intOf i).toNat)
  case atStart => exact ⟨0, 0, Nat.zero_le _, rfl, rfl, Lib.hid rfl⟩
  case round =>
    obtain ⟨k, n, hk, rfl, rfl, HS⟩ := hrel
    obtain ⟨n1, n2⟩ := sum_bounds _ _ HS.out
    by_cases hlt : k < len
    · obtain ⟨x, hx⟩ : ∃ x, x = l.getD k 0 := ⟨_, rfl⟩
      have hcell : w.cell? ⟨b, off + k, none⟩ = some (.int .i64 x) := by rw [hx]; exact HR.out.cell k (by rw [← HL.out]; exact hlt)
      obtain ⟨x1, x2⟩ : -9223372036854775808 ≤ x ∧ x ≤ 9223372036854775807 := by rw [hx]; exact HR.out.fits k (by rw [← HL.out]; exact hlt)
      have HM := Lib.hid (sum_more l k n (by rw [← HL.out]; exact hlt) HS.out)
      rw [← hx] at HM
      have HA := Lib.hid (fun w => add_calls n x w ⟨n1, n2⟩ ⟨x1, x2⟩)
      clear hx
      by_cases hf : -9223372036854775808 ≤ n + x ∧ n + x ≤ 9223372036854775807
      · have HT := Lib.hid (tb_yes hf.1 hf.2)
        have HB := Lib.hid HA.out
        rw [tn_yes hf.1 hf.2, te_yes hf.1 hf.2] at HB
        clear HA hf
        go_wp2_with (go_at_call 9; refine (HB.out _).mono ?_; rintro e w' ⟨rfl, rfl⟩)
        go_round
        case rel => exact ⟨k + 1, n + x, by omega, by go_num, rfl, Lib.hid (by rw [HM.out, if_pos HT.out])⟩
        case measure => simp [intOf]; omega
      · have HD := Lib.hid (sumTo_dead l (k + 1) (by rw [HM.out, tb_no hf]; rfl))
        have HB := Lib.hid HA.out
        rw [tn_no hf, te_no hf] at HB
        clear HA hf
        go_wp2_with (go_at_call 9; refine (HB.out _).mono ?_; rintro e w' ⟨rfl, rfl⟩)
        go_ret2
        rw [HD.out]
        exact ⟨rfl, rfl⟩
    · have HE : Hid (sumTo l = some n) := Lib.hid (by have := HS.out; rwa [List.take_of_length_le (by rw [← HL.out]; omega)] at this)
      go_wp2
      go_ret2
      rw [HE.out]
      exact ⟨rfl, rfl⟩

set_option maxHeartbeats 1000000 in
theorem sumNone_calls (a : Option Addr) (cap : Nat) (w : World) :
    Calls Tryd.prog 21 #[.slice a 0 cap] w fun e w' => e = .returned (.tuple #[.int .i64 0, .int .i64 0]) ∧ w = w' := by
  go_enter Tryd.func21, Tryd.ntmps21
  go_wp2
  go_loop [4, 11] (fun s i => i = .int .i64 0 ∧ s = .int .i64 0) (fun _ _ => 0)
  case atStart => exact ⟨rfl, rfl⟩
  case round =>
    obtain ⟨rfl, rfl⟩ := hrel
    go_wp2
    go_ret2
    exact ⟨rfl, rfl⟩
end Go.Proofs.YtjomnmpabchikaaDoor
