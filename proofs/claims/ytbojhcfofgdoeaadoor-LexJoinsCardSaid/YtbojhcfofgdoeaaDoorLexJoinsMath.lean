/- For the walk of the law LexJoins: the law's text of a token; what is joined so far. -/
import Derived.Test.YtbojhcfofgdoeaaDoorLexAwake
import Derived.Test.YtbojhcfofgdoeaaDoorLexText
import Derived.Test.YtbojhcfofgdoeaaDoorLexRef
import Derived.Test.YtbojhcfofgdoeaaDoorQuoteRefQ
import Derived.BigQuiet
import Derived.Deep.RegionHeld3
namespace Go.Proofs.YtbojhcfofgdoeaaDoor.lexJoins
open Go.RowKit
set_option linter.unusedVariables false

set_option maxHeartbeats 1000000 in
theorem lawText_calls (x : Tk) (w : World) (hx : x.t.length ≤ 4294967296) :
    Calls Tryd.prog 10 #[.agg #[.int .i64 (x.k : Nat), .string ⟨x.t.toArray⟩, .int .i64 (x.line : Nat), .int .i64 (x.col : Nat)]] w fun e w' => e = .returned (.string (tkT x)) ∧ Below w.heap.size w w' := by
  obtain ⟨k, t, l, c⟩ := x
  simp only at hx
  have hb := (Below.refl w.heap.size w).alloc (Nat.le_refl _) (.cells #[.int .i64 (k : Nat), .string ⟨t.toArray⟩, .int .i64 (l : Nat), .int .i64 (c : Nat)] 34)
  have HB := Lib.hid hb
  have HQ := Lib.hid (fun w1 => refQuote_calls ⟨t.toArray⟩ w1 (by rw [lx_size]; exact hx))
  have HS : Hid (w.heap.size ≤ (w.alloc (.cells #[.int .i64 (k : Nat), .string ⟨t.toArray⟩, .int .i64 (l : Nat), .int .i64 (c : Nat)] 34)).heap.size) := Lib.hid (by simp)
  by_cases h4 : k = 4
  · have HV : Hid (tkT ⟨k, t, l, c⟩ = ⟨(quoteL (⟨t.toArray⟩ : ByteArray).data.toList).toArray⟩) := Lib.hid (by unfold tkT tkL; rw [if_pos h4])
    generalize tkT ⟨k, t, l, c⟩ = V at HV ⊢
    clear hx hb
    subst h4
    go_enter Tryd.func10, Tryd.ntmps10
    go_wp2_with fail
    refine (HQ.out _).mono ?_
    rintro e w1 ⟨rfl, k1⟩
    have HB1 := Lib.hid (HB.out.trans (k1.mono HS.out))
    clear k1
    go_wp2_with fail
    go_ret
    exact ⟨by rw [HV.out]; rfl, HB1.out⟩
  · have HV : Hid (tkT ⟨k, t, l, c⟩ = ⟨t.toArray⟩) := Lib.hid (by unfold tkT tkL; rw [if_neg h4])
    generalize tkT ⟨k, t, l, c⟩ = V at HV ⊢
    have t4 : ((k : Int) == 4) = false := by rw [beq_eq_false_iff_ne]; omega
    clear hx hb HQ h4
    go_enter Tryd.func10, Tryd.ntmps10
    go_wp2_with fail
    go_ret
    exact ⟨by rw [HV.out]; rfl, HB.out⟩

theorem joinT_snoc : ∀ (M : List Tk) (x : Tk), joinT (M ++ [x]) = if M = [] then tkL x.k x.t else joinT M ++ 32 :: tkL x.k x.t
  | [], x => rfl
  | [y], x => rfl
  | y :: z :: M, x => by
    have ih := joinT_snoc (z :: M) x
    rw [if_neg (by simp)] at ih
    rw [if_neg (by simp), List.cons_append, List.cons_append, joinT, ← List.cons_append, ih, joinT]
    simp
theorem tk_in_join : ∀ (M : List Tk) (x : Tk), x ∈ M → (tkL x.k x.t).length ≤ (joinT M).length
  | [], x, h => by simp at h
  | [y], x, h => by
    rw [List.mem_singleton] at h
    subst h; exact Nat.le_refl _
  | y :: z :: M, x, h => by
    rw [joinT, List.length_append, List.length_cons]
    rcases List.mem_cons.1 h with rfl | h
    · omega
    · have := tk_in_join (z :: M) x h
      omega
theorem tkL_ge (k : Nat) (t : List UInt8) : t.length ≤ (tkL k t).length := by
  unfold tkL
  split
  · rw [quote_len]
    have := (body_len t).1
    omega
  · exact Nat.le_refl _
theorem join_take (M : List Tk) : ∀ n, (joinT (M.take n)).length ≤ (joinT M).length
  | n => by
    by_cases h : M.length ≤ n
    · rw [List.take_of_length_le h]; exact Nat.le_refl _
    · have key : ∀ (A B : List Tk), (joinT A).length ≤ (joinT (A ++ B)).length := by
        intro A B
        induction B generalizing A with
        | nil => rw [List.append_nil]; exact Nat.le_refl _
        | cons x B ih =>
          have h1 := ih (A ++ [x])
          rw [List.append_assoc] at h1
          refine Nat.le_trans ?_ h1
          rw [joinT_snoc]
          split
          · rename_i h; rw [h]; simp [joinT]
          · rw [List.length_append]; omega
      have := key (M.take n) (M.drop n)
      rwa [List.take_append_drop] at this
theorem lx_takeT {M : List Tk} {n : Nat} {x : Tk} (h : M[n]? = some x) : M.take (n + 1) = M.take n ++ [x] := by
  obtain ⟨hn, e⟩ := List.getElem?_eq_some_iff.1 h
  rw [List.take_succ_eq_append_getElem hn, e]
/-- What is wanted, so far. -/
def wantB (M : List Tk) (n : Nat) : ByteArray := ⟨(joinT (M.take n)).toArray⟩
theorem want_zero (M : List Tk) : wantB M 0 = ⟨#[]⟩ := by unfold wantB; rw [List.take_zero]; rfl
theorem want_first {M : List Tk} {x : Tk} (h : M[0]? = some x) : wantB M 0 ++ tkT x = wantB M 1 := by
  refine sc_ext ?_
  rw [sc_cat]
  show joinT (M.take 0) ++ tkL x.k x.t = joinT (M.take 1)
  rw [lx_takeT h, List.take_zero, joinT_snoc, if_pos rfl]; rfl
theorem want_more {M : List Tk} {n : Nat} {x : Tk} (h : M[n]? = some x) (hn : 0 < n) : wantB M n ++ ⟨#[32]⟩ ++ tkT x = wantB M (n + 1) := by
  refine sc_ext ?_
  rw [sc_cat, sc_cat]
  show joinT (M.take n) ++ [32] ++ tkL x.k x.t = joinT (M.take (n + 1))
  have hne : M.take n ≠ [] := by
    intro e
    have := congrArg List.length e
    have h2 := (List.getElem?_eq_some_iff.1 h).1
    rw [List.length_take, List.length_nil] at this
    omega
  rw [lx_takeT h, joinT_snoc, if_neg hne]
  simp
end Go.Proofs.YtbojhcfofgdoeaaDoor.lexJoins
