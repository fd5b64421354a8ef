/- Small facts for the walk of the law CsvBack: lists of lists of texts that come in, and what the law counts. -/
import Derived.Test.YtkihjfdpfglkbaaDoorCsvOwn
import Derived.Test.YtkihjfdpfglkbaaDoorCsvLineMath
namespace Go.Proofs.YtkihjfdpfglkbaaDoor
open Go.RowKit
set_option linter.unusedVariables false

/-- Lists of texts that slices stand for, wherever they lie. -/
structure Vt (w : World) (us : List Value) (LL : List (List (List UInt8))) : Prop where
  leng : us.length = LL.length
  at' : ∀ n, n < LL.length → ∃ a c, us[n]? = some (.slice a (LL.getD n []).length c) ∧ TIn w a (LL.getD n []).length (LL.getD n [])
theorem Vt.nil (w : World) : Vt w [] [] := ⟨rfl, fun n hn => by simp at hn⟩
theorem Vt.snoc {w : World} {us : List Value} {LL : List (List (List UInt8))} {a : Option Addr} {c : Nat} {L : List (List UInt8)} (h : Vt w us LL) (hs : TIn w a L.length L) : Vt w (us ++ [.slice a L.length c]) (LL ++ [L]) :=
  ⟨by simp [h.leng], fun n hn => by
    by_cases e : n < LL.length
    · obtain ⟨a', c', e1, hs'⟩ := h.at' n e
      have e2 : (LL ++ [L]).getD n [] = LL.getD n [] := by simp [List.getD, List.getElem?_append_left e]
      rw [e2]
      exact ⟨a', c', by rw [List.getElem?_append_left (by rw [h.leng]; exact e)]; exact e1, hs'⟩
    · have en : n = LL.length := by simp at hn; omega
      subst en
      have e2 : (LL ++ [L]).getD LL.length [] = L := by simp [List.getD]
      rw [e2]
      exact ⟨a, c, by rw [← h.leng]; simp, hs⟩⟩
/-- A list of lists of texts that comes in. -/
structure AIn (w : World) (a : Option Addr) (len : Nat) (LL : List (List (List UInt8))) : Prop where
  leng : LL.length = len
  small : len ≤ 9223372036854775807
  at' : ∀ n, n < len → ∃ g off b c, a = some ⟨g, off, none⟩ ∧ g < w.heap.size ∧ w.cell? ⟨g, off + n, none⟩ = some (.slice b (LL.getD n []).length c) ∧ TIn w b (LL.getD n []).length (LL.getD n [])
/-- What lies at a place of a row of the call's own. -/
theorem own_row_at {B : Nat} {a : Option Addr} {k c : Nat} {LL : List (List (List UInt8))} {us : List Value} {w w0 : World} (h : w.ownsRow B 32 1 (.slice a k c) LL.length us) (hk : k = LL.length) (hv : Vt w0 us LL) (hb : Below w0.heap.size w0 w) {n : Nat} (hn : n < LL.length) :
    ∃ g b c', a = some ⟨g, 0, none⟩ ∧ g < w.heap.size ∧ w.cell? ⟨g, n, none⟩ = some (.slice b (LL.getD n []).length c') ∧ TIn w b (LL.getD n []).length (LL.getD n []) := by
  obtain ⟨b, c', e1, ht⟩ := hv.at' n hn
  obtain ⟨hl, hown⟩ := h
  rcases hown with ⟨e, h0⟩ | ⟨g, cap, cur, e, h1, hg, hcap, hm, hsz, htk⟩
  · omega
  · simp only [Value.slice.injEq] at e
    refine ⟨g, b, c', e.1, (Array.getElem?_eq_some_iff.1 hg).1, ?_, ht.below hb⟩
    rw [cell_of_row w g n cur _ (0, 0) hg]
    rw [← htk, List.getElem?_take, if_pos (by omega)] at e1
    simpa using e1
/-- How much is read. -/
def bulkF : List (List UInt8) → Nat
  | [] => 0
  | f :: r => (f.length + 1) + bulkF r
def bulkT : List (List (List UInt8)) → Nat
  | [] => 0
  | fs :: r => bulkF fs + bulkT r
theorem cost_bulk : ∀ fs, costF fs ≤ 2 * bulkF fs + fs.length
  | [] => Nat.le_refl _
  | f :: r => by
    have := cost_bulk r
    simp only [costF, bulkF, List.length_cons]
    omega
theorem bulkT_snoc : ∀ (LL : List (List (List UInt8))) (fs : List (List UInt8)), bulkT (LL ++ [fs]) = bulkT LL + bulkF fs
  | [], fs => by simp [bulkT]
  | g :: LL, fs => by rw [List.cons_append, bulkT, bulkT, bulkT_snoc LL fs]; omega
theorem bulkT_take : ∀ (LL : List (List (List UInt8))) (n : Nat), bulkT (LL.take n) ≤ bulkT LL
  | [], n => by simp
  | g :: LL, 0 => by simp [bulkT]
  | g :: LL, n + 1 => by
    have := bulkT_take LL n
    rw [List.take_succ_cons, bulkT, bulkT]
    omega
/-- The rows that have fields. -/
def rowsR (LL : List (List (List UInt8))) : List (List (List UInt8)) := LL.filter fun fs => !fs.isEmpty
theorem take_getD {LL : List (List (List UInt8))} {n : Nat} (h : n < LL.length) : LL.take (n + 1) = LL.take n ++ [LL.getD n []] := by
  rw [List.take_succ_eq_append_getElem h]
  simp [List.getD, h]
theorem take_getD1 {L : List (List UInt8)} {n : Nat} (h : n < L.length) : L.take (n + 1) = L.take n ++ [L.getD n []] := by
  rw [List.take_succ_eq_append_getElem h]
  simp [List.getD, h]
theorem rowsR_none {LL : List (List (List UInt8))} {n : Nat} (h : n < LL.length) (e : LL.getD n [] = []) : rowsR (LL.take (n + 1)) = rowsR (LL.take n) := by
  rw [take_getD h, e]
  simp [rowsR]
theorem rowsR_some {LL : List (List (List UInt8))} {n : Nat} (h : n < LL.length) (e : LL.getD n [] ≠ []) : rowsR (LL.take (n + 1)) = rowsR (LL.take n) ++ [LL.getD n []] := by
  rw [take_getD h, rowsR, List.filter_append]
  cases hd : LL.getD n [] with
  | nil => exact absurd hd e
  | cons x r => rfl
theorem rowsR_ne (LL : List (List (List UInt8))) : ∀ fs ∈ rowsR LL, fs ≠ [] := fun fs h e => by
  have := (List.mem_filter.1 h).2
  rw [e] at this
  simp at this
theorem rowsR_len (LL : List (List (List UInt8))) (n : Nat) : (rowsR (LL.take n)).length ≤ n := Nat.le_trans (List.length_filter_le _ _) (by rw [List.length_take]; omega)
/-- The first field that is too long, so far. -/
def inn (P : Nat × Nat) (rl : Nat) (L : List (List UInt8)) : Nat × Nat := if P.1 ≠ 0 then P else if longF L ≠ 0 then (rl, longF L) else (0, 0)
theorem inn_start {R : List (List (List UInt8))} {rl : Nat} : inn (longR R) rl [] = longR R := by
  rw [inn]
  by_cases h : (longR R).1 = 0
  · rw [if_neg (by simpa using h)]
    simp [longF, longR_zero R h]
  · rw [if_pos h]
theorem inn_yes {P : Nat × Nat} {rl : Nat} {L : List (List UInt8)} {x : List UInt8} (hrl : rl ≠ 0) (hx : 4096 < x.length) (h : (inn P rl L).1 = 0) : inn P rl (L ++ [x]) = (rl, L.length + 1) := by
  rw [inn] at h ⊢
  by_cases h1 : P.1 = 0
  · rw [if_neg (by simpa using h1)] at h ⊢
    by_cases h2 : longF L = 0
    · rw [longF_snoc]
      simp [h2, hx]
    · rw [if_pos h2] at h; exact absurd h hrl
  · rw [if_pos h1] at h; exact absurd h h1
theorem inn_no {P : Nat × Nat} {rl : Nat} {L : List (List UInt8)} {x : List UInt8} (h : ¬ (4096 < x.length ∧ (inn P rl L).1 = 0)) : inn P rl (L ++ [x]) = inn P rl L := by
  rw [inn] at h
  rw [inn, inn]
  by_cases h1 : P.1 = 0
  · have h1' : ¬ P.1 ≠ 0 := by simpa using h1
    rw [if_neg h1'] at h
    rw [if_neg h1', if_neg h1', longF_snoc]
    by_cases h2 : longF L = 0
    · rw [if_neg (by simpa using h2)] at h
      have hx : ¬ 4096 < x.length := fun e => h ⟨e, rfl⟩
      simp [h2, hx]
    · simp [h2]
  · rw [if_pos h1, if_pos h1]
theorem inn_end {R : List (List (List UInt8))} {fs : List (List UInt8)} : inn (longR R) (R.length + 1) fs = longR (R ++ [fs]) := by
  rw [longR_snoc, inn]
theorem longR_le : ∀ R, (longR R).1 ≤ R.length
  | [] => Nat.le_refl _
  | fs :: r => by
    have := longR_le r
    rw [longR]
    split
    · simp
    · split
      · simp
      · simp; omega
end Go.Proofs.YtkihjfdpfglkbaaDoor
