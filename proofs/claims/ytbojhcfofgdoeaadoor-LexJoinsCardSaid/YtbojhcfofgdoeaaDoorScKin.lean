/- Declarations and kinds in memory. -/
import Derived.Test.YtbojhcfofgdoeaaDoorScMath
namespace Go.Proofs.YtbojhcfofgdoeaaDoor
open Go.RowKit
set_option linter.unusedVariables false

/-- Kinds in memory. -/
structure KIn (w : World) (a : Option Addr) (len : Nat) (V : List Int) : Prop where
  leng : V.length = len
  small : len ≤ 9223372036854775807
  at' : ∀ n, n < len → ∃ g off, a = some ⟨g, off, none⟩ ∧ g < w.heap.size ∧ w.cell? ⟨g, off + n, none⟩ = some (.int .i64 (V.getD n 0))
theorem KIn.below {w w' : World} {a : Option Addr} {len : Nat} {V : List Int} (h : KIn w a len V) (hb : Below w.heap.size w w') : KIn w' a len V :=
  ⟨h.leng, h.small, fun n hn => by
    obtain ⟨g, off, e, hg, hr⟩ := h.at' n hn
    exact ⟨g, off, e, Nat.lt_of_lt_of_le hg hb.size, (hb.cell (p := ⟨g, off + n, none⟩) hg).trans hr⟩⟩
theorem KIn.drop_at (V : List Int) (n : Nat) (h : n < V.length) : V.drop n = V.getD n 0 :: V.drop (n + 1) := by
  rw [List.drop_eq_getElem_cons h]
  simp [List.getD, h]
/-- Declarations in memory. -/
structure DIn (w : World) (a : Option Addr) (len : Nat) (L : List Dc) : Prop where
  leng : L.length = len
  small : len ≤ 9223372036854775807
  at' : ∀ n, n < len → ∃ g off b c, a = some ⟨g, off, none⟩ ∧ g < w.heap.size ∧ w.cell? ⟨g, off + n * 2, none⟩ = some (.string (nmAt L n)) ∧ w.cell? ⟨g, off + n * 2 + 1, none⟩ = some (.slice b (ksAt L n).length c) ∧ KIn w b (ksAt L n).length (ksAt L n) ∧ (nmAt L n).size ≤ 9223372036854775807
theorem DIn.below {w w' : World} {a : Option Addr} {len : Nat} {L : List Dc} (h : DIn w a len L) (hb : Below w.heap.size w w') : DIn w' a len L :=
  ⟨h.leng, h.small, fun n hn => by
    obtain ⟨g, off, b, c, e, hg, h1, h2, h3, h4⟩ := h.at' n hn
    exact ⟨g, off, b, c, e, Nat.lt_of_lt_of_le hg hb.size, (hb.cell (p := ⟨g, off + n * 2, none⟩) hg).trans h1, (hb.cell (p := ⟨g, off + n * 2 + 1, none⟩) hg).trans h2, h3.below hb, h4⟩⟩
theorem ksAt_take {L : List Dc} {n j : Nat} (h : j < n) : ksAt (L.take n) j = ksAt L j := by
  simp [ksAt, List.getD, h]
theorem DIn.take {w : World} {a : Option Addr} {len : Nat} {L : List Dc} (h : DIn w a len L) {n : Nat} (hn : n ≤ len) : DIn w a n (L.take n) :=
  ⟨by rw [List.length_take, h.leng]; omega, by have := h.small; omega, fun j hj => by
    obtain ⟨g, off, b, c, e, hg, h1, h2, h3, h4⟩ := h.at' j (by omega)
    rw [nmAt_take hj, ksAt_take hj]
    exact ⟨g, off, b, c, e, hg, h1, h2, h3, h4⟩⟩
end Go.Proofs.YtbojhcfofgdoeaaDoor
