/- What a row's list gives: the table of escapes. -/
import Derived.Test.YtbojhcfofgdoeaaDoorQuoteBytes
import Derived.Lib.LaidTab
import Derived.LaidMore
import Derived.Stop.Joined
import Derived.Stop.LaidErr
import Derived.ProofKit
namespace Go.Proofs.YtbojhcfofgdoeaaDoor
open Go.RowKit

theorem two_of {α : Type} : ∀ {l : List α}, l.length = 2 → ∃ a b, l = [a, b]
  | [a, b], _ => ⟨a, b, rfl⟩
theorem cells8 : Tryd.prog.cellsOf 5 = 1 := by kernel_rfl
theorem cells58 : Tryd.prog.cellsOf 122 = 2 := by kernel_rfl
theorem cells59 : Tryd.prog.cellsOf 123 = 10 := by kernel_rfl
theorem gEscType : (Tryd.prog.globals[2]?).map (·.type) = some 123 := by kernel_rfl

theorem pair_cells {H : Type} {enc : TypeId × Value → H} {w : World} {base : Nat} {sp : Nat → Bool} {held : Bool} {fuel : Nat} {cs : List Value} {a b : Int} {p : List MemPlace}
    (h : DataW.trod enc Tryd.prog w base sp held fuel 122 cs = some (.agg [.lit (.int .u8 a), .lit (.int .u8 b)], p)) : cs = [.int .u8 a, .int .u8 b] := by
  cases fuel with
  | zero => simp [DataW.trod] at h
  | succ fuel =>
    simp only [DataW.trod, Tryd.underlying122, cells58] at h
    split at h
    · rename_i hl
      obtain ⟨xs, hm, hx⟩ := Option.map_eq_some_iff.1 h
      simp only [List.mapM_cons, List.mapM_nil, Option.bind_eq_bind, Option.bind_eq_some_iff, Option.pure_def, Option.some.injEq, cells8] at hm
      obtain ⟨x0, h0, r, ⟨x1, h1, r', hr', rfl⟩, rfl⟩ := hm
      subst hr'
      obtain ⟨z0, hc0, rfl, _⟩ := DataW.trod_int Tryd.underlying5 h0
      obtain ⟨z1, hc1, rfl, _⟩ := DataW.trod_int Tryd.underlying5 h1
      simp at hx
      obtain ⟨⟨rfl, rfl⟩, _⟩ := hx
      obtain ⟨u, v, rfl⟩ := two_of hl
      simp at hc0 hc1
      rw [hc0, hc1]
    · cases h

theorem esc_of_head {W : World} {rest : List (String × DataW Unit)} (h : laidMet Tryd.prog (("proctor/quote.escapes", Rows.laid_proctor_quote_escapes) :: rest) W) : Esc W := by
  obtain ⟨ps, ⟨g', t', cs, fuel, p, q, hg', ht', hvar, hd, _, _⟩, _⟩ := h
  obtain rfl := Option.some.inj (gEsc.symm.trans hg')
  obtain rfl := Option.some.inj (gEscType.symm.trans ht')
  unfold Esc
  rw [hvar]
  cases fuel with
  | zero => simp [DataW.trod] at hd
  | succ fuel =>
    simp only [DataW.trod, Tryd.underlying123, cells59, cells58] at hd
    split at hd
    · rename_i hl
      obtain ⟨xs, hm, hx⟩ := Option.map_eq_some_iff.1 hd
      have hxs : xs.map (·.1) = [.agg [.lit (.int .u8 34), .lit (.int .u8 34)], .agg [.lit (.int .u8 92), .lit (.int .u8 92)], .agg [.lit (.int .u8 10), .lit (.int .u8 110)], .agg [.lit (.int .u8 13), .lit (.int .u8 114)], .agg [.lit (.int .u8 9), .lit (.int .u8 116)]] := by
        have := congrArg Prod.fst hx
        simpa [Rows.laid_proctor_quote_escapes] using this
      have key : ∀ (i : Nat) (a b : Int), i < 5 → (xs.map (·.1))[i]? = some (.agg [.lit (.int .u8 a), .lit (.int .u8 b)]) → (cs.toList.drop (i * 2)).take 2 = [.int .u8 a, .int .u8 b] := by
        intro i a b hi hz
        obtain ⟨x, hb, hf⟩ := Lib.mapM_at hm i i (by simp [hi])
        simp [hb] at hz
        exact pair_cells (by rw [hf, ← hz])
      have e0 := key 0 34 34 (by omega) (by rw [hxs]; rfl)
      have e1 := key 1 92 92 (by omega) (by rw [hxs]; rfl)
      have e2 := key 2 10 110 (by omega) (by rw [hxs]; rfl)
      have e3 := key 3 13 114 (by omega) (by rw [hxs]; rfl)
      have e4 := key 4 9 116 (by omega) (by rw [hxs]; rfl)
      have hlist : cs.toList = [.int .u8 34, .int .u8 34, .int .u8 92, .int .u8 92, .int .u8 10, .int .u8 110, .int .u8 13, .int .u8 114, .int .u8 9, .int .u8 116] := by
        generalize cs.toList = l at *
        match l, hl with
        | [a, b, c, d, e, f, g, h, i, j], _ =>
          simp at e0 e1 e2 e3 e4
          obtain ⟨rfl, rfl⟩ := e0
          obtain ⟨rfl, rfl⟩ := e1
          obtain ⟨rfl, rfl⟩ := e2
          obtain ⟨rfl, rfl⟩ := e3
          obtain ⟨rfl, rfl⟩ := e4
          rfl
      rw [← Array.toArray_toList (xs := cs), hlist]
    · cases hd

end Go.Proofs.YtbojhcfofgdoeaaDoor
