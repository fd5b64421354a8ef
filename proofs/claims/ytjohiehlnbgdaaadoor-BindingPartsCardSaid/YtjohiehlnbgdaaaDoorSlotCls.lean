/- Copies of bindings, gathered into a list: a row of slices grows, and what they stand for stays. -/
import Derived.Test.YtjohiehlnbgdaaaDoorSlotPut
namespace Go.Proofs.YtjohiehlnbgdaaaDoor
open Go.RowKit
set_option linter.unusedVariables false

theorem SIn.grown {w w' : World} {row : Option Nat} {a : Option Addr} {len : Nat} {L : List Sd} (h : SIn w a len L) (hg : w.grownBy w' row) (hne : ∀ g off, a = some ⟨g, off, none⟩ → some g ≠ row) : SIn w' a len L :=
  ⟨h.leng, h.small, fun h0 => by
    obtain ⟨g, off, e, hlt, hr⟩ := h.row h0
    have hb := hg.block g hlt (hne g off e)
    refine ⟨g, off, e, Nat.lt_of_lt_of_le hlt hg.size, fun n hn => ?_⟩
    have hc : ∀ o, w'.cell? ⟨g, o, none⟩ = w.cell? ⟨g, o, none⟩ := fun o => World.cell?_of_block (a := ⟨g, o, none⟩) hb
    obtain ⟨h0, h1, h2, h3, h4⟩ := hr n hn
    exact ⟨(hc _).trans h0, (hc _).trans h1, (hc _).trans h2, (hc _).trans h3, (hc _).trans h4⟩, h.fits⟩
/-- The place of a slice is a block of slots. -/
def SlotObj (w : World) (a : Option Addr) : Prop := ∀ g off, a = some ⟨g, off, none⟩ → ∃ cs f, w.heap[g]? = some (.cells cs 36 f)
theorem SlotObj.lt {w : World} {g off : Nat} (h : SlotObj w (some ⟨g, off, none⟩)) : g < w.heap.size := by
  obtain ⟨cs, f, e⟩ := h g off rfl
  exact (Array.getElem?_eq_some_iff.1 e).1
theorem SlotObj.below {w w' : World} {a : Option Addr} (h : SlotObj w a) (hb : Below w.heap.size w w') : SlotObj w' a := fun g off e => by
  subst e
  obtain ⟨cs, f, e⟩ := h g off rfl
  exact ⟨cs, f, (hb.block g h.lt).trans e⟩
theorem SlotObj.ne {w : World} {a : Option Addr} (h : SlotObj w a) {B : Nat} {o : Value} {n : Nat} {us : List Value} (ho : w.ownsRow B 22 1 o n us) : ∀ g off, a = some ⟨g, off, none⟩ → some g ≠ o.ownBlock := fun g off e k => by
  obtain ⟨cs, f, e1⟩ := h g off e
  rcases ho.2 with ⟨rfl, _⟩ | ⟨g', cap, cur, rfl, _, hg, _⟩
  · cases k
  · have : g = g' := Option.some.inj k
    subst this
    rw [e1] at hg
    simp at hg
theorem SlotObj.grown {w w' : World} {row : Option Nat} {a : Option Addr} (h : SlotObj w a) (hg : w.grownBy w' row) (hne : ∀ g off, a = some ⟨g, off, none⟩ → some g ≠ row) : SlotObj w' a := fun g off e => by
  subst e
  obtain ⟨cs, f, e⟩ := h g off rfl
  exact ⟨cs, f, (hg.block g h.lt (hne g off rfl)).trans e⟩
/-- Copies of bindings. -/
structure Cls (w : World) (us : List Value) (MM : List (List Sd)) : Prop where
  leng : us.length = MM.length
  at' : ∀ n, n < MM.length → ∃ a c, us[n]? = some (.slice a (MM.getD n []).length c) ∧ SIn w a (MM.getD n []).length (MM.getD n []) ∧ SlotObj w a
theorem Cls.nil (w : World) : Cls w [] [] := ⟨rfl, fun n hn => by simp at hn⟩
theorem Cls.vs {w : World} {us : List Value} {MM : List (List Sd)} (h : Cls w us MM) : Vs w us MM := ⟨h.leng, fun n hn => by
  obtain ⟨a, c, e, hs, _⟩ := h.at' n hn
  exact ⟨a, c, e, hs⟩⟩
theorem Cls.below {w w' : World} {us : List Value} {MM : List (List Sd)} (h : Cls w us MM) (hb : Below w.heap.size w w') : Cls w' us MM := ⟨h.leng, fun n hn => by
  obtain ⟨a, c, e, hs, ho⟩ := h.at' n hn
  exact ⟨a, c, e, hs.below hb, ho.below hb⟩⟩
theorem Cls.snoc {w : World} {us : List Value} {MM : List (List Sd)} {a : Option Addr} {c : Nat} {L : List Sd} (h : Cls w us MM) (hs : SIn w a L.length L) (ho : SlotObj w a) : Cls w (us ++ [.slice a L.length c]) (MM ++ [L]) :=
  ⟨by simp [h.leng], fun n hn => by
    by_cases e : n < MM.length
    · obtain ⟨a', c', e1, hs', ho'⟩ := h.at' n e
      have e2 : (MM ++ [L]).getD n [] = MM.getD n [] := by simp [List.getD, List.getElem?_append_left e]
      rw [e2]
      exact ⟨a', c', by rw [List.getElem?_append_left (by rw [h.leng]; exact e)]; exact e1, hs', ho'⟩
    · have en : n = MM.length := by simp at hn; omega
      subst en
      have e2 : (MM ++ [L]).getD MM.length [] = L := by simp [List.getD]
      rw [e2]
      exact ⟨a, c, by rw [← h.leng]; simp, hs, ho⟩⟩
theorem Cls.grown {w w' : World} {us vs : List Value} {MM : List (List Sd)} {B : Nat} {o : Value} {n : Nat} (h : Cls w us MM) (ho : w.ownsRow B 22 1 o n vs) (hg : w.grownBy w' o.ownBlock) : Cls w' us MM := ⟨h.leng, fun m hm => by
  obtain ⟨a, c, e, hs, hob⟩ := h.at' m hm
  exact ⟨a, c, e, hs.grown hg (hob.ne ho), hob.grown hg (hob.ne ho)⟩⟩
/-- A copy that a call has made. -/
theorem own_sin3 {B : Nat} {o : Value} {L : List Sd} {w : World} (h : w.ownsRow B 36 5 o L.length (cellsS L)) (hall : ∀ z ∈ L, FitS z) :
    ∃ a cap, o = .slice a L.length cap ∧ SIn w a L.length L ∧ SlotObj w a := by
  obtain ⟨a, cap, rfl, hs⟩ := own_sin h hall
  refine ⟨a, cap, rfl, hs, fun g off e => ?_⟩
  subst e
  rcases h.2 with ⟨e, _⟩ | ⟨g', cap', cur, e, _, hg, _⟩
  · simp at e
  · simp only [Value.slice.injEq, Option.some.injEq, Addr.mk.injEq] at e
    rw [e.1.1]
    exact ⟨cur, _, hg⟩
end Go.Proofs.YtjohiehlnbgdaaaDoor
