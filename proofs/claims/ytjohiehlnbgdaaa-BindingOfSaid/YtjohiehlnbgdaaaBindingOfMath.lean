/- What the law BindingOf gathers, as plain data. -/
import Derived.Test.YtjohiehlnbgdaaaBindAwake
import Derived.Test.YtjohiehlnbgdaaaSlotMath
import Derived.Test.YtjohiehlnbgdaaaSlotRefRight
import Derived.Test.YtjohiehlnbgdaaaSlotBGet
namespace Go.Proofs.Ytjohiehlnbgdaaa.bindingOf
open Go.RowKit
set_option linter.unusedVariables false

/-- Slots may be put together to a binding. -/
def FitL (L : List Sd) : Prop := (∀ z ∈ L, 0 ≤ z.x ∧ z.x ≤ 7 ∧ rV z.v = true) ∧ ∀ p ∈ L, ∀ q ∈ L, p.x = q.x → p = q
theorem right_fit {M : List Sd} (h : rightL M = true) : FitL M :=
  ⟨fun z hz => rf_mem h z hz, fun p hp q hq e => by
    have h1 := (get_iff h p.x p.v).2 hp
    have h2 := (get_iff h q.x q.v).2 hq
    rw [e, h2] at h1
    obtain ⟨x, v⟩ := p
    obtain ⟨y, u⟩ := q
    simp only at e h1
    cases h1
    rw [e]⟩
theorem fit_iff {D L : List Sd} (hp : D.Perm L) (hs : SortedS D) : rightL (Lib.compact D) = true ↔ FitL L := by
  constructor
  · intro h
    obtain ⟨h1, h2⟩ := right_fit h
    exact ⟨fun z hz => h1 z ((compact_iff D z).2 (hp.mem_iff.2 hz)), fun p hp' q hq' e => h2 p ((compact_iff D p).2 (hp.mem_iff.2 hp')) q ((compact_iff D q).2 (hp.mem_iff.2 hq')) e⟩
  · rintro ⟨h1, h2⟩
    exact compact_right hs (fun z hz => h1 z (hp.mem_iff.1 hz)) (fun p hp' q hq' e => h2 p (hp.mem_iff.1 hp') q (hp.mem_iff.1 hq') e)
/-- What the law has gathered of the first slots. -/
structure Want (L : List Sd) (n : Nat) (W : List Sd) : Prop where
  right : rightL W = true
  mem : ∀ z, z ∈ W ↔ z ∈ L.take n
theorem Want.start (L : List Sd) : Want L 0 [] := ⟨rfl, fun z => by simp⟩
theorem take_mem {L : List Sd} {n : Nat} (h : n < L.length) (z : Sd) : z ∈ L.take (n + 1) ↔ z ∈ L.take n ∨ z = L.getD n default := by
  rw [List.take_succ_eq_append_getElem h, List.mem_append, List.mem_singleton, show L.getD n default = L[n] by simp [List.getD, h]]
/-- The next slot does not go with the ones ahead of it. -/
def Bad (W : List Sd) (z : Sd) : Prop := (getB W z.x = true ∧ getV W z.x ≠ z.v) ∨ z.x < 0 ∨ 7 < z.x ∨ rV z.v = false
theorem bad_fit {L W : List Sd} {n : Nat} (hn : n < L.length) (hw : Want L n W) (hb : Bad W (L.getD n default)) : ¬ FitL L := by
  rintro ⟨h1, h2⟩
  have hz := getD_mem hn
  obtain ⟨r1, r2, r3⟩ := h1 _ hz
  rcases hb with ⟨g, h⟩ | h | h | h
  · obtain ⟨v, hv⟩ := (getB_eq _ _).1 g
    rw [getV_some hv] at h
    have hm := List.mem_of_mem_take ((hw.mem _).1 (get_mem hv))
    have e := h2 _ hm _ hz rfl
    apply h
    rw [← e]
  · omega
  · omega
  · rw [r3] at h; cases h
theorem rV_one (z : Sd) (h1 : 0 ≤ z.x) (h2 : z.x ≤ 7) : rightL [z] = rV z.v := by
  simp [rightL, rightFrom, h1, h2]
theorem Want.next {L W : List Sd} {n : Nat} (hn : n < L.length) (hw : Want L n W) (hb : ¬ Bad W (L.getD n default)) : Want L (n + 1) (unionR W [L.getD n default] 8) := by
  have hz : 0 ≤ (L.getD n default).x ∧ (L.getD n default).x ≤ 7 ∧ rV (L.getD n default).v = true := by
    refine ⟨?_, ?_, ?_⟩
    · by_cases h : (L.getD n default).x < 0
      · exact absurd (.inr (.inl h)) hb
      · omega
    · by_cases h : 7 < (L.getD n default).x
      · exact absurd (.inr (.inr (.inl h))) hb
      · omega
    · cases h : rV (L.getD n default).v
      · exact absurd (.inr (.inr (.inr h))) hb
      · rfl
  refine ⟨unionR_right (fun z h => (rf_mem hw.right z h).2.2) (fun z h => by simp at h; rw [h]; exact hz.2.2) 8 (by omega), fun z => ?_⟩
  rw [unionR_mem, take_mem hn, ← hw.mem]
  generalize L.getD n default = y at hz hb
  have gy : ∀ q u, getL [y] q = some u ↔ (y.x = q ∧ y.v = u) := fun q u => by
    rw [get_cons]
    by_cases e : y.x = q
    · rw [if_pos e]; simp [e]
    · rw [if_neg e]; simp [getL, e]
  constructor
  · rintro ⟨h1, h2 | ⟨h2, h3⟩⟩
    · exact .inl ((get_iff hw.right _ _).1 h2)
    · rw [gy] at h3
      right
      obtain ⟨x, u⟩ := z
      obtain ⟨x', u'⟩ := y
      simp only at h3
      rw [h3.1, h3.2]
  · rintro (h | rfl)
    · have := rf_mem hw.right z h
      exact ⟨by omega, .inl ((get_iff hw.right _ _).2 h)⟩
    · refine ⟨by omega, ?_⟩
      cases hg : getL W z.x with
      | none => exact .inr ⟨rfl, (gy _ _).2 ⟨rfl, rfl⟩⟩
      | some u =>
        left
        have : getV W z.x = z.v := by
          by_cases e : getV W z.x = z.v
          · exact e
          · exact absurd (.inl ⟨getB_some hg, e⟩) hb
        rw [getV_some hg] at this
        rw [this]
theorem want_all {D L W : List Sd} (hp : D.Perm L) (hr : rightL (Lib.compact D) = true) (hw : Want L L.length W) : Lib.compact D = W :=
  right_same hr hw.right (fun z => by rw [compact_iff, hp.mem_iff, hw.mem, List.take_length])
theorem want_fit {L W : List Sd} (hw : Want L L.length W) : FitL L := by
  obtain ⟨h1, h2⟩ := right_fit hw.right
  have e : ∀ z, z ∈ W ↔ z ∈ L := fun z => by rw [hw.mem, List.take_length]
  exact ⟨fun z hz => h1 z ((e z).2 hz), fun p hp q hq => h2 p ((e p).2 hp) q ((e q).2 hq)⟩
theorem sin_one {w : World} {g off len : Nat} {L : List Sd} (h : SIn w (some ⟨g, off, none⟩) len L) {n : Nat} (hn : n < len) : SIn w (some ⟨g, off + n * 5, none⟩) 1 [L.getD n default] :=
  ⟨rfl, by omega, fun _ => by
    obtain ⟨g', off', e, hg, hr⟩ := h.row (by omega)
    cases e
    exact ⟨g, off + n * 5, rfl, hg, fun m hm => by
      obtain rfl : m = 0 := by omega
      simpa using hr n hn⟩, fun z hz => by simp at hz; rw [hz]; exact h.fit hn⟩
theorem cells2_kept {w w' : World} {B g1 o1 g2 : Nat} {v0 v1 v2 v3 v4 u0 u1 u2 u3 : Value} (h : (w.cell? ⟨g1, o1, none⟩ = some v0 ∧ w.cell? ⟨g1, o1 + 1, none⟩ = some v1 ∧ w.cell? ⟨g1, o1 + 2, none⟩ = some v2 ∧ w.cell? ⟨g1, o1 + 3, none⟩ = some v3 ∧ w.cell? ⟨g1, o1 + 4, none⟩ = some v4) ∧ w.cell? ⟨g2, 0, none⟩ = some u0 ∧ w.cell? ⟨g2, 1, none⟩ = some u1 ∧ w.cell? ⟨g2, 2, none⟩ = some u2 ∧ w.cell? ⟨g2, 3, none⟩ = some u3) (hb : Below B w w') (h1 : g1 < B) (h2 : g2 < B) :
    (w'.cell? ⟨g1, o1, none⟩ = some v0 ∧ w'.cell? ⟨g1, o1 + 1, none⟩ = some v1 ∧ w'.cell? ⟨g1, o1 + 2, none⟩ = some v2 ∧ w'.cell? ⟨g1, o1 + 3, none⟩ = some v3 ∧ w'.cell? ⟨g1, o1 + 4, none⟩ = some v4) ∧ w'.cell? ⟨g2, 0, none⟩ = some u0 ∧ w'.cell? ⟨g2, 1, none⟩ = some u1 ∧ w'.cell? ⟨g2, 2, none⟩ = some u2 ∧ w'.cell? ⟨g2, 3, none⟩ = some u3 := by
  obtain ⟨⟨a0, a1, a2, a3, a4⟩, b0, b1, b2, b3⟩ := h
  exact ⟨⟨(hb.cell (p := ⟨g1, o1, none⟩) h1).trans a0, (hb.cell (p := ⟨g1, o1 + 1, none⟩) h1).trans a1, (hb.cell (p := ⟨g1, o1 + 2, none⟩) h1).trans a2, (hb.cell (p := ⟨g1, o1 + 3, none⟩) h1).trans a3, (hb.cell (p := ⟨g1, o1 + 4, none⟩) h1).trans a4⟩, (hb.cell (p := ⟨g2, 0, none⟩) h2).trans b0, (hb.cell (p := ⟨g2, 1, none⟩) h2).trans b1, (hb.cell (p := ⟨g2, 2, none⟩) h2).trans b2, (hb.cell (p := ⟨g2, 3, none⟩) h2).trans b3⟩
end Go.Proofs.Ytjohiehlnbgdaaa.bindingOf
