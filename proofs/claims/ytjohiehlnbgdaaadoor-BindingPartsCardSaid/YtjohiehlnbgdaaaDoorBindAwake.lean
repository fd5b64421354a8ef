/- The laws' own awake: the chapter's example. -/
import Derived.Test.YtjohiehlnbgdaaaDoorSlotUnion
import Derived.Test.YtjohiehlnbgdaaaDoorSlotUnder
import Derived.Test.YtjohiehlnbgdaaaDoorSlotRight
import Derived.Deep.RegionHeld3
namespace Go.Proofs.YtjohiehlnbgdaaaDoor
open Go.RowKit
set_option linter.unusedVariables false

theorem sin_of_cells {w : World} {g off : Nat} {L : List Sd} (h : ∀ j u, (cellsS L)[j]? = some u → w.cell? ⟨g, off + j, none⟩ = some u) (hg : g < w.heap.size) (hf : ∀ z ∈ L, FitS z) (hl : L.length ≤ 9223372036854775807) : SIn w (some ⟨g, off, none⟩) L.length L :=
  ⟨rfl, hl, fun _ => ⟨g, off, rfl, hg, fun n hn => LiesS.of_enc (fun i v hi => by
    have hi5 : i < 5 := by have := (List.getElem?_eq_some_iff.1 hi).1; rwa [encS_len] at this
    rw [← cellsS_at L n i hn hi5] at hi
    rw [Nat.add_assoc]
    exact h _ _ hi)⟩, hf⟩
theorem cells_kept {w w' : World} {B g1 o1 g2 o2 : Nat} {v0 v1 v2 v3 v4 u0 u1 u2 u3 u4 : Value} (h : (w.cell? ⟨g1, o1, none⟩ = some v0 ∧ w.cell? ⟨g1, o1 + 1, none⟩ = some v1 ∧ w.cell? ⟨g1, o1 + 2, none⟩ = some v2 ∧ w.cell? ⟨g1, o1 + 3, none⟩ = some v3 ∧ w.cell? ⟨g1, o1 + 4, none⟩ = some v4) ∧ w.cell? ⟨g2, o2, none⟩ = some u0 ∧ w.cell? ⟨g2, o2 + 1, none⟩ = some u1 ∧ w.cell? ⟨g2, o2 + 2, none⟩ = some u2 ∧ w.cell? ⟨g2, o2 + 3, none⟩ = some u3 ∧ w.cell? ⟨g2, o2 + 4, none⟩ = some u4) (hb : Below B w w') (h1 : g1 < B) (h2 : g2 < B) : (w'.cell? ⟨g1, o1, none⟩ = some v0 ∧ w'.cell? ⟨g1, o1 + 1, none⟩ = some v1 ∧ w'.cell? ⟨g1, o1 + 2, none⟩ = some v2 ∧ w'.cell? ⟨g1, o1 + 3, none⟩ = some v3 ∧ w'.cell? ⟨g1, o1 + 4, none⟩ = some v4) ∧ w'.cell? ⟨g2, o2, none⟩ = some u0 ∧ w'.cell? ⟨g2, o2 + 1, none⟩ = some u1 ∧ w'.cell? ⟨g2, o2 + 2, none⟩ = some u2 ∧ w'.cell? ⟨g2, o2 + 3, none⟩ = some u3 ∧ w'.cell? ⟨g2, o2 + 4, none⟩ = some u4 := by
  obtain ⟨⟨a0, a1, a2, a3, a4⟩, b0, b1, b2, b3, b4⟩ := h
  exact ⟨⟨(hb.cell (p := ⟨g1, o1, none⟩) h1).trans a0, (hb.cell (p := ⟨g1, o1 + 1, none⟩) h1).trans a1, (hb.cell (p := ⟨g1, o1 + 2, none⟩) h1).trans a2, (hb.cell (p := ⟨g1, o1 + 3, none⟩) h1).trans a3, (hb.cell (p := ⟨g1, o1 + 4, none⟩) h1).trans a4⟩, (hb.cell (p := ⟨g2, o2, none⟩) h2).trans b0, (hb.cell (p := ⟨g2, o2 + 1, none⟩) h2).trans b1, (hb.cell (p := ⟨g2, o2 + 2, none⟩) h2).trans b2, (hb.cell (p := ⟨g2, o2 + 3, none⟩) h2).trans b3, (hb.cell (p := ⟨g2, o2 + 4, none⟩) h2).trans b4⟩
def s5 : Sd := ⟨0, ⟨1, 5, ⟨#[]⟩, false⟩⟩
def s6 : Sd := ⟨1, ⟨1, 6, ⟨#[]⟩, false⟩⟩
theorem fit5 : FitS s5 := ⟨⟨by decide, by decide⟩, by decide, by decide, by decide⟩
theorem fit6 : FitS s6 := ⟨⟨by decide, by decide⟩, by decide, by decide, by decide⟩
theorem fitAll56 : fitAll [s5] [s5, s6] = true := by simp [fitAll, bothL, s5, s6]
theorem uni56 : uniL [s5] [s5, s6] = [s5, s6] := by rw [uniL, if_pos fitAll56]; simp [bothL, s5, s6]
theorem under56 : underL [s5] [s5, s6] = true := by simp [underL]
theorem right56 : rightL [s5, s6] = true := by simp [rightL, rightFrom, rV, rightB, s5, s6, ByteArray.toList_eq]

set_option maxHeartbeats 4000000 in
set_option maxRecDepth 100000 in
theorem awake_calls (w : World) :
    Calls Tryd.prog 6 #[] w fun e w' => e = .returned (.bool true) ∧ Below w.heap.size w w' := by
  obtain ⟨w0, hw0⟩ : ∃ w0, (w.alloc (.cells #[.int .i64 0, .int .i64 1, .int .i64 5, .string ⟨#[]⟩, .bool false] 36)).alloc (.cells #[.int .i64 0, .int .i64 1, .int .i64 5, .string ⟨#[]⟩, .bool false, .int .i64 1, .int .i64 1, .int .i64 6, .string ⟨#[]⟩, .bool false] 36) = w0 := ⟨_, rfl⟩
  have hb0 : Below w.heap.size w w0 := by rw [← hw0]; exact ((Below.refl _ w).alloc (Nat.le_refl _) _).alloc (by simp) _
  have hsz : w0.heap.size = w.heap.size + 2 := by rw [← hw0]; simp
  have hA : SIn w0 (some ⟨w.heap.size, 0, none⟩) 1 [s5] := sin_of_cells (L := [s5]) (fun j u hj => by
    rw [Nat.zero_add, ← hw0, World.cell?_alloc_old _ _ _ (by simp)]
    exact ((Blk.new w _ _).cell j).trans (by simpa [cellsS, encS, s5] using hj)) (by omega) (fun z hz => by simp at hz; rw [hz]; exact fit5) (by decide)
  have hB : SIn w0 (some ⟨w.heap.size + 1, 0, none⟩) 2 [s5, s6] := sin_of_cells (L := [s5, s6]) (fun j u hj => by
    rw [Nat.zero_add, ← hw0]
    have := (Blk.new (w.alloc (.cells #[.int .i64 0, .int .i64 1, .int .i64 5, .string ⟨#[]⟩, .bool false] 36)) #[.int .i64 0, .int .i64 1, .int .i64 5, .string ⟨#[]⟩, .bool false, .int .i64 1, .int .i64 1, .int .i64 6, .string ⟨#[]⟩, .bool false] 36).cell j
    rw [World.size_alloc] at this
    exact this.trans (by simpa [cellsS, encS, s5, s6] using hj)) (by omega) (fun z hz => by simp at hz; rcases hz with rfl | rfl; exact fit5; exact fit6) (by decide)
  have h1 := bUnion_calls _ _ 1 1 2 2 [s5] [s5, s6] w0 hA hB (by omega) (by omega)
  rw [fitAll56, uni56] at h1
  have H1 := Lib.hid h1
  have h2 := fun w1 (k : Below w0.heap.size w0 w1) => bUnder_calls _ _ 1 1 2 2 [s5] [s5, s6] w1 (hA.below k) (hB.below k)
  rw [under56] at h2
  have H2 := Lib.hid h2
  have h3 := fun w1 (k : Below w0.heap.size w0 w1) => bRight_calls _ 2 2 [s5, s6] w1 (hB.below k)
  rw [right56] at h3
  have H3 := Lib.hid h3
  have HB0 := Lib.hid hb0
  have HB := Lib.hid hB
  have q1 := fun w => eqInS s6 s6 w
  simp only [s6, decide_true] at q1
  have q2 := guardS
  have HS := Lib.hid hsz
  clear h1 h2 h3 hA hB hb0 hsz
  go_enter Tryd.func6, Tryd.ntmps6
  go_wp2_with fail
  clear hw0
  refine H1.out.mono ?_
  rintro e w1 ⟨o, rfl, ho, k1⟩
  obtain ⟨ua, uc, rfl, hu⟩ := own_sin ho (fun z hz => by simp at hz; rcases hz with rfl | rfl; exact fit5; exact fit6)
  obtain ⟨ug, uo, rfl, hug, hul⟩ := hu.row (by simp)
  obtain ⟨c0, c1, c2, c3, c4⟩ := hul 1 (by simp)
  obtain ⟨bg, bo, e, hbg, hbl⟩ := (HB.out.below k1).row (by simp)
  cases e
  obtain ⟨d0, d1, d2, d3, d4⟩ := hbl 1 (by simp)
  have HB1 := Lib.hid (HB0.out.trans (k1.mono HB0.out.size))
  have HK1 := Lib.hid k1
  have HUL := Lib.hid hug
  clear hu hul hbl k1 ho
  simp only [List.getD, List.getElem?_cons_succ, List.getElem?_cons_zero, Option.getD_some, s6, Nat.one_mul] at c0 c1 c2 c3 c4 d0 d1 d2 d3 d4
  have HC : Hid ((w1.cell? ⟨ug, uo + 5, none⟩ = some (.int .i64 1) ∧ w1.cell? ⟨ug, uo + 5 + 1, none⟩ = some (.int .i64 1) ∧ w1.cell? ⟨ug, uo + 5 + 2, none⟩ = some (.int .i64 6) ∧ w1.cell? ⟨ug, uo + 5 + 3, none⟩ = some (.string ⟨#[]⟩) ∧ w1.cell? ⟨ug, uo + 5 + 4, none⟩ = some (.bool false)) ∧ w1.cell? ⟨w.heap.size + 1, 0 + 5, none⟩ = some (.int .i64 1) ∧ w1.cell? ⟨w.heap.size + 1, 0 + 5 + 1, none⟩ = some (.int .i64 1) ∧ w1.cell? ⟨w.heap.size + 1, 0 + 5 + 2, none⟩ = some (.int .i64 6) ∧ w1.cell? ⟨w.heap.size + 1, 0 + 5 + 3, none⟩ = some (.string ⟨#[]⟩) ∧ w1.cell? ⟨w.heap.size + 1, 0 + 5 + 4, none⟩ = some (.bool false)) := Lib.hid ⟨⟨c0, c1, c2, c3, c4⟩, d0, d1, d2, d3, d4⟩
  simp only [List.length_cons, List.length_nil]
  go_wp2_with fail
  go_region_held3 (fun w2 => (w2.cell? ⟨ug, uo + 5, none⟩ = some (.int .i64 1) ∧ w2.cell? ⟨ug, uo + 5 + 1, none⟩ = some (.int .i64 1) ∧ w2.cell? ⟨ug, uo + 5 + 2, none⟩ = some (.int .i64 6) ∧ w2.cell? ⟨ug, uo + 5 + 3, none⟩ = some (.string ⟨#[]⟩) ∧ w2.cell? ⟨ug, uo + 5 + 4, none⟩ = some (.bool false)) ∧ w2.cell? ⟨w.heap.size + 1, 0 + 5, none⟩ = some (.int .i64 1) ∧ w2.cell? ⟨w.heap.size + 1, 0 + 5 + 1, none⟩ = some (.int .i64 1) ∧ w2.cell? ⟨w.heap.size + 1, 0 + 5 + 2, none⟩ = some (.int .i64 6) ∧ w2.cell? ⟨w.heap.size + 1, 0 + 5 + 3, none⟩ = some (.string ⟨#[]⟩) ∧ w2.cell? ⟨w.heap.size + 1, 0 + 5 + 4, none⟩ = some (.bool false)) (first | exact HC4.out | exact HC3.out | exact HC.out) (first
    | (go_at_call 9; refine (H2.out _ HK1.out.drew).mono ?_; rintro e w3 ⟨rfl, k3⟩; have HK3 := Lib.hid (HK1.out.drew.trans (k3.mono HK1.out.size)); have HC3 : Hid ((w3.cell? ⟨ug, uo + 5, none⟩ = some (.int .i64 1) ∧ w3.cell? ⟨ug, uo + 5 + 1, none⟩ = some (.int .i64 1) ∧ w3.cell? ⟨ug, uo + 5 + 2, none⟩ = some (.int .i64 6) ∧ w3.cell? ⟨ug, uo + 5 + 3, none⟩ = some (.string ⟨#[]⟩) ∧ w3.cell? ⟨ug, uo + 5 + 4, none⟩ = some (.bool false)) ∧ w3.cell? ⟨w.heap.size + 1, 0 + 5, none⟩ = some (.int .i64 1) ∧ w3.cell? ⟨w.heap.size + 1, 0 + 5 + 1, none⟩ = some (.int .i64 1) ∧ w3.cell? ⟨w.heap.size + 1, 0 + 5 + 2, none⟩ = some (.int .i64 6) ∧ w3.cell? ⟨w.heap.size + 1, 0 + 5 + 3, none⟩ = some (.string ⟨#[]⟩) ∧ w3.cell? ⟨w.heap.size + 1, 0 + 5 + 4, none⟩ = some (.bool false)) := Lib.hid (cells_kept (HC.out) ((Below.refl w1.heap.size w1).drew.trans k3) HUL.out hbg); have HB3 := Lib.hid (HB1.out.drew.trans (k3.mono HB1.out.size)); have HL3 : Hid (ug < w3.heap.size ∧ w.heap.size + 1 < w3.heap.size) := Lib.hid ⟨Nat.lt_of_lt_of_le HUL.out k3.size, Nat.lt_of_lt_of_le hbg k3.size⟩; clear k3)
    | (go_at_call 24; refine (H3.out _ HK3.out).mono ?_; rintro e w4 ⟨rfl, k4⟩; have HC4 : Hid ((w4.cell? ⟨ug, uo + 5, none⟩ = some (.int .i64 1) ∧ w4.cell? ⟨ug, uo + 5 + 1, none⟩ = some (.int .i64 1) ∧ w4.cell? ⟨ug, uo + 5 + 2, none⟩ = some (.int .i64 6) ∧ w4.cell? ⟨ug, uo + 5 + 3, none⟩ = some (.string ⟨#[]⟩) ∧ w4.cell? ⟨ug, uo + 5 + 4, none⟩ = some (.bool false)) ∧ w4.cell? ⟨w.heap.size + 1, 0 + 5, none⟩ = some (.int .i64 1) ∧ w4.cell? ⟨w.heap.size + 1, 0 + 5 + 1, none⟩ = some (.int .i64 1) ∧ w4.cell? ⟨w.heap.size + 1, 0 + 5 + 2, none⟩ = some (.int .i64 6) ∧ w4.cell? ⟨w.heap.size + 1, 0 + 5 + 3, none⟩ = some (.string ⟨#[]⟩) ∧ w4.cell? ⟨w.heap.size + 1, 0 + 5 + 4, none⟩ = some (.bool false)) := Lib.hid (cells_kept (HC3.out) k4 HL3.out.1 HL3.out.2); have HB4 := Lib.hid (HB3.out.trans (k4.mono HB3.out.size)); clear k4))
  go_wp2_with fail
  go_ret
  exact ⟨rfl, HB4.out⟩
end Go.Proofs.YtjohiehlnbgdaaaDoor
