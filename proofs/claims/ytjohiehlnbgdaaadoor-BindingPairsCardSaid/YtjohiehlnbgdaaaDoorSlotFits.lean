/- What binding.Fits does with any two lists of slots. -/
import Derived.Test.YtjohiehlnbgdaaaDoorSlotUnion
namespace Go.Proofs.YtjohiehlnbgdaaaDoor
open Go.RowKit Go.Shelf
set_option linter.unusedVariables false
attribute [local go_sem] Oper.semAt_some

theorem results_cell1 {fn : Func} {p : Tmp} {ty : TypeId} (h : fn.results = #[.cell p ty]) (tmps : Array Value) (P : Program) (w : World) {a : Addr} {v : Value}
    (h1 : (asAddr (tmps.getD p undef)).run P w = .ok a w) (h2 : (loadVar ty a).run P w = .ok v w) : (results fn tmps).run P w = .ok v w := by
  rw [Array.getD_eq_getD_getElem?] at h1
  simp [results, h, Sem.run_bind, Result.andThen, h1, h2]

set_option maxRecDepth 100000 in
set_option maxHeartbeats 2000000 in
theorem bFits_calls (a b : Option Addr) (la ca lb cb : Nat) (A B : List Sd) (w : World) (hsA : SIn w a la A) (hsB : SIn w b lb B) :
    Calls Tryd.prog 11 #[.slice a la ca, .slice b lb cb] w fun e w' => e = .returned (.bool (fitAll A B)) ∧ Below w.heap.size w w' := by
  refine (callsIn_wide (n := 6)).1 ?_
  refine callsIn_of_wp_marks Tryd.func11 rfl trivial ?_ rfl
  simp only [Tryd.ntmps11, List.size_toArray, List.length_cons, List.length_nil, Nat.reduceAdd, Nat.reduceSub, Array.replicate_succ, Array.replicate_zero, List.push_toArray, List.append_toArray, List.nil_append, List.cons_append]
  gi_wp2_with (refine ⟨trivial, ?_⟩; gi_at_call 26; refine (callsIn_wide.2 (both_calls a b la ca lb cb _)).mono ?_; rintro e w2 ⟨rfl, rfl⟩)
  have bK := ((_root_.Go.Boxed.new w 4 (.bool false)).alloc (.cells #[.slice a la ca] 22)).alloc (.cells #[.slice b lb cb] 22)
  have bA := (_root_.Go.Boxed.new (w.alloc (.cells #[.bool false] 4)) 22 (.slice a la ca)).alloc (.cells #[.slice b lb cb] 22)
  have bB := _root_.Go.Boxed.new ((w.alloc (.cells #[.bool false] 4)).alloc (.cells #[.slice a la ca] 22)) 22 (.slice b lb cb)
  simp only [World.size_alloc] at bK bA bB
  have hB0 := (((Below.refl w.heap.size w).alloc (Nat.le_refl _) (.cells #[.bool false] 4)).alloc (by simp) (.cells #[.slice a la ca] 22)).alloc (by simp; omega) (.cells #[.slice b lb cb] 22)
  have hsz : (((w.alloc (.cells #[.bool false] 4)).alloc (.cells #[.slice a la ca] 22)).alloc (.cells #[.slice b lb cb] 22)).heap.size = w.heap.size + 3 := by simp
  obtain ⟨W0, hW0⟩ : ∃ W0, ((w.alloc (.cells #[.bool false] 4)).alloc (.cells #[.slice a la ca] 22)).alloc (.cells #[.slice b lb cb] 22) = W0 := ⟨_, rfl⟩
  rw [hW0] at bK bA bB hB0 hsz ⊢
  clear hW0
  refine wpIn_rangeFunc_ownH rfl (by omega) (gf := 43) (lb := #[.pointer (some ⟨w.heap.size + 1, 0, none⟩), .pointer (some ⟨w.heap.size + 1 + 1, 0, none⟩)]) rfl trivial (enters_of Tryd.func43 (by kernel_rfl) rfl)
    (both_stops 5 (by omega) (w.heap.size + 1) (w.heap.size + 1 + 1) a b la ca lb cb A B w hsA hsB W0 hB0 bA.cell bB.cell) kpB_t (kpB_b (by omega) (by omega) (by omega)) (Below.refl _ _) (fun _ => rfl)
    (fun pre W => ((_root_.Go.Boxed W w.heap.size 4 (.bool false) ∧ ∀ p ∈ pre, p.2 = true) ∧ (_root_.Go.Boxed W (w.heap.size + 1) 22 (.slice a la ca) ∧ _root_.Go.Boxed W (w.heap.size + 1 + 1) 22 (.slice b lb cb))) ∧ Below w.heap.size w W)
    (fun c pre W => (_root_.Go.Boxed W w.heap.size 4 (.bool false) ∧ Below w.heap.size w W) ∧ (c = .ret ∧ ∃ p ∈ pre, p.2 = false))
    (OwnFrom.and (OwnFrom.and (OwnFrom.and (Own.from (boxed_own _ _ _) _) (ownFrom_pure _ _)) (OwnFrom.and (Own.from (boxed_own _ _ _) _) (Own.from (boxed_own _ _ _) _))) (ownFrom_below (Nat.le_refl _) (by omega)))
    (fun c => OwnFrom.and (OwnFrom.and (Own.from (boxed_own _ _ _) _) (ownFrom_below (Nat.le_refl _) (by omega))) (ownFrom_pure _ _))
    ⟨⟨⟨bK, by simp⟩, bA, bB⟩, hB0⟩
    (fun x a' _ => a' = { tmps := #[.slice a la ca, .slice b lb cb, undef, undef, .pointer (some ⟨w.heap.size, 0, none⟩), undef, .bool x.2, .slice a la ca, .slice b lb cb, .func (.func 43) #[] #[.pointer (some ⟨w.heap.size + 1, 0, none⟩), .pointer (some ⟨w.heap.size + 1 + 1, 0, none⟩)], .agg #[.int .i64 x.1.x, .int .i64 x.1.v.k, .int .i64 x.1.v.i, .string x.1.v.s, .bool x.1.v.b], .bool x.2, undef, undef], defers := [] })
    (fun _ _ _ _ _ _ hs _ _ => hs)
    ?assign ?body ?done ?stop
  case assign =>
    rintro l pre x W K hi hK
    dsimp only [encB]
    gi_wp2
    exact hK _ _ (KeepsFrom.refl _ _) ⟨Below.refl _ _, rfl, rfl⟩ hi rfl
  case body =>
    rintro l pre x a' W hl _ ⟨⟨⟨bK1, hall⟩, bA1, bB1⟩, hB1⟩ rfl hlt
    cases hf : x.2
    · have c2 := bK1.cell
      have g2 := bK1.frozen
      gi_wp2
      exact ⟨(KeepsOthers.setCell _ _ _).from _, ⟨bK1.set _, hB1.setCell (p := ⟨w.heap.size, 0, none⟩) (Nat.le_refl _) _⟩, rfl, x, by simp, hf⟩
    · gi_wp2
      exact ⟨KeepsFrom.refl _ _, ⟨Below.refl _ _, rfl, rfl⟩, ⟨⟨bK1, (all_snoc pre x).2 ⟨hall, hf⟩⟩, bA1, bB1⟩, hB1⟩
  case done =>
    rintro D ys W hD rfl ⟨⟨⟨bK1, hall⟩, bA1, bB1⟩, hB1⟩ hK
    have c2 := bK1.cell
    have g2 := bK1.frozen
    have hfa := fit_yes hall
    have bK2 := bK1.set (.bool true)
    have hK2 := (KeepsOthers.setCell W ⟨w.heap.size, 0, none⟩ (.bool true)).same D _ hK rfl
    have hB2 := hB1.setCell (p := ⟨w.heap.size, 0, none⟩) (Nat.le_refl _) (.bool true)
    gi_wp2
    generalize W.setCell ⟨w.heap.size, 0, none⟩ (.bool true) = W2 at bK2 hK2 hB2 ⊢
    refine ⟨by simp, .inl ⟨_, _, rfl, run_takeDeferred hK2, ?_⟩⟩
    have k2 := cell_kept bK2.cell (grownBy_putObj' _ D (.deferred none)) (fun r e => by cases e; exact ⟨_, hK2, rfl⟩)
    refine ⟨.bool true, ?_, by rw [hfa], hB2.trans (belowK_b (w := w) (Nat.le_refl _) _ D _ _ (by omega) hK2 rfl rfl)⟩
    refine results_cell1 rfl _ _ _ (a := ⟨w.heap.size, 0, none⟩) (by rfl) ?_
    go_simp
  case stop =>
    rintro D c pre W hD hp ⟨⟨bK1, hB1⟩, rfl, hno⟩ hK
    have hfa := fit_no hp hno
    gi_wp2
    refine ⟨by simp, .inl ⟨_, _, rfl, run_takeDeferred hK, ?_⟩⟩
    have k2 := cell_kept bK1.cell (grownBy_putObj' _ D (.deferred none)) (fun r e => by cases e; exact ⟨_, hK, rfl⟩)
    refine ⟨.bool false, ?_, by rw [hfa], hB1.trans (belowK_b (w := w) (Nat.le_refl _) _ D _ _ (by omega) hK rfl rfl)⟩
    refine results_cell1 rfl _ _ _ (a := ⟨w.heap.size, 0, none⟩) (by rfl) ?_
    go_simp
end Go.Proofs.YtjohiehlnbgdaaaDoor
