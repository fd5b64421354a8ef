/- What the reference's All does with any text. -/
import Derived.Test.YtkihjfdpfglkbaaDoorCsvFirst
import Derived.Test.YtkihjfdpfglkbaaDoorCsvAll
namespace Go.Proofs.YtkihjfdpfglkbaaDoor
open Go.RowKit
set_option linter.unusedVariables false

theorem cs_result4 {fn : Func} {t u v x : Tmp} (h : fn.results = #[.tmp t, .tmp u, .tmp v, .tmp x]) (tmps : Array Value) (P : Program) (w : World) :
    (results fn tmps).run P w = .ok (.tuple #[tmps.getD t undef, tmps.getD u undef, tmps.getD v undef, tmps.getD x undef]) w := by
  simp [results, h, Sem.run_bind, Result.andThen]
theorem cs_row_kept {W w3 : World} {b B k n : Nat} {t u : TypeId} {cs : Array Value} {v : Value} {xs : List Value} {o : Obj} (hb : W.heap[b]? = some (.cells cs t (0, 0))) (ho : W.ownsRow B u k v n xs) (hne : t ≠ u) (hg : (W.alloc o).grownBy w3 v.ownBlock) : w3.heap[b]? = some (.cells cs t (0, 0)) := by
  have hl : b < W.heap.size := (Array.getElem?_eq_some_iff.1 hb).1
  have h1 : (W.alloc o).heap[b]? = some (.cells cs t (0, 0)) := (heap_alloc_old W o hl).trans hb
  have h2 : CBlk (W.alloc o) b t := ⟨_, _, h1⟩
  exact (hg.block b h2.lt (h2.far (ho.alloc o) hne)).trans h1
theorem cs_new2 (w : World) (o : Obj) (v : Value) (t : TypeId) : ∀ j u, [v][j]? = some u → ((w.alloc o).alloc (.cells #[v] t)).cell? ((⟨w.heap.size + 1, 0, none⟩ : Addr).add j) = some u := by
  have h := cs_new (w.alloc o) v t
  rw [World.size_alloc] at h
  exact h
/-- All rows of a text, and what is first wrong, as the reference's answer. -/
def RefAllPost (l : List UInt8) (w : World) (e : Ending) (w' : World) : Prop :=
  ∃ a cap vs, e = .returned (.tuple #[.slice a (allR l).1.length cap, .int .i64 ((allR l).2.2.1 : Nat), .int .i64 ((allR l).2.2.2 : Nat), .int .i64 ((allR l).2.1 : Nat)]) ∧ RIn w' a (allR l).1.length (allR l).1 vs ∧ Below w.heap.size w w'

set_option maxHeartbeats 4000000 in
set_option maxRecDepth 100000 in
theorem refAll_calls (s : ByteArray) (w : World) (hs : s.size ≤ 4000000) :
    Calls Tryd.prog 9 #[.string s] w (RefAllPost s.data.toList w) := by
  obtain ⟨l, hl⟩ : ∃ l, l = s.data.toList := ⟨_, rfl⟩
  rw [← hl]
  have HL := Lib.hid hl
  have HLs : Hid (l.length = s.size) := Lib.hid (by rw [hl, cs_size])
  have HFi := Lib.hid (fun t w1 (h : t.size ≤ 4000000) => first_calls t w1 h)
  obtain ⟨i0, hi, hz0, hz1, hz2⟩ := cs_parts cs_infoT
  have HI := Lib.hid hi
  have HZ0 := Lib.hid hz0
  have HZ1 := Lib.hid hz1
  have HZ2 := Lib.hid hz2
  clear hl hi hz0 hz1 hz2
  go_enter Tryd.func9, Tryd.ntmps9
  go_wp2_with fail
  go_loopw [6, 7] (fun o i wr => ∃ (n : Nat) (L : List (List (List UInt8))) (us : List Value), n ≤ s.size ∧ L.length ≤ n ∧ i = .int .i64 n ∧ Hid (allX l L (l.drop n)) ∧ Hid (wr.ownsRow w.heap.size 32 1 o L.length us) ∧ Hid (Rs wr us L) ∧ Hid (Below w.heap.size w wr)) (fun _ i _ => s.size - (intOf i).toNat)
  case atStart => exact ⟨0, [], [], Nat.zero_le _, Nat.le_refl _, rfl, Lib.hid (allX_refl _), Lib.hid (World.ownsRow_nil _ _ _ _), Lib.hid (Rs.nil _), Lib.hid (Below.refl _ _)⟩
  case round =>
    obtain ⟨n, L, us, hn, hLn, rfl, HX, HO, HS, HB⟩ := hrel
    obtain ⟨oa, oc, rfl⟩ := cs_own HO.out
    by_cases hlt : n < s.size
    case neg =>
      have HE : Hid (allR l = (L, 0, 0, 0)) := Lib.hid (allX_end (by
        have := HX.out
        rw [List.drop_eq_nil_iff.2 (by rw [HLs.out]; omega)] at this
        exact this))
      obtain ⟨a, cap, e2, h3⟩ := own_rin HO.out HS.out
      cases e2
      have HRI := Lib.hid h3
      clear h3 HX HO
      go_wp2_with fail
      (try simp only [Exit.inBlock, Exit.then]); refine bodyPost_ret (cs_result4 rfl _ _ _) rfl ?_
      rw [RefAllPost, HE.out]
      exact ⟨oa, oc, us, rfl, HRI.out, HB.out⟩
    case pos =>
      have hxn : l.drop n ≠ [] := fun e => by
        have := List.drop_eq_nil_iff.1 e
        rw [HLs.out] at this
        omega
      have hexs : (s.extract n s.size).size ≤ 4000000 := by rw [cs_size, cs_drop, List.length_drop, ← cs_size]; omega
      have H1 := Lib.hid (HFi.out (s.extract n s.size) wr hexs)
      rw [cs_drop, ← HL.out] at H1
      have hdl : (l.drop n).length = s.size - n := by rw [List.length_drop, HLs.out]
      clear hexs
      cases hrow : rowR (l.drop n) with
      | error y =>
        obtain ⟨er, c⟩ := y
        have HE : Hid (allR l = (L, er, L.length + 1, c)) := Lib.hid (allX_err HX.out hxn hrow)
        have HEr := Lib.hid (rowR_errs hrow)
        have H1' : Hid (Calls Tryd.prog 12 #[.string (s.extract n s.size)] wr fun e w' => e = .returned (.agg #[.slice none 0 0, .int .i64 (er : Nat), .int .i64 (c : Nat), .int .i64 0]) ∧ Below wr.heap.size wr w') := Lib.hid (H1.out.mono (by
          rintro e w' (⟨er', c', h1, h2, h3⟩ | ⟨_, _, _, _, h1, _⟩)
          · rw [hrow] at h1
            simp only [Except.error.injEq, Prod.mk.injEq] at h1
            obtain ⟨rfl, rfl⟩ := h1
            exact ⟨h2, h3⟩
          · rw [hrow] at h1; cases h1))
        have t1 : ((er : Int) != 0) = true := by
          have := HEr.out.1
          simp; omega
        clear H1 HX hrow hxn hdl
        go_wp2_with fail
        refine H1'.out.mono ?_
        rintro e w2 ⟨rfl, k2⟩
        have HB2 := Lib.hid (HB.out.trans (k2.mono HB.out.size))
        have HO2 := Lib.hid (cs_ownBelow HO.out k2)
        have HS2 := Lib.hid (HS.out.below k2)
        clear k2 H1' HB HO HS
        go_wp2_with fail
        obtain ⟨b, hb⟩ : ∃ b, b = w2.heap.size := ⟨_, rfl⟩
        have hA := (Below.refl w2.heap.size w2).alloc (Nat.le_refl _) (.cells #[.slice none 0 0, .int .i64 (er : Nat), .int .i64 (c : Nat), .int .i64 0] 37)
        have hblk := heap_alloc_new w2 (.cells #[.slice none 0 0, .int .i64 (er : Nat), .int .i64 (c : Nat), .int .i64 0] 37)
        have HB3 := Lib.hid (HB2.out.trans (hA.mono HB2.out.size))
        have HO3 := Lib.hid (cs_ownBelow HO2.out hA)
        have HS3 := Lib.hid (HS2.out.below hA)
        rw [← hb] at hblk ⊢
        obtain ⟨W, hW⟩ : ∃ W, w2.alloc (.cells #[.slice none 0 0, .int .i64 (er : Nat), .int .i64 (c : Nat), .int .i64 0] 37) = W := ⟨_, rfl⟩
        rw [hW] at hblk HB3 HO3 HS3 ⊢
        have c1 : W.cell? ⟨b, 1, none⟩ = some (.int .i64 (er : Nat)) := by rw [cell_of_row W b 1 _ _ _ hblk]; rfl
        have c2 : W.cell? ⟨b, 2, none⟩ = some (.int .i64 (c : Nat)) := by rw [cell_of_row W b 2 _ _ _ hblk]; rfl
        obtain ⟨a, cap, e2, h3⟩ := own_rin HO3.out HS3.out
        cases e2
        have HRI := Lib.hid h3
        have hwl : IntKind.i64.wrap ((L.length : Int) + 1) = (L.length : Int) + 1 := by rw [IntKind.wrap_i64]; omega
        clear h3 hA hb hW hblk HB2 HO2 HS2 HO3 HS3
        go_region
        all_goals (go_wp2_with fail)
        all_goals ((try simp only [Exit.inBlock, Exit.then]); refine bodyPost_ret (cs_result4 rfl _ _ _) rfl ?_)
        all_goals rw [RefAllPost, HE.out]
        all_goals exact ⟨oa, oc, us, by go_num, HRI.out.below ((Below.refl _ _).drew), HB3.out.drew⟩
      | ok y =>
        obtain ⟨fs, r⟩ := y
        have hfa := rowR_facts hrow
        have hrl := hfa.1 hxn
        obtain ⟨kk, hkk⟩ := hfa.2.2.2.2
        have HX2 : Hid (allX l (L ++ [fs]) (l.drop (n + ((l.drop n).length - r.length)))) := Lib.hid (by
          have h1 := allX_more HX.out hxn hrow
          have h2 : r = l.drop (n + ((l.drop n).length - r.length)) := by
            have h3 : r.length = (l.drop n).length - kk := by rw [hkk, List.length_drop]
            by_cases hk : kk ≤ (l.drop n).length
            · have : (l.drop n).length - r.length = kk := by omega
              rw [this, ← List.drop_drop]; exact hkk
            · have : (l.drop n).length - r.length = (l.drop n).length := by omega
              rw [this, ← List.drop_drop, List.drop_length]
              exact List.length_eq_zero_iff.1 (by omega)
          rw [← h2]; exact h1)
        obtain ⟨sz, hsz⟩ : ∃ sz, sz = (l.drop n).length - r.length := ⟨_, rfl⟩
        have hsz1 : 1 ≤ sz := by omega
        have hsz2 : n + sz ≤ s.size := by omega
        have H1' : Hid (Calls Tryd.prog 12 #[.string (s.extract n s.size)] wr fun e w' => ∃ a cap, e = .returned (.agg #[.slice a fs.length cap, .int .i64 0, .int .i64 0, .int .i64 (sz : Nat)]) ∧ TIn w' a fs.length fs ∧ TObj w' a ∧ Below wr.heap.size wr w') := Lib.hid (H1.out.mono (by
          rintro e w' (⟨er', c', h1, _⟩ | ⟨fs', r', a, cap, h1, h2, h3⟩)
          · rw [hrow] at h1; cases h1
          · rw [hrow] at h1
            simp only [Except.ok.injEq, Prod.mk.injEq] at h1
            obtain ⟨rfl, rfl⟩ := h1
            rw [hsz]
            exact ⟨a, cap, h2, h3⟩))
        rw [← hsz] at HX2
        clear H1 HX hrow hxn hdl hfa hrl hkk hsz
        go_wp2_with fail
        refine H1'.out.mono ?_
        rintro e w2 ⟨a, cap, rfl, hT2, hO2, k2⟩
        have hA := (Below.refl w2.heap.size w2).alloc (Nat.le_refl _) (.cells #[.slice a fs.length cap, .int .i64 0, .int .i64 0, .int .i64 (sz : Nat)] 37)
        have hblk := heap_alloc_new w2 (.cells #[.slice a fs.length cap, .int .i64 0, .int .i64 0, .int .i64 (sz : Nat)] 37)
        have HB2 := Lib.hid ((HB.out.trans (k2.mono HB.out.size)).trans (hA.mono (Nat.le_trans HB.out.size k2.size)))
        have HO2 := Lib.hid (cs_ownBelow (cs_ownBelow HO.out k2) hA)
        have HS2 := Lib.hid (((HS.out.below k2).snoc (c := cap) hT2 hO2).below hA)
        have hN := Nat.le_trans HB.out.size k2.size
        have HN := Lib.hid hN
        clear k2 hT2 hO2 HB HO HS
        go_wp2_with (at_builtin; refine wpList_append_own _ rfl _ _ 23 rfl w.heap.size 32 i0 _ 1 24 Tryd.underlying23 HI.out HZ0.out HZ1.out HZ2.out rfl (by decide) _ _ _ rfl (HO2.out.alloc _) ⟨w2.heap.size + 1, 0, none⟩ 1 1 [.slice a fs.length cap] rfl rfl (cs_new2 w2 _ _ _) (by intro u hu; simp at hu; subst hu; rfl) (by unfold maxLen; omega) (by omega) (by simp; omega) ?_; intro v' w4 ho4 hg4 _; have x3 := cell_of_row w4 w2.heap.size 3 _ _ _ (cs_row_kept hblk HO2.out (by decide) hg4))
        have hRow := HO2.out.alloc (.cells #[.slice a fs.length cap] 32)
        have HB4 := Lib.hid ((HB2.out.alloc (by simp; omega) (.cells #[.slice a fs.length cap] 32)).grown hg4 (by simp; omega) (fun k hk => (HO2.out.lt k hk).1))
        have HO4 : Hid (w4.ownsRow w.heap.size 32 1 v' (L ++ [fs]).length (us ++ [.slice a fs.length cap])) := Lib.hid (by rw [List.length_append]; exact ho4)
        have hb1 := (Below.refl (w2.alloc (.cells #[.slice a fs.length cap, .int .i64 0, .int .i64 0, .int .i64 (sz : Nat)] 37)).heap.size _).alloc (Nat.le_refl _) (.cells #[.slice a fs.length cap] 32)
        have HS4 := Lib.hid ((HS2.out.below hb1).grownRow hRow (by decide) hg4)
        clear ho4 hg4 hRow hb1 HB2 HO2 HS2 hblk hA x3
        go_wp2_with fail
        have HLn : Hid ((L ++ [fs]).length = L.length + 1) := Lib.hid (by simp)
        go_roundw
        case rel => exact ⟨n + sz, L ++ [fs], us ++ [.slice a fs.length cap], hsz2, by rw [HLn.out]; omega, by go_num, HX2, HO4, HS4, HB4⟩
        case measure => simp [intOf]; omega
end Go.Proofs.YtkihjfdpfglkbaaDoor
