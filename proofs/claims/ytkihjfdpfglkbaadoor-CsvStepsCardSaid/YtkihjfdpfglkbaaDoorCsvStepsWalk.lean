/- The walk of the law CsvSteps. -/
import Derived.Test.YtkihjfdpfglkbaaDoorCsvAwake
import Derived.Test.YtkihjfdpfglkbaaDoorCsvSame
import Derived.Test.YtkihjfdpfglkbaaDoorCsvRefAll
namespace Go.Proofs.YtkihjfdpfglkbaaDoor.csvSteps
open Go.RowKit
set_option linter.unusedVariables false

/-- What stands behind a row, by how many bytes that took. -/
theorem behind {l r : List UInt8} {n kk : Nat} (h : r = (l.drop n).drop kk) : r = l.drop (n + ((l.drop n).length - r.length)) := by
  have h3 : r.length = (l.drop n).length - kk := by rw [h, List.length_drop]
  by_cases hk : kk ≤ (l.drop n).length
  · have : (l.drop n).length - r.length = kk := by omega
    rw [this, ← List.drop_drop]; exact h
  · have : (l.drop n).length - r.length = (l.drop n).length := by omega
    rw [this, ← List.drop_drop, List.drop_length]
    exact List.length_eq_zero_iff.1 (by omega)

set_option maxHeartbeats 8000000 in
set_option maxRecDepth 100000 in
theorem walk (s : ByteArray) (w : World) (hm : MaxC w) (het : ErrT w) :
    Calls Tryd.prog 4 #[.string s] w fun e w' => e = .returned (.bool true) ∧ Below w.heap.size w w' := by
  have HM := Lib.hid hm
  have HT := Lib.hid het
  have HAw := Lib.hid (fun w1 h1 h2 => csAwake_calls w1 h1 h2)
  clear hm het
  by_cases hs : 20000 < s.size
  case pos =>
    have t1 : decide ((20000 : Int) < (s.size : Int)) = true := decide_eq_true (by omega)
    have H1 := Lib.hid (HAw.out w HM.out HT.out)
    go_enter Tryd.func4, Tryd.ntmps4
    go_wp2_with fail
    refine H1.out.mono ?_
    rintro e w1 ⟨rfl, k1⟩
    have HB := Lib.hid k1
    clear k1
    go_wp2_with fail
    go_ret
    exact ⟨by rfl, HB.out⟩
  case neg =>
    have t1 : decide ((20000 : Int) < (s.size : Int)) = false := decide_eq_false (by omega)
    have hs2 : s.size ≤ 20000 := by omega
    obtain ⟨l, hl⟩ : ∃ l, l = s.data.toList := ⟨_, rfl⟩
    have HL := Lib.hid hl
    have HLs : Hid (l.length = s.size) := Lib.hid (by rw [hl, cs_size])
    have HFi := Lib.hid (fun t w1 (h : t.size ≤ 4000000) => first_calls t w1 h)
    have H1 := Lib.hid (new_calls s w)
    have q1 : ∀ w1, (Op.equalIn 10000 26 (.agg #[.int .i64 0, .int .i64 0, .int .i64 0]) (.agg #[.int .i64 0, .int .i64 0, .int .i64 0])).run Tryd.prog w1 = .ok true w1 := fun w1 => failEq 0 0 0 0 0 0 w1
    have q2 := failGuard
    have HRow := Lib.hid (fun R P k e line col x w1 (h : RdAt w1 R P k x e line col) => row_calls R P k e line col x w1 h)
    have HRest := Lib.hid (fun R P k e line col x w1 (h : RdAt w1 R P k x e line col) => rest_calls R P k e line col x w1 h)
    have HFail : Hid (∀ (R P k e line col : Nat) (x : ByteArray) w1 (h : RdAt w1 R P k x e line col), Calls Tryd.prog 15 #[.pointer (some ⟨R, 0, none⟩)] w1 fun ev w' => ev = .returned (.agg #[.int .i64 (e : Nat), .int .i64 (line : Nat), .int .i64 (col : Nat)]) ∧ Below w1.heap.size w1 w') := Lib.hid (fun R P k e line col x w1 h => fail_calls R P k e line col x w1 h)
    clear hs hl
    go_enter Tryd.func4, Tryd.ntmps4
    go_wp2_with fail
    refine H1.out.mono ?_
    rintro e w1 ⟨rfl, h1, k1⟩
    obtain ⟨R, hR⟩ : ∃ R, R = w.heap.size + 1 := ⟨_, rfl⟩
    obtain ⟨P, hP⟩ : ∃ P, P = w.heap.size := ⟨_, rfl⟩
    rw [← hR] at h1 ⊢
    have HR1 : Hid (RdAt w1 R P 0 s 0 0 0) := Lib.hid (by rw [hP]; exact h1)
    have HB1 := Lib.hid k1
    have hR0 : w.heap.size ≤ R := by omega
    have hP0 : w.heap.size ≤ P := by omega
    clear h1 k1 hR hP H1
    go_wp2_with fail
    go_loopw [4, 5] (fun i j wr => ∃ (n k : Nat) (x : ByteArray), n ≤ s.size ∧ k ≤ n ∧ i = .int .i64 n ∧ j = .int .i64 k ∧ Hid (x.data.toList = l.drop n) ∧ Hid (RdAt wr R P k x 0 0 0) ∧ Hid (Below w.heap.size w wr)) (fun i _ _ => s.size - (intOf i).toNat)
    case atStart => exact ⟨0, 0, s, Nat.zero_le _, Nat.le_refl _, rfl, rfl, Lib.hid (by rw [HL.out]; rfl), HR1, HB1⟩
    case round =>
      clear HR1 HB1
      obtain ⟨n, k, x, hn, hkn, rfl, rfl, HX, HR, HB⟩ := hrel
      have hxs : x.size = s.size - n := by rw [cs_size, HX.out, List.length_drop, HLs.out]
      by_cases hlt : n < s.size
      case neg =>
        have hx0 : x.size = 0 := by omega
        have H2 := Lib.hid (nextStop_calls R P k 0 0 0 x wr HR.out (.inr hx0))
        have H3 : Hid (Calls Tryd.prog 14 #[.pointer (some ⟨P, 0, none⟩)] wr fun ev w' => ev = .returned (.int .i64 0) ∧ wr = w') := Lib.hid (by have := HRest.out R P k 0 0 0 x wr HR.out; rw [hx0] at this; exact this)
        have H4 := Lib.hid (HRow.out R P k 0 0 0 x wr HR.out)
        have H5 : Hid (Calls Tryd.prog 15 #[.pointer (some ⟨R, 0, none⟩)] wr fun ev w' => ev = .returned (.agg #[.int .i64 0, .int .i64 0, .int .i64 0]) ∧ Below wr.heap.size wr w') := Lib.hid (HFail.out R P k 0 0 0 x wr HR.out)
        obtain ⟨c0, c1, c2, c3, p0, p1⟩ := HR.out.cells
        clear hxs hx0
        go_wp2_with fail
        refine H2.out.mono ?_
        rintro e w2 ⟨rfl, hw2⟩
        subst hw2
        go_wp2_with fail
        refine H4.out.mono ?_
        rintro e w2 ⟨rfl, hw2⟩
        subst hw2
        go_wp2_with fail
        refine H3.out.mono ?_
        rintro e w2 ⟨rfl, hw2⟩
        subst hw2
        go_wp2_with fail
        refine H5.out.mono ?_
        rintro e w2 ⟨rfl, k2⟩
        have HB2 := Lib.hid (HB.out.trans (k2.mono HB.out.size))
        have H6 := Lib.hid (HAw.out w2 (HM.out.below HB2.out) (HT.out.below HB2.out))
        clear k2
        go_wp2_with fail
        refine H6.out.mono ?_
        rintro e w3 ⟨rfl, k3⟩
        have HB3 := Lib.hid (HB2.out.trans (k3.mono HB2.out.size))
        clear k3
        go_wp2_with fail
        go_ret
        exact ⟨by rfl, HB3.out⟩
      case pos =>
        have hx1 : 0 < x.size := by omega
        have hx2 : x.size ≤ 4000000 := by omega
        have hxi : (x.size : Int) = (s.size : Int) - (n : Int) := by omega
        have hexs : (s.extract n s.size).size ≤ 4000000 := by rw [cs_size, cs_drop, List.length_drop, ← cs_size]; omega
        have H1 := Lib.hid (HFi.out (s.extract n s.size) wr hexs)
        rw [cs_drop, ← HL.out] at H1
        have HRest2 : Hid (∀ w1, RdAt w1 R P k x 0 0 0 → Calls Tryd.prog 14 #[.pointer (some ⟨P, 0, none⟩)] w1 fun ev w' => ev = .returned (.int .i64 ((s.size : Int) - (n : Int))) ∧ w1 = w') := Lib.hid (fun w1 h => by have := HRest.out R P k 0 0 0 x w1 h; rw [hxi] at this; exact this)
        clear hexs
        cases hrow : rowR (l.drop n) with
        | error y =>
          obtain ⟨er, c⟩ := y
          have HEr := Lib.hid (rowR_errs hrow)
          have H1' : Hid (Calls Tryd.prog 12 #[.string (s.extract n s.size)] wr fun e w' => e = .returned (.agg #[.slice none 0 0, .int .i64 (er : Nat), .int .i64 (c : Nat), .int .i64 0]) ∧ Below wr.heap.size wr w') := Lib.hid (H1.out.mono (by
            rintro e w' (⟨er', c', h1, h2, h3⟩ | ⟨_, _, _, _, h1, _⟩)
            · rw [hrow] at h1
              simp only [Except.error.injEq, Prod.mk.injEq] at h1
              obtain ⟨rfl, rfl⟩ := h1
              exact ⟨h2, h3⟩
            · rw [hrow] at h1; cases h1))
          have HNx := Lib.hid (fun w1 (h : RdAt w1 R P k x 0 0 0) hm1 het1 => nextErr_calls R P k 0 0 x er c w1 h (by omega) hx1 hx2 hm1 het1 (by rw [HX.out]; exact hrow))
          have ter : ((er : Int) != 0) = true := by
            have := HEr.out.1
            simp; omega
          clear H1 hrow hxs hxi hx1 hx2
          go_wp2_with fail
          refine H1'.out.mono ?_
          rintro e w2 ⟨rfl, k2⟩
          have hA := (Below.refl w2.heap.size w2).alloc (Nat.le_refl _) (.cells #[.slice none 0 0, .int .i64 (er : Nat), .int .i64 (c : Nat), .int .i64 0] 37)
          have hblk := heap_alloc_new w2 (.cells #[.slice none 0 0, .int .i64 (er : Nat), .int .i64 (c : Nat), .int .i64 0] 37)
          have HB3 := Lib.hid ((HB.out.trans (k2.mono HB.out.size)).trans (hA.mono (Nat.le_trans HB.out.size k2.size)))
          have h3 := (HR.out.below k2).below hA
          have HR3 := Lib.hid h3
          have hb0 : w.heap.size ≤ w2.heap.size := Nat.le_trans HB.out.size k2.size
          have hbR : R < w2.heap.size := Nat.lt_of_lt_of_le HR.out.blkR.lt k2.size
          have HbR := Lib.hid hbR
          have HBl := Lib.hid hblk
          obtain ⟨c0, c1, c2, c3, p0, p1⟩ := h3.cells
          clear h3 hblk hA k2 H1' hb0 hbR
          go_wp2_with fail
          obtain ⟨b, hb⟩ : ∃ b, b = w2.heap.size := ⟨_, rfl⟩
          obtain ⟨W, hW⟩ : ∃ W, w2.alloc (.cells #[.slice none 0 0, .int .i64 (er : Nat), .int .i64 (c : Nat), .int .i64 0] 37) = W := ⟨_, rfl⟩
          rw [hW] at HBl HB3 HR3 c0 c1 c2 c3 p0 p1 ⊢
          rw [← hb] at HBl HbR ⊢
          have HK := HBl
          clear hb hW
          refine (HRow.out R P k 0 0 0 x W HR3.out).mono ?_
          rintro e w3 ⟨rfl, hw3⟩
          subst hw3
          go_wp2_with fail
          refine (HRest2.out W HR3.out).mono ?_
          rintro e w3 ⟨rfl, hw3⟩
          subst hw3
          have HF3 : Hid (Calls Tryd.prog 15 #[.pointer (some ⟨R, 0, none⟩)] W fun ev w' => ev = .returned (.agg #[.int .i64 0, .int .i64 0, .int .i64 0]) ∧ Below W.heap.size W w') := Lib.hid (HFail.out R P k 0 0 0 x W HR3.out)
          go_wp2_with fail
          refine HF3.out.mono ?_
          rintro e w4 ⟨rfl, k4⟩
          have HR4 := Lib.hid (HR3.out.below k4)
          have HK4 := Lib.hid ((k4.block b (Array.getElem?_eq_some_iff.1 HK.out).1).trans HK.out)
          have HB4 := Lib.hid (HB3.out.trans (k4.mono HB3.out.size))
          clear k4 HF3 c0 c1 c2 c3 p0 p1 HK HR3 HB3
          have H2 := Lib.hid (HNx.out w4 HR4.out (HM.out.below HB4.out) (HT.out.below HB4.out))
          go_wp2_with fail
          refine H2.out.mono ?_
          rintro e w5 ⟨rfl, hr5, w4', k5, g5⟩
          have HR5 := Lib.hid hr5
          have hK5 := (g5.block b (Nat.lt_of_lt_of_le (Array.getElem?_eq_some_iff.1 HK4.out).1 k5.size) (by have := HbR.out; simp; omega)).trans ((k5.block b (Array.getElem?_eq_some_iff.1 HK4.out).1).trans HK4.out)
          have HK5 := Lib.hid hK5
          have HB5 := Lib.hid ((HB4.out.trans (k5.mono HB4.out.size)).grown g5 (Nat.le_trans HB4.out.size k5.size) (fun j hj => by cases hj; exact hR0))
          have e1 : w5.cell? ⟨b, 1, none⟩ = some (.int .i64 (er : Nat)) := by rw [cell_of_row w5 b 1 _ _ _ hK5]; rfl
          have H3 := Lib.hid (nextStop_calls R P k er (k + 1) c x w5 hr5 (.inl (by have := HEr.out.1; omega)))
          have H4 := Lib.hid (HFail.out R P k er (k + 1) c x w5 hr5)
          clear k5 g5 hr5 hK5 H2 HR4 HK4 HB4
          go_wp2_with fail
          refine H3.out.mono ?_
          rintro e w6 ⟨rfl, hw6⟩
          subst hw6
          go_wp2_with fail
          refine H4.out.mono ?_
          rintro e w6 ⟨rfl, k6⟩
          have hA6 := (Below.refl w6.heap.size w6).alloc (Nat.le_refl _) (.cells #[.int .i64 (er : Nat), .int .i64 ((k + 1 : Nat) : Int), .int .i64 (c : Nat)] 26)
          have h7 := (HR5.out.below k6).below hA6
          have HR7 := Lib.hid h7
          have hK6 := (k6.block b (Array.getElem?_eq_some_iff.1 HK5.out).1).trans HK5.out
          have hK7 := (hA6.block b (Array.getElem?_eq_some_iff.1 hK6).1).trans hK6
          have HB7 := Lib.hid ((HB5.out.trans (k6.mono HB5.out.size)).trans (hA6.mono (Nat.le_trans HB5.out.size k6.size)))
          have hcast : (.cells #[.int .i64 (er : Nat), .int .i64 ((k + 1 : Nat) : Int), .int .i64 (c : Nat)] 26 : Obj) = .cells #[.int .i64 (er : Nat), .int .i64 ((k : Int) + 1), .int .i64 (c : Nat)] 26 := by push_cast; rfl
          rw [hcast] at h7 HR7 hK7 HB7
          obtain ⟨c0, c1, c2, c3, p0, p1⟩ := h7.cells
          have x1 := cell_of_row _ b 1 _ _ _ hK7
          have x2 := cell_of_row _ b 2 _ _ _ hK7
          simp at x1 x2
          clear h7 hA6 k6 hK6 hK7 hcast e1 H3 H4
          go_wp2_with fail
          refine (HRow.out R P k er (k + 1) c x _ HR7.out).mono ?_
          rintro e w8 ⟨rfl, hw8⟩
          subst hw8
          have H9 := Lib.hid (HAw.out _ (HM.out.below HB7.out) (HT.out.below HB7.out))
          go_wp2_with fail
          refine H9.out.mono ?_
          rintro e w9 ⟨rfl, k9⟩
          have HB9 := Lib.hid (HB7.out.trans (k9.mono HB7.out.size))
          clear k9
          go_wp2_with fail
          go_ret
          exact ⟨by rfl, HB9.out⟩
        | ok y =>
          obtain ⟨fs, r⟩ := y
          have hxn : l.drop n ≠ [] := fun e => by
            have := List.drop_eq_nil_iff.1 e
            rw [HLs.out] at this
            omega
          have hfa := rowR_facts hrow
          have hrl := hfa.1 hxn
          obtain ⟨kk, hkk⟩ := hfa.2.2.2.2
          have hbe := behind hkk
          have hdl : (l.drop n).length = s.size - n := by rw [List.length_drop, HLs.out]
          obtain ⟨sz, hsz⟩ : ∃ sz, sz = (l.drop n).length - r.length := ⟨_, rfl⟩
          have hsz1 : 1 ≤ sz := by omega
          have hsz2 : n + sz ≤ s.size := by omega
          rw [← hsz] at hbe
          have HBe : Hid ((⟨r.toArray⟩ : ByteArray).data.toList = l.drop (n + sz)) := Lib.hid hbe
          have H1' : Hid (Calls Tryd.prog 12 #[.string (s.extract n s.size)] wr fun e w' => ∃ a cap, e = .returned (.agg #[.slice a fs.length cap, .int .i64 0, .int .i64 0, .int .i64 (sz : Nat)]) ∧ TIn w' a fs.length fs ∧ TObj w' a ∧ Below wr.heap.size wr w') := Lib.hid (H1.out.mono (by
            rintro e w' (⟨er', c', h1, _⟩ | ⟨fs', r', a, cap, h1, h2, h3⟩)
            · rw [hrow] at h1; cases h1
            · rw [hrow] at h1
              simp only [Except.ok.injEq, Prod.mk.injEq] at h1
              obtain ⟨rfl, rfl⟩ := h1
              rw [hsz]
              exact ⟨a, cap, h2, h3⟩))
          have HNx := Lib.hid (fun w1 (h : RdAt w1 R P k x 0 0 0) hm1 => nextOk_calls R P k 0 0 x fs r w1 h (by omega) hx1 hx2 hm1 (by rw [HX.out]; exact hrow))
          clear H1 hrow hxs hxi hx1 hx2 hxn hfa hrl hkk hbe hdl hsz
          go_wp2_with fail
          refine H1'.out.mono ?_
          rintro e w2 ⟨a2, ca2, rfl, hT2, hO2, k2⟩
          have hA := (Below.refl w2.heap.size w2).alloc (Nat.le_refl _) (.cells #[.slice a2 fs.length ca2, .int .i64 0, .int .i64 0, .int .i64 (sz : Nat)] 37)
          have hblk := heap_alloc_new w2 (.cells #[.slice a2 fs.length ca2, .int .i64 0, .int .i64 0, .int .i64 (sz : Nat)] 37)
          have HB3 := Lib.hid ((HB.out.trans (k2.mono HB.out.size)).trans (hA.mono (Nat.le_trans HB.out.size k2.size)))
          have h3 := (HR.out.below k2).below hA
          have HR3 := Lib.hid h3
          have HT2 := Lib.hid (hT2.below hA)
          have HO2 := Lib.hid (hO2.below hA)
          have hbP : P < w2.heap.size := Nat.lt_of_lt_of_le HR.out.blkP.lt k2.size
          have HbP := Lib.hid hbP
          have HBl := Lib.hid hblk
          obtain ⟨c0, c1, c2, c3, p0, p1⟩ := h3.cells
          clear h3 hblk hA k2 H1' hT2 hO2 hbP
          go_wp2_with fail
          obtain ⟨b, hb⟩ : ∃ b, b = w2.heap.size := ⟨_, rfl⟩
          obtain ⟨W, hW⟩ : ∃ W, w2.alloc (.cells #[.slice a2 fs.length ca2, .int .i64 0, .int .i64 0, .int .i64 (sz : Nat)] 37) = W := ⟨_, rfl⟩
          rw [hW] at HBl HB3 HR3 HT2 HO2 c0 c1 c2 c3 p0 p1 ⊢
          rw [← hb] at HBl HbP ⊢
          clear hb hW
          refine (HRow.out R P k 0 0 0 x W HR3.out).mono ?_
          rintro e w3 ⟨rfl, hw3⟩
          subst hw3
          go_wp2_with fail
          refine (HRest2.out W HR3.out).mono ?_
          rintro e w3 ⟨rfl, hw3⟩
          subst hw3
          have HF3 : Hid (Calls Tryd.prog 15 #[.pointer (some ⟨R, 0, none⟩)] W fun ev w' => ev = .returned (.agg #[.int .i64 0, .int .i64 0, .int .i64 0]) ∧ Below W.heap.size W w') := Lib.hid (HFail.out R P k 0 0 0 x W HR3.out)
          go_wp2_with fail
          refine HF3.out.mono ?_
          rintro e w4 ⟨rfl, k4⟩
          have HR4 := Lib.hid (HR3.out.below k4)
          have HK4 := Lib.hid ((k4.block b (Array.getElem?_eq_some_iff.1 HBl.out).1).trans HBl.out)
          have HT4 := Lib.hid (HT2.out.below k4)
          have HO4 := Lib.hid (HO2.out.below k4)
          have HB4 := Lib.hid (HB3.out.trans (k4.mono HB3.out.size))
          clear k4 HF3 c0 c1 c2 c3 p0 p1 HBl HR3 HB3 HT2 HO2
          have H2 := Lib.hid (HNx.out w4 HR4.out (HM.out.below HB4.out))
          go_wp2_with fail
          refine H2.out.mono ?_
          rintro e w5 ⟨a, ca, rfl, hT5, hO5, hr5, w4', k5, g5⟩
          have HR5 := Lib.hid hr5
          have hbkP : CBlk w4' P 51 := (HR4.out.below k5).blkP
          have hK5 := (g5.block b (Nat.lt_of_lt_of_le (Array.getElem?_eq_some_iff.1 HK4.out).1 k5.size) (by have := HbP.out; simp; omega)).trans ((k5.block b (Array.getElem?_eq_some_iff.1 HK4.out).1).trans HK4.out)
          have HK5 := Lib.hid hK5
          have hT45 := (HT4.out.below k5).grown g5 ((HO4.out.below k5).ne hbkP (by decide))
          have HB5 := Lib.hid ((HB4.out.trans (k5.mono HB4.out.size)).grown g5 (Nat.le_trans HB4.out.size k5.size) (fun j hj => by cases hj; exact hP0))
          have e0 : w5.cell? ⟨b, 0, none⟩ = some (.slice a2 fs.length ca2) := by rw [cell_of_row w5 b 0 _ _ _ hK5]; rfl
          have e1 : w5.cell? ⟨b, 1, none⟩ = some (.int .i64 0) := by rw [cell_of_row w5 b 1 _ _ _ hK5]; rfl
          have H3 := Lib.hid (same_calls a a2 fs.length ca fs.length ca2 fs fs w5 hT5 hT45)
          rw [decide_eq_true (rfl : fs = fs)] at H3
          clear k5 g5 hr5 hK5 H2 HR4 HK4 HB4 hT5 hO5 hT45 HT4 HO4 hbkP
          go_wp2_with fail
          refine H3.out.mono ?_
          rintro e w6 ⟨rfl, k6⟩
          have HR6 := Lib.hid (HR5.out.below k6)
          have hK6 := (k6.block b (Array.getElem?_eq_some_iff.1 HK5.out).1).trans HK5.out
          have e3 : w6.cell? ⟨b, 3, none⟩ = some (.int .i64 (sz : Nat)) := by rw [cell_of_row w6 b 3 _ _ _ hK6]; rfl
          have HB6 := Lib.hid (HB5.out.trans (k6.mono HB5.out.size))
          clear k6 hK6 HK5 e0 e1 HR5 HB5 H3
          go_wp2_with fail
          go_roundw
          case rel => exact ⟨n + sz, k + 1, ⟨r.toArray⟩, hsz2, by omega, by go_num, by go_num, HBe, HR6, HB6⟩
          case measure => simp [intOf]; omega
end Go.Proofs.YtkihjfdpfglkbaaDoor.csvSteps
