/- The walk of the law LexAll. -/
import Derived.Test.YtbojhcfofgdoeaaDoorLexAwake
import Derived.Test.YtbojhcfofgdoeaaDoorLexRefAll
import Derived.BigQuiet
namespace Go.Proofs.YtbojhcfofgdoeaaDoor.lexAll
open Go.RowKit
set_option linter.unusedVariables false

set_option maxHeartbeats 4000000 in
set_option maxRecDepth 100000 in
theorem walk (s : ByteArray) (w : World) (hT : LexT w) (het : ErrT w) :
    Calls Tryd.prog 3 #[.string s] w fun e w' => e = .returned (.bool true) ∧ Below w.heap.size w w' := by
  have HAw := Lib.hid (fun w1 (hb : Below w.heap.size w w1) => lxAwake_calls w1 (hT.below hb) (het.below hb))
  have HK0 := Lib.hid (Below.refl w.heap.size w)
  by_cases hs : 20000 < s.size
  case pos =>
    have t1 : decide ((20000 : Int) < (s.size : Int)) = true := decide_eq_true (by omega)
    have H1 := Lib.hid (HAw.out w HK0.out)
    clear hT het
    go_enter Tryd.func3, Tryd.ntmps3
    go_wp2_with fail
    refine H1.out.mono ?_
    rintro e w1 ⟨rfl, k1⟩
    have HB := Lib.hid k1
    clear k1
    go_wp2_with fail
    go_ret
    exact ⟨by rfl, HB.out⟩
  have t1 : decide ((20000 : Int) < (s.size : Int)) = false := decide_eq_false (by omega)
  have q2 := failGuard
  have q3 := tkGuard
  have HX := lexAll_calls s w (by omega) hT het
  have HY := fun w1 => refLexAll_calls s w1 (by omega)
  clear hT het
  cases hx : tokL s.data.toList with
  | error z =>
    obtain ⟨er, el, ec⟩ := z
    rw [hx] at HX HY
    have HX2 : Hid (Calls Tryd.prog 7 #[.string s] w fun e w' => er ≠ 0 ∧ e = .returned (.tuple #[.slice none 0 0, .agg #[.int .i64 (er : Nat), .int .i64 (el : Nat), .int .i64 (ec : Nat)]]) ∧ Below w.heap.size w w') := Lib.hid (HX.mono (by
      rintro e w' ⟨⟨h0, he⟩, hb⟩
      exact ⟨h0, he, hb⟩))
    have HY2 : Hid (∀ w1, Calls Tryd.prog 8 #[.string s] w1 fun e w' => e = .returned (.tuple #[.slice none 0 0, .int .i64 (er : Nat), .int .i64 (el : Nat), .int .i64 (ec : Nat)]) ∧ Below w1.heap.size w1 w') := Lib.hid (fun w1 => (HY w1).mono (by
      rintro e w' ⟨he, hb⟩
      exact ⟨he, hb⟩))
    have q1 : ∀ w1, (Op.equalIn 10000 26 (.agg #[.int .i64 (er : Nat), .int .i64 (el : Nat), .int .i64 (ec : Nat)]) (.agg #[.int .i64 (er : Nat), .int .i64 (el : Nat), .int .i64 (ec : Nat)])).run Tryd.prog w1 = .ok true w1 := fun w1 => by
      have := failEq er el ec er el ec w1
      rwa [decide_eq_true (⟨rfl, rfl, rfl⟩ : er = er ∧ el = el ∧ ec = ec)] at this
    clear HX HY hx hs q3
    go_enter Tryd.func3, Tryd.ntmps3
    go_wp2_with fail
    refine HX2.out.mono ?_
    rintro e w1 ⟨hne, rfl, k1⟩
    have te : ((er : Int) != 0) = true := by rw [bne_iff_ne]; omega
    obtain ⟨b, hb⟩ : ∃ b, b = w1.heap.size := ⟨_, rfl⟩
    have HK : Hid ((w1.alloc (.cells #[.int .i64 (er : Nat), .int .i64 (el : Nat), .int .i64 (ec : Nat)] 26)).heap[b]? = some (.cells #[.int .i64 (er : Nat), .int .i64 (el : Nat), .int .i64 (ec : Nat)] 26 (0, 0))) := Lib.hid (by rw [hb]; exact heap_alloc_new _ _)
    have HB1 := Lib.hid (k1.alloc k1.size (.cells #[.int .i64 (er : Nat), .int .i64 (el : Nat), .int .i64 (ec : Nat)] 26))
    clear k1 hne HX2
    go_wp2_with fail
    rw [← hb]
    generalize hW : w1.alloc (.cells #[.int .i64 (er : Nat), .int .i64 (el : Nat), .int .i64 (ec : Nat)] 26) = W at HK HB1 ⊢
    clear hW hb
    refine (HY2.out W).mono ?_
    rintro e w2 ⟨rfl, k2⟩
    have HB2 := Lib.hid (HB1.out.trans (k2.mono HB1.out.size))
    have hblk := (k2.block b (Array.getElem?_eq_some_iff.1 HK.out).1).trans HK.out
    have c0 : w2.cell? ⟨b, 0, none⟩ = some (.int .i64 (er : Nat)) := by rw [cell_of_row w2 b 0 _ _ _ hblk]; rfl
    have c1 : w2.cell? ⟨b, 1, none⟩ = some (.int .i64 (el : Nat)) := by rw [cell_of_row w2 b 1 _ _ _ hblk]; rfl
    have c2 : w2.cell? ⟨b, 2, none⟩ = some (.int .i64 (ec : Nat)) := by rw [cell_of_row w2 b 2 _ _ _ hblk]; rfl
    have H1 := Lib.hid (HAw.out w2 HB2.out)
    clear k2 hblk HK HB1 HY2
    go_wp2_with fail
    refine H1.out.mono ?_
    rintro e w3 ⟨rfl, k3⟩
    have HB3 := Lib.hid (HB2.out.trans (k3.mono HB2.out.size))
    clear k3
    go_wp2_with fail
    go_ret
    exact ⟨by rfl, HB3.out⟩
  | ok M =>
    rw [hx] at HX HY
    obtain ⟨m, hm⟩ : ∃ m, m = M.length := ⟨_, rfl⟩
    have HX2 : Hid (Calls Tryd.prog 7 #[.string s] w fun e w' => ∃ a cap, e = .returned (.tuple #[.slice a m cap, .agg #[.int .i64 0, .int .i64 0, .int .i64 0]]) ∧ TkIn w' 34 a m M ∧ Below w.heap.size w w') := Lib.hid (HX.mono (by
      rintro e w' ⟨⟨a, cap, he, ht⟩, hb⟩
      rw [← hm] at he ht
      exact ⟨a, cap, he, ht, hb⟩))
    have HY2 : Hid (∀ w1, Calls Tryd.prog 8 #[.string s] w1 fun e w' => ∃ a cap, e = .returned (.tuple #[.slice a m cap, .int .i64 0, .int .i64 0, .int .i64 0]) ∧ TkIn w' 33 a m M ∧ Below w1.heap.size w1 w') := Lib.hid (fun w1 => (HY w1).mono (by
      rintro e w' ⟨⟨a, cap, he, ht⟩, hb⟩
      rw [← hm] at he ht
      exact ⟨a, cap, he, ht, hb⟩))
    have q1 : ∀ w1, (Op.equalIn 10000 26 (.agg #[.int .i64 0, .int .i64 0, .int .i64 0]) (.agg #[.int .i64 0, .int .i64 0, .int .i64 0])).run Tryd.prog w1 = .ok true w1 := fun w1 => failEq 0 0 0 0 0 0 w1
    have HMl := Lib.hid hm
    clear HX HY hx hs hm
    go_enter Tryd.func3, Tryd.ntmps3
    go_wp2_with fail
    refine HX2.out.mono ?_
    rintro e w1 ⟨a, ca, rfl, hR1, k1⟩
    obtain ⟨b, hb⟩ : ∃ b, b = w1.heap.size := ⟨_, rfl⟩
    have HK : Hid ((w1.alloc (.cells #[.int .i64 0, .int .i64 0, .int .i64 0] 26)).heap[b]? = some (.cells #[.int .i64 0, .int .i64 0, .int .i64 0] 26 (0, 0))) := Lib.hid (by rw [hb]; exact heap_alloc_new _ _)
    have HB1 := Lib.hid (k1.alloc k1.size (.cells #[.int .i64 0, .int .i64 0, .int .i64 0] 26))
    have HR1 := Lib.hid (hR1.below ((Below.refl w1.heap.size w1).alloc (Nat.le_refl _) (.cells #[.int .i64 0, .int .i64 0, .int .i64 0] 26)))
    clear k1 hR1 HX2
    go_wp2_with fail
    rw [← hb]
    generalize hW : w1.alloc (.cells #[.int .i64 0, .int .i64 0, .int .i64 0] 26) = W at HK HB1 HR1 ⊢
    clear hW hb
    refine (HY2.out W).mono ?_
    rintro e w2 ⟨a2, ca2, rfl, hR2, k2⟩
    have HB2 := Lib.hid (HB1.out.trans (k2.mono HB1.out.size))
    have HR12 := Lib.hid (HR1.out.below k2)
    have HR2 := Lib.hid hR2
    have hsm := hR2.small
    have hblk := (k2.block b (Array.getElem?_eq_some_iff.1 HK.out).1).trans HK.out
    have c0 : w2.cell? ⟨b, 0, none⟩ = some (.int .i64 0) := by rw [cell_of_row w2 b 0 _ _ _ hblk]; rfl
    have c1 : w2.cell? ⟨b, 1, none⟩ = some (.int .i64 0) := by rw [cell_of_row w2 b 1 _ _ _ hblk]; rfl
    have c2 : w2.cell? ⟨b, 2, none⟩ = some (.int .i64 0) := by rw [cell_of_row w2 b 2 _ _ _ hblk]; rfl
    clear k2 hblk HK HB1 HY2 hR2 HR1
    go_wp2_with fail
    clear c0 c1 c2
    go_loopw [9] (fun i wr => ∃ (n : Nat), n ≤ m ∧ i = .int .i64 n ∧ Hid (TkIn wr 34 a m M) ∧ Hid (TkIn wr 33 a2 m M) ∧ Hid (Below w.heap.size w wr)) (fun i _ => m - (intOf i).toNat)
    case atStart => exact ⟨0, Nat.zero_le _, rfl, HR12, HR2, HB2⟩
    case round =>
      clear HR12 HR2 HB2
      obtain ⟨n, hn, rfl, HR1, HR3, HB⟩ := hrel
      by_cases h : n < m
      case neg =>
        have H1 := Lib.hid (HAw.out wr HB.out)
        go_wp2_with fail
        refine H1.out.mono ?_
        rintro e w3 ⟨rfl, k3⟩
        have HB3 := Lib.hid (HB.out.trans (k3.mono HB.out.size))
        clear k3
        go_wp2_with fail
        go_ret
        exact ⟨by rfl, HB3.out⟩
      case pos =>
        obtain ⟨x, hx⟩ : ∃ x, M[n]? = some x := ⟨_, List.getElem?_eq_getElem (by rw [← HMl.out]; exact h)⟩
        obtain ⟨g, off, rfl, hb1, d0, d1, d2, d3⟩ := HR1.out.at' n x hx
        obtain ⟨g', off', rfl, hb2, e0, e1, e2, e3⟩ := HR3.out.at' n x hx
        have hl1 := hb1.lt
        have hl2 := hb2.lt
        obtain ⟨k, t, l, c⟩ := x
        simp only at d0 d1 d2 d3 e0 e1 e2 e3
        have q4 : ∀ w1, (Op.equalIn 10000 33 (.agg #[.int .i64 (k : Nat), .string ⟨t.toArray⟩, .int .i64 (l : Nat), .int .i64 (c : Nat)]) (.agg #[.int .i64 (k : Nat), .string ⟨t.toArray⟩, .int .i64 (l : Nat), .int .i64 (c : Nat)])).run Tryd.prog w1 = .ok true w1 := fun w1 => tkEq k _ l c w1
        clear hx hb1 hb2
        go_wp2_with fail
        go_quiet (fail)
        all_goals (go_wp2_with fail)
        go_roundw
        case rel => exact ⟨n + 1, h, by go_num, Lib.hid (HR1.out.below (lx_drewN (Below.refl _ _) _)), Lib.hid (HR3.out.below (lx_drewN (Below.refl _ _) _)), Lib.hid (lx_drewN HB.out _)⟩
        case measure => simp [intOf]; omega
end Go.Proofs.YtbojhcfofgdoeaaDoor.lexAll
