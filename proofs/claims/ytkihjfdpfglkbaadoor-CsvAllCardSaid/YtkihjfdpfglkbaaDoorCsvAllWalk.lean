/- The walk of the law CsvAll. -/
import Derived.Test.YtkihjfdpfglkbaaDoorCsvAwake
import Derived.Test.YtkihjfdpfglkbaaDoorCsvSame
import Derived.Test.YtkihjfdpfglkbaaDoorCsvRefAll
namespace Go.Proofs.YtkihjfdpfglkbaaDoor.csvAll
open Go.RowKit
set_option linter.unusedVariables false

set_option maxHeartbeats 4000000 in
set_option maxRecDepth 100000 in
theorem walk (s : ByteArray) (w : World) (hm : MaxC w) (het : ErrT w) :
    Calls Tryd.prog 3 #[.string s] w fun e w' => e = .returned (.bool true) ∧ Below w.heap.size w w' := by
  have HM := Lib.hid hm
  have HT := Lib.hid het
  have HAw := Lib.hid (fun w1 h1 h2 => csAwake_calls w1 h1 h2)
  clear hm het
  by_cases hs : 20000 < s.size
  case pos =>
    have t1 : decide ((20000 : Int) < (s.size : Int)) = true := decide_eq_true (by omega)
    have H1 := Lib.hid (HAw.out w HM.out HT.out)
    go_enter Tryd.func3, Tryd.ntmps3
    go_wp2_with fail
    refine H1.out.mono ?_
    rintro e w1 ⟨rfl, k1⟩
    have HB := Lib.hid k1
    clear k1
    go_wp2_with fail
    go_ret
    exact ⟨by rfl, HB.out⟩
  case neg =>
    have t1 : decide ((20000 : Int) < (s.size : Int)) = false := decide_eq_false (by omega)
    have hs2 : s.size ≤ 4000000 := by omega
    have H1 := Lib.hid (all_calls s w hs2 HM.out HT.out)
    have H2 := Lib.hid (fun w1 => refAll_calls s w1 hs2)
    obtain ⟨A, hA⟩ : ∃ A, A = allR s.data.toList := ⟨_, rfl⟩
    have H1' : Hid (Calls Tryd.prog 8 #[.string s] w fun e w' => ∃ a cap vs, e = .returned (.tuple #[.slice a A.1.length cap, .agg #[.int .i64 (A.2.1 : Nat), .int .i64 (A.2.2.1 : Nat), .int .i64 (A.2.2.2 : Nat)]]) ∧ RIn w' a A.1.length A.1 vs ∧ Below w.heap.size w w') := Lib.hid (by rw [hA]; exact H1.out)
    have H2' : Hid (∀ w1, Calls Tryd.prog 9 #[.string s] w1 fun e w' => ∃ a cap vs, e = .returned (.tuple #[.slice a A.1.length cap, .int .i64 (A.2.2.1 : Nat), .int .i64 (A.2.2.2 : Nat), .int .i64 (A.2.1 : Nat)]) ∧ RIn w' a A.1.length A.1 vs ∧ Below w1.heap.size w1 w') := Lib.hid (by rw [hA]; exact H2.out)
    obtain ⟨L, er, rw', cl⟩ := A
    simp only at H1' H2'
    clear H1 H2 hA hs hs2
    go_enter Tryd.func3, Tryd.ntmps3
    go_wp2_with fail
    refine H1'.out.mono ?_
    rintro e w1 ⟨a, ca, vs, rfl, hR1, k1⟩
    have hk := (Below.refl w1.heap.size w1).alloc (Nat.le_refl _) (.cells #[.int .i64 (er : Nat), .int .i64 (rw' : Nat), .int .i64 (cl : Nat)] 26)
    have hblk := heap_alloc_new w1 (.cells #[.int .i64 (er : Nat), .int .i64 (rw' : Nat), .int .i64 (cl : Nat)] 26)
    have HB1 := Lib.hid (k1.trans (hk.mono k1.size))
    have HR1 := Lib.hid (hR1.below hk)
    obtain ⟨b, hb⟩ : ∃ b, b = w1.heap.size := ⟨_, rfl⟩
    rw [← hb] at hblk
    have HK := Lib.hid hblk
    clear hR1 k1 hk hblk
    go_wp2_with fail
    rw [← hb]
    obtain ⟨W, hW⟩ : ∃ W, w1.alloc (.cells #[.int .i64 (er : Nat), .int .i64 (rw' : Nat), .int .i64 (cl : Nat)] 26) = W := ⟨_, rfl⟩
    rw [hW] at HB1 HR1 HK ⊢
    clear hb hW
    refine (H2'.out W).mono ?_
    rintro e w2 ⟨a2, ca2, vs2, rfl, hR2, k2⟩
    have HR2 := Lib.hid hR2
    have HR12 := Lib.hid (HR1.out.below k2)
    have HB2 := Lib.hid (HB1.out.trans (k2.mono HB1.out.size))
    have hblk := (k2.block b (Array.getElem?_eq_some_iff.1 HK.out).1).trans HK.out
    have c0 : w2.cell? ⟨b, 0, none⟩ = some (.int .i64 (er : Nat)) := by rw [cell_of_row w2 b 0 _ _ _ hblk]; rfl
    have c1 : w2.cell? ⟨b, 1, none⟩ = some (.int .i64 (rw' : Nat)) := by rw [cell_of_row w2 b 1 _ _ _ hblk]; rfl
    have c2 : w2.cell? ⟨b, 2, none⟩ = some (.int .i64 (cl : Nat)) := by rw [cell_of_row w2 b 2 _ _ _ hblk]; rfl
    have hsm := hR2.small
    clear hR2 k2 hblk HR1 HB1 HK H2' H1'
    go_wp2_with fail
    clear c0 c1 c2
    go_loopw [9] (fun i wr => ∃ (n : Nat), n ≤ L.length ∧ i = .int .i64 n ∧ Hid (RIn wr a L.length L vs) ∧ Hid (RIn wr a2 L.length L vs2) ∧ Hid (Below w.heap.size w wr)) (fun i _ => L.length - (intOf i).toNat)
    case atStart => exact ⟨0, Nat.zero_le _, rfl, HR12, HR2, HB2⟩
    case round =>
      obtain ⟨n, hn, rfl, HR1, HR3, HB⟩ := hrel
      by_cases h : n < L.length
      case neg =>
        have H1 := Lib.hid (HAw.out wr (HM.out.below HB.out) (HT.out.below HB.out))
        go_wp2_with fail
        refine H1.out.mono ?_
        rintro e w3 ⟨rfl, k3⟩
        have HB3 := Lib.hid (HB.out.trans (k3.mono HB.out.size))
        clear k3
        go_wp2_with fail
        go_ret
        exact ⟨by rfl, HB3.out⟩
      case pos =>
        obtain ⟨g, off, x, cx, rfl, d1, hx⟩ := HR1.out.at' (Below.refl _ _) h
        obtain ⟨g', off', y, cy, rfl, d2, hy⟩ := HR3.out.at' (Below.refl _ _) h
        generalize L.getD n [] = X at d1 hx d2 hy
        have H1 := Lib.hid (same_calls x y X.length cx X.length cy X X wr.drew ⟨hx.leng, hx.small, hx.row⟩ ⟨hy.leng, hy.small, hy.row⟩)
        rw [decide_eq_true (rfl : X = X)] at H1
        have HD := Lib.hid (show wr.cell? ⟨g, off + n, none⟩ = some (.slice x X.length cx) ∧ wr.cell? ⟨g', off' + n, none⟩ = some (.slice y X.length cy) from ⟨d1, d2⟩)
        have hd1 := block_lt_of_cell d1
        have hd2 := block_lt_of_cell d2
        clear hx hy
        go_wp2_with fail
        go_region_held3 (fun wx => wx.cell? ⟨g, off + n, none⟩ = some (.slice x X.length cx) ∧ wx.cell? ⟨g', off' + n, none⟩ = some (.slice y X.length cy)) (first | exact HD.out | exact HD2.out) (first
          | (go_at_call 10; refine H1.out.mono ?_; rintro e w4 ⟨rfl, k4⟩; have HK4 := Lib.hid k4; have HD2 := Lib.hid (show w4.cell? ⟨g, off + n, none⟩ = some (.slice x X.length cx) ∧ w4.cell? ⟨g', off' + n, none⟩ = some (.slice y X.length cy) from ⟨(k4.cell (p := ⟨g, off + n, none⟩) hd1).trans HD.out.1, (k4.cell (p := ⟨g', off' + n, none⟩) hd2).trans HD.out.2⟩)))
        go_wp2_with fail
        have hk4 : Below wr.heap.size wr w4 := ((Below.refl wr.heap.size wr).drew).trans HK4.out
        go_roundw
        case rel => exact ⟨n + 1, h, by go_num, Lib.hid (HR1.out.below hk4), Lib.hid (HR3.out.below hk4), Lib.hid (HB.out.trans (hk4.mono HB.out.size))⟩
        case measure => simp [intOf]; omega
end Go.Proofs.YtkihjfdpfglkbaaDoor.csvAll
