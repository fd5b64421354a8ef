/- The walk of the law CsvBack: rows that are written, and read. -/
import Derived.Test.YtkihjfdpfglkbaaDoorCsvBackMath
import Derived.Test.YtkihjfdpfglkbaaDoorCsvLine
import Derived.Test.YtkihjfdpfglkbaaDoorCsvAwake
import Derived.Test.YtkihjfdpfglkbaaDoorCsvSame
namespace Go.Proofs.YtkihjfdpfglkbaaDoor.csvBack
open Go.RowKit
set_option linter.unusedVariables false

set_option maxHeartbeats 16000000 in
set_option maxRecDepth 100000 in
theorem walk (a : Option Addr) (len cap : Nat) (LL : List (List (List UInt8))) (w : World) (hA : AIn w a len LL) (hbulk : bulkT LL ≤ 1048576) (hm : MaxC w) (het : ErrT w) :
    Calls Tryd.prog 5 #[.slice a len cap] w fun e w' => e = .returned (.bool true) ∧ Below w.heap.size w w' := by
  have H := Lib.hid hA
  have HLn := Lib.hid hA.leng
  have hsm := hA.small
  have HBu := Lib.hid hbulk
  have HM := Lib.hid hm
  have HT := Lib.hid het
  have HAw := Lib.hid (fun w1 h1 h2 => csAwake_calls w1 h1 h2)
  clear hA hbulk hm het
  by_cases hs : 12 < len
  case pos =>
    have t1 : decide ((12 : Int) < (len : Int)) = true := decide_eq_true (by omega)
    have H1 := Lib.hid (HAw.out w HM.out HT.out)
    go_enter Tryd.func5, Tryd.ntmps5
    go_wp2_with fail
    refine H1.out.mono ?_
    rintro e w1 ⟨rfl, k1⟩
    have HB := Lib.hid k1
    clear k1
    go_wp2_with fail
    go_ret
    exact ⟨by rfl, HB.out⟩
  have hl12 : len ≤ 12 := by omega
  have t1 : decide ((12 : Int) < (len : Int)) = false := decide_eq_false (by omega)
  obtain ⟨i0, hi, hz0, hz1, hz2⟩ := cs_parts cs_infoT
  have HI := Lib.hid hi
  have HZ0 := Lib.hid hz0
  have HZ1 := Lib.hid hz1
  have HZ2 := Lib.hid hz2
  have HRL := Lib.hid (fun b c (fs : List (List UInt8)) w1 (h : TIn w1 b fs.length fs) (h0 : 0 < fs.length) (hc : costF fs ≤ 3000000) => refLine_calls b fs.length c fs w1 h h0 hc)
  have HCL := Lib.hid (fun b c (fs : List (List UInt8)) w1 (h : TIn w1 b fs.length fs) (hc : costF fs ≤ 3000000) (hm : MaxC w1) => csLine_calls b fs.length c fs w1 h hc hm)
  have HFd := Lib.hid (fun (x : List UInt8) (hx : x.length ≤ 4000000) w1 (h1 : MaxC w1) => csField_calls ⟨x.toArray⟩ w1 (by rw [cs_size]; exact hx) h1)
  have HQ := Lib.hid (fun (x : List UInt8) (hx : x.length ≤ 4000000) w1 => refQuoted_calls ⟨x.toArray⟩ w1 (by rw [cs_size]; exact hx))
  clear hs hi hz0 hz1 hz2
  go_enter Tryd.func5, Tryd.ntmps5
  go_wp2_with fail
  go_loopw [3, 4, 5, 6, 7] (fun sv lv cv o iv wr => ∃ (n : Nat) (X : ByteArray) (us : List Value), n ≤ len ∧ iv = .int .i64 n ∧ sv = .string X ∧ lv = .int .i64 ((longR (rowsR (LL.take n))).1 : Nat) ∧ cv = .int .i64 ((longR (rowsR (LL.take n))).2 : Nat) ∧ Hid (X.data.toList = textL (rowsR (LL.take n))) ∧ Hid (X.size ≤ 2 * bulkT (LL.take n) + 14 * n) ∧ Hid (wr.ownsRow w.heap.size 32 1 o (rowsR (LL.take n)).length us) ∧ Hid (Vt w us (rowsR (LL.take n))) ∧ Hid (Below w.heap.size w wr)) (fun _ _ _ _ i _ => len - (intOf i).toNat)
  case atStart => exact ⟨0, _, [], Nat.zero_le _, rfl, rfl, rfl, rfl, Lib.hid rfl, Lib.hid (Nat.zero_le _), Lib.hid (World.ownsRow_nil _ _ _ _), Lib.hid (Vt.nil _), Lib.hid (Below.refl _ _)⟩
  case round =>
    rename_i o _
    obtain ⟨n, X, us, hn, rfl, rfl, rfl, rfl, HX, HXs, HO, HV, HB⟩ := hrel
    obtain ⟨oa, oc, rfl⟩ := cs_own HO.out
    have hRl := rowsR_len LL n
    have hbt := bulkT_take LL n
    by_cases hlt : n < len
    case neg =>
      have hnl : n = len := by omega
      have htk : LL.take n = LL := List.take_of_length_le (by rw [HLn.out]; omega)
      rw [htk] at HX HXs HO HV hRl ⊢
      have hXb : X.size ≤ 4000000 := by
        have h1 := HXs.out
        have h2 := HBu.out
        omega
      obtain ⟨R, hR⟩ : ∃ R, R = rowsR LL := ⟨_, rfl⟩
      have HA1 := all_calls X wr hXb (HM.out.below HB.out) (HT.out.below HB.out)
      have hall := allR_back (rowsR LL) (rowsR_ne LL)
      rw [← hR] at HX HO HV hRl hall ⊢
      have hPl := longR_le R
      have hall2 : allR X.data.toList = if (longR R).1 = 0 then (R, 0, 0, 0) else (R.take ((longR R).1 - 1), 3, (longR R).1, (longR R).2) := by rw [HX.out, hall]
      clear hall hR hXb hbt htk hnl HX HXs
      by_cases hP : (longR R).1 = 0
      case neg =>
        rw [if_neg hP] at hall2
        have HAll : Hid (Calls Tryd.prog 8 #[.string X] wr fun e w' => ∃ a cap vs, e = .returned (.tuple #[.slice a ((longR R).1 - 1) cap, .agg #[.int .i64 3, .int .i64 ((longR R).1 : Nat), .int .i64 ((longR R).2 : Nat)]]) ∧ Below wr.heap.size wr w') := Lib.hid (HA1.mono (by
          intro e w' h
          rw [AllPost, hall2] at h
          obtain ⟨a, cap, vs, h1, _, h3⟩ := h
          refine ⟨a, cap, vs, ?_, h3⟩
          rw [h1]
          simp only [List.length_take, Nat.min_eq_left (show (longR R).1 - 1 ≤ R.length by omega)]
          rfl))
        obtain ⟨P, hPe⟩ : ∃ P, P = longR R := ⟨_, rfl⟩
        rw [← hPe] at HAll hP hPl ⊢
        obtain ⟨p1, p2⟩ := P
        simp only at HAll hP hPl ⊢
        obtain ⟨m, rfl⟩ : ∃ m, p1 = m + 1 := ⟨p1 - 1, by omega⟩
        rw [Nat.add_sub_cancel] at HAll
        have q1 : ∀ w1, (Op.equalIn 10000 26 (.agg #[.int .i64 3, .int .i64 ((m : Int) + 1), .int .i64 (p2 : Nat)]) (.agg #[.int .i64 3, .int .i64 ((m : Int) + 1), .int .i64 (p2 : Nat)])).run Tryd.prog w1 = .ok true w1 := fun w1 => by
          have := failEq 3 (m + 1) p2 3 (m + 1) p2 w1
          simpa using this
        have q2 := failGuard
        have tp : decide ((0 : Int) < (m : Int) + 1) = true := decide_eq_true (by omega)
        have HAll2 : Hid (Calls Tryd.prog 8 #[.string X] wr fun e w' => ∃ a cap, e = .returned (.tuple #[.slice a m cap, .agg #[.int .i64 3, .int .i64 ((m : Int) + 1), .int .i64 (p2 : Nat)]]) ∧ Below wr.heap.size wr w') := Lib.hid (HAll.out.mono (by
          rintro e w' ⟨a, cap, vs, h1, h2⟩
          exact ⟨a, cap, by rw [h1]; push_cast; rfl, h2⟩))
        have hm12 : m ≤ 12 := by omega
        clear hall2 HA1 hPe HAll hP
        go_wp2_with fail
        refine HAll2.out.mono ?_
        rintro e w2 ⟨a2, ca2, rfl, k2⟩
        have HB2 := Lib.hid ((HB.out.trans (k2.mono HB.out.size)).alloc (Nat.le_trans HB.out.size k2.size) (.cells #[.int .i64 3, .int .i64 ((m : Int) + 1), .int .i64 (p2 : Nat)] 26))
        have H1 := Lib.hid (HAw.out _ (HM.out.below HB2.out) (HT.out.below HB2.out))
        clear k2 hPl
        go_wp2_with fail
        refine H1.out.mono ?_
        rintro e w3 ⟨rfl, k3⟩
        have HB3 := Lib.hid (HB2.out.trans (k3.mono HB2.out.size))
        clear k3
        go_wp2_with fail
        go_ret
        exact ⟨by rfl, HB3.out⟩
      case pos =>
        rw [if_pos hP] at hall2
        have HAll : Hid (Calls Tryd.prog 8 #[.string X] wr fun e w' => ∃ a cap vs, e = .returned (.tuple #[.slice a R.length cap, .agg #[.int .i64 0, .int .i64 0, .int .i64 0]]) ∧ RIn w' a R.length R vs ∧ Below wr.heap.size wr w') := Lib.hid (HA1.mono (by
          intro e w' h
          rw [AllPost, hall2] at h
          exact h))
        have q1 : ∀ w1, (Op.equalIn 10000 26 (.agg #[.int .i64 0, .int .i64 0, .int .i64 0]) (.agg #[.int .i64 0, .int .i64 0, .int .i64 0])).run Tryd.prog w1 = .ok true w1 := fun w1 => failEq 0 0 0 0 0 0 w1
        have q2 := failGuard
        obtain ⟨p1, hp1⟩ : ∃ p1, p1 = (longR R).1 := ⟨_, rfl⟩
        rw [← hp1] at hP ⊢
        subst hP
        clear hall2 HA1 hp1 hPl
        go_wp2_with fail
        refine HAll.out.mono ?_
        rintro e w2 ⟨a2, ca2, vs2, rfl, hR2, k2⟩
        have hal := (Below.refl w2.heap.size w2).alloc (Nat.le_refl _) (.cells #[.int .i64 0, .int .i64 0, .int .i64 0] 26)
        have HB2 := Lib.hid ((HB.out.trans (k2.mono HB.out.size)).trans (hal.mono (Nat.le_trans HB.out.size k2.size)))
        have HR2 := Lib.hid (hR2.below hal)
        have HO2 := Lib.hid (cs_ownBelow (cs_ownBelow HO.out k2) hal)
        have hsm2 := hR2.small
        clear k2 hal hR2 HB HO
        go_wp2_with fail
        obtain ⟨W, hW⟩ : ∃ W, w2.alloc (.cells #[.int .i64 0, .int .i64 0, .int .i64 0] 26) = W := ⟨_, rfl⟩
        rw [hW] at HB2 HR2 HO2 ⊢
        clear hW q1 q2
        go_loopw [12] (fun i w3 => ∃ (j : Nat), j ≤ R.length ∧ i = .int .i64 j ∧ Hid (RIn w3 a2 R.length R vs2) ∧ Hid (w3.ownsRow w.heap.size 32 1 (.slice oa R.length oc) R.length us) ∧ Hid (Below w.heap.size w w3)) (fun i _ => R.length - (intOf i).toNat)
        case atStart => exact ⟨0, Nat.zero_le _, rfl, HR2, HO2, HB2⟩
        case round =>
          clear HR2 HO2 HB2
          obtain ⟨j, hj, rfl, HR3, HO3, HB3⟩ := hrel
          by_cases hjl : j < R.length
          case neg =>
            have H1 := Lib.hid (HAw.out _ (HM.out.below HB3.out) (HT.out.below HB3.out))
            go_wp2_with fail
            refine H1.out.mono ?_
            rintro e w4 ⟨rfl, k4⟩
            have HB4 := Lib.hid (HB3.out.trans (k4.mono HB3.out.size))
            clear k4
            go_wp2_with fail
            go_ret
            exact ⟨by rfl, HB4.out⟩
          case pos =>
            obtain ⟨g, off, x, cx, rfl, d1, hx⟩ := HR3.out.at' (Below.refl _ _) hjl
            obtain ⟨g', y, cy, rfl, hg', d2, hy⟩ := own_row_at HO3.out rfl HV.out HB3.out hjl
            generalize R.getD j [] = Z at d1 hx d2 hy
            have H1 := Lib.hid (same_calls x y Z.length cx Z.length cy Z Z wr.drew ⟨hx.leng, hx.small, hx.row⟩ ⟨hy.leng, hy.small, hy.row⟩)
            rw [decide_eq_true (rfl : Z = Z)] at H1
            have HD := Lib.hid (And.intro d1 d2)
            have hd1 := block_lt_of_cell d1
            have hd2 := block_lt_of_cell d2
            clear hx hy
            go_wp2_with fail
            go_region_held3 (fun wx => wx.cell? ⟨g, off + j, none⟩ = some (.slice x Z.length cx) ∧ wx.cell? ⟨g', j, none⟩ = some (.slice y Z.length cy)) (first | exact HD.out | exact HD2.out) (first
              | (go_at_call 10; refine H1.out.mono ?_; rintro e w4 ⟨rfl, k4⟩; have HK4 := Lib.hid k4; have HD2 := Lib.hid (And.intro ((k4.cell (p := ⟨g, off + j, none⟩) hd1).trans HD.out.1) ((k4.cell (p := ⟨g', j, none⟩) hd2).trans HD.out.2))))
            go_wp2_with fail
            have hk4 := (Below.drew (Below.refl _ _)).trans HK4.out
            go_roundw
            case rel => exact ⟨j + 1, hjl, by go_num, Lib.hid (HR3.out.below hk4), Lib.hid (cs_ownBelow HO3.out hk4), Lib.hid (HB3.out.trans (hk4.mono HB3.out.size))⟩
            case measure => simp [intOf]; omega
    case pos =>
      have hltL : n < LL.length := by rw [HLn.out]; exact hlt
      obtain ⟨g, off, b, c, rfl, hg, hcell, hT⟩ := H.out.at' n hlt
      have hcl : ∀ w1, Below w.heap.size w w1 → w1.cell? ⟨g, off + n, none⟩ = some (.slice b (LL.getD n []).length c) := fun w1 k => (k.cell (p := ⟨g, off + n, none⟩) hg).trans hcell
      have hTk := take_getD hltL
      have hb1 := bulkT_snoc (LL.take n) (LL.getD n [])
      rw [← hTk] at hb1
      have hb2 := bulkT_take LL (n + 1)
      have HBu2 := HBu.out
      have hcb := cost_bulk (LL.getD n [])
      have hRn := rowsR_none hltL
      have hRs := rowsR_some hltL
      obtain ⟨fs, hfs⟩ : ∃ fs, fs = LL.getD n [] := ⟨_, rfl⟩
      rw [← hfs] at hcell hT hcl hb1 hcb hRn hRs
      have hcell1 := hcl wr HB.out
      have HCl := Lib.hid hcl
      have HTf := Lib.hid hT
      clear hcell hT hcl hTk hfs
      by_cases h12 : 12 < fs.length
      · have t2 : decide ((12 : Int) < (fs.length : Int)) = true := decide_eq_true (by omega)
        have H1 := Lib.hid (HAw.out wr (HM.out.below HB.out) (HT.out.below HB.out))
        clear hRn hRs hb1 hb2 HBu2 hcb h12
        go_wp2_with fail
        refine H1.out.mono ?_
        rintro e w1 ⟨rfl, k1⟩
        have HB1 := Lib.hid (HB.out.trans (k1.mono HB.out.size))
        clear k1
        go_wp2_with fail
        go_ret
        exact ⟨by rfl, HB1.out⟩
      have t2 : decide ((12 : Int) < (fs.length : Int)) = false := decide_eq_false (by omega)
      have hcost : costF fs ≤ 3000000 := by omega
      have hf12 : fs.length ≤ 12 := by omega
      have HBS : Hid (bulkT (LL.take (n + 1)) = bulkT (LL.take n) + bulkF fs) := Lib.hid hb1
      by_cases h0 : fs = []
      · subst h0
        have HRn : Hid (rowsR (LL.take (n + 1)) = rowsR (LL.take n)) := Lib.hid (hRn rfl)
        have H1 : Hid (Calls Tryd.prog 18 #[.slice b 0 c] wr fun e w' => e = .returned (.string ⟨#[]⟩) ∧ Below wr.heap.size wr w') := Lib.hid (HCL.out b c [] wr (HTf.out.below HB.out) hcost (HM.out.below HB.out))
        have HXs2 : Hid ((X ++ ⟨#[]⟩).size ≤ 2 * bulkT (LL.take (n + 1)) + 14 * (n + 1)) := Lib.hid (by
          have h9 := HXs.out
          have z : (⟨#[]⟩ : ByteArray).size = 0 := rfl
          rw [cs_catSize, z, HBS.out]; omega)
        have hXb : X.size ≤ 4000000 := by have := HXs.out; omega
        have z0 : (⟨#[]⟩ : ByteArray).size = 0 := rfl
        have hc1 := cs_hcat X ⟨#[]⟩ (by omega)
        have HX2 : Hid ((X ++ ⟨#[]⟩).data.toList = textL (rowsR (LL.take (n + 1)))) := Lib.hid (by rw [cs_cat, HX.out, HRn.out]; simp)
        clear hRn hRs hb1 hb2 HBu2 hcb hcost h12 z0 hXb hbt hRl
        go_wp2_with fail
        refine H1.out.mono ?_
        rintro e w1 ⟨rfl, k1⟩
        have HB1 := Lib.hid (HB.out.trans (k1.mono HB.out.size))
        have HO1 := Lib.hid (cs_ownBelow HO.out k1)
        have hcell2 := HCl.out w1 HB1.out
        clear k1 hcell1
        go_wp2_with fail
        refine wp_loop_rounds 1 ?_
        rw [rounds_succ]
        go_wp2_with fail
        go_roundw
        case rel => exact ⟨n + 1, X ++ ⟨#[]⟩, us, hlt, by go_num, by rfl, by rw [HRn.out], by rw [HRn.out], HX2, HXs2, Lib.hid (by rw [HRn.out]; exact HO1.out), Lib.hid (by rw [HRn.out]; exact HV.out), HB1⟩
        case measure => simp [intOf]; omega
      · have HRs : Hid (rowsR (LL.take (n + 1)) = rowsR (LL.take n) ++ [fs]) := Lib.hid (hRs h0)
        have hf0 : 0 < fs.length := by
          cases hfs : fs with
          | nil => exact absurd hfs h0
          | cons x r => simp
        have hLl := lineL_len fs
        obtain ⟨Wt, hWt⟩ : ∃ Wt : ByteArray, Wt = ⟨(lineL fs).toArray⟩ := ⟨_, rfl⟩
        have hWd : Wt.data.toList = lineL fs := by rw [hWt]
        have hWs : Wt.size = (lineL fs).length := by rw [cs_size, hWd]
        have H0 := Lib.hid (HRL.out b c fs wr (HTf.out.below HB.out) hf0 hcost)
        have H1 := Lib.hid (fun w1 (k : Below w.heap.size w w1) => HCL.out b c fs w1 (HTf.out.below k) hcost (HM.out.below k))
        rw [← hWt] at H0 H1
        have hXb : X.size ≤ 4000000 := by have := HXs.out; omega
        have hc1 := cs_hcat X Wt (by omega)
        have HXs2 : Hid ((X ++ Wt).size ≤ 2 * bulkT (LL.take (n + 1)) + 14 * (n + 1)) := Lib.hid (by
          have h9 := HXs.out
          rw [cs_catSize, HBS.out, hWs]; omega)
        have HX2 : Hid ((X ++ Wt).data.toList = textL (rowsR (LL.take (n + 1)))) := Lib.hid (by rw [cs_cat, HX.out, HRs.out, hWd, textL_snoc])
        have tw : (Wt.toList == Wt.toList) = true := by simp
        obtain ⟨R, hR⟩ : ∃ R, R = rowsR (LL.take n) := ⟨_, rfl⟩
        rw [← hR] at HRs HO HV hRl ⊢
        have hPl := longR_le R
        have HInn : Hid (inn (longR R) (R.length + 1) [] = longR R) := Lib.hid inn_start
        have HEnd : Hid (inn (longR R) (R.length + 1) fs = longR (rowsR (LL.take (n + 1)))) := Lib.hid (by rw [HRs.out]; exact inn_end)
        clear hRn hRs hb1 hb2 HBu2 hcb hcost h12 hXb hbt hWd hWs hWt hLl h0 hR HX HXs HBS
        go_wp2_with fail
        refine H0.out.mono ?_
        rintro e w1 ⟨rfl, hw1⟩
        subst hw1
        go_wp2_with (at_builtin; refine wpList_append_own _ rfl _ _ 23 rfl w.heap.size 32 i0 _ 1 24 Tryd.underlying23 HI.out HZ0.out HZ1.out HZ2.out rfl (by decide) _ _ _ rfl (HO.out.alloc _) ⟨wr.heap.size, 0, none⟩ 1 1 [.slice b fs.length c] rfl rfl (cs_new wr _ _) (by intro u hu; simp at hu; subst hu; rfl) (by unfold maxLen; omega) (by omega) (by have := HB.out.size; simp; omega) ?_; intro v' w2 ho2 hg2 _; have hb2' := (HB.out.alloc HB.out.size (.cells #[.slice b fs.length c] 32)).grown hg2 (by have := HB.out.size; simp; omega) (fun k hk => (HO.out.lt k hk).1); have hcell2 := HCl.out w2 hb2')
        have HB2 := Lib.hid hb2'
        have HO2 : Hid (w2.ownsRow w.heap.size 32 1 v' (R.length + 1) (us ++ [.slice b fs.length c])) := Lib.hid ho2
        have HV2 : Hid (Vt w (us ++ [.slice b fs.length c]) (R ++ [fs])) := Lib.hid (HV.out.snoc HTf.out)
        obtain ⟨oa2, oc2, rfl⟩ := cs_own HO2.out
        clear ho2 hg2 hb2' HO HB hcell1 HV
        refine (H1.out w2 HB2.out).mono ?_
        rintro e w3 ⟨rfl, k3⟩
        have HB3 := Lib.hid (HB2.out.trans (k3.mono HB2.out.size))
        have HO3 := Lib.hid (cs_ownBelow HO2.out k3)
        have hcell3 := HCl.out w3 HB3.out
        clear k3 hcell2 HO2 HB2
        go_wp2_with fail
        clear hcell3 tw H0 H1
        go_loopw [4, 5, 9] (fun lv cv kv wr2 => ∃ (k : Nat), k ≤ fs.length ∧ kv = .int .i64 k ∧ lv = .int .i64 ((inn (longR R) (R.length + 1) (fs.take k)).1 : Nat) ∧ cv = .int .i64 ((inn (longR R) (R.length + 1) (fs.take k)).2 : Nat) ∧ Hid (wr2.ownsRow w.heap.size 32 1 (.slice oa2 (R.length + 1) oc2) (R.length + 1) (us ++ [.slice b fs.length c])) ∧ Hid (Below w.heap.size w wr2)) (fun _ _ i _ => fs.length - (intOf i).toNat)
        case atStart => exact ⟨0, Nat.zero_le _, rfl, by rw [List.take_zero, HInn.out], by rw [List.take_zero, HInn.out], HO3, HB3⟩
        case round =>
          clear HO3 HB3
          obtain ⟨k, hk, rfl, rfl, rfl, HO4, HB4⟩ := hrel
          have hcell4 := HCl.out _ HB4.out
          by_cases hkl : k < fs.length
          case neg =>
            have hkf : fs.take k = fs := List.take_of_length_le (by omega)
            have HEk : Hid (inn (longR R) (R.length + 1) (fs.take k) = longR (rowsR (LL.take (n + 1)))) := Lib.hid (by rw [hkf]; exact HEnd.out)
            have HRl : Hid ((rowsR (LL.take (n + 1))).length = R.length + 1) := Lib.hid (by rw [HRs.out]; simp)
            rw [HEk.out]
            clear hkf
            go_wp2_with fail
            go_roundw
            case rel => exact ⟨n + 1, X ++ Wt, us ++ [.slice b fs.length c], hlt, by go_num, rfl, rfl, rfl, HX2, HXs2, Lib.hid (by rw [HRl.out]; exact HO4.out), Lib.hid (by rw [HRs.out]; exact HV2.out), HB4⟩
            case measure => simp [intOf]; omega
          case pos =>
            obtain ⟨g2, off2, rfl, hc2⟩ := HTf.out.at' HB4.out hkl
            have hg2 := block_lt_of_cell hc2
            obtain ⟨x, hx⟩ : ∃ x, x = fs.getD k [] := ⟨_, rfl⟩
            rw [← hx] at hc2
            have HTk : Hid (fs.take (k + 1) = fs.take k ++ [x]) := Lib.hid (by rw [hx]; exact take_getD1 hkl)
            obtain ⟨Y, hY⟩ : ∃ Y : ByteArray, Y = ⟨x.toArray⟩ := ⟨_, rfl⟩
            have hYs : Y.size = x.length := by rw [hY, cs_size]
            rw [← hY] at hc2
            by_cases h5 : 5000 < x.length
            case pos =>
              have t5 : decide ((5000 : Int) < (Y.size : Int)) = true := decide_eq_true (by omega)
              have H1 := Lib.hid (HAw.out _ (HM.out.below HB4.out) (HT.out.below HB4.out))
              clear hx hY hYs h5
              go_wp2_with fail
              refine H1.out.mono ?_
              rintro e w5 ⟨rfl, k5⟩
              have HB5 := Lib.hid (HB4.out.trans (k5.mono HB4.out.size))
              clear k5
              go_wp2_with fail
              go_ret
              exact ⟨by rfl, HB5.out⟩
            case neg =>
              have t5 : decide ((5000 : Int) < (Y.size : Int)) = false := decide_eq_false (by omega)
              have HF1 := Lib.hid (HFd.out x (by omega))
              have HQ1 := Lib.hid (HQ.out x (by omega))
              obtain ⟨Z, hZ⟩ : ∃ Z : ByteArray, Z = ⟨(fieldL x).toArray⟩ := ⟨_, rfl⟩
              rw [← hZ, ← hY] at HF1 HQ1
              have tz : (Z.toList == Z.toList) = true := by simp
              have HMd := Lib.hid (HM.out.below HB4.out).drew
              have hlt1 := block_lt_of_cell hcell4
              have HD := Lib.hid (And.intro hcell4 hc2)
              obtain ⟨q, hq⟩ : ∃ q, q = inn (longR R) (R.length + 1) (fs.take k) := ⟨_, rfl⟩
              have HNo : Hid (¬ (4096 < x.length ∧ q.1 = 0) → inn (longR R) (R.length + 1) (fs.take (k + 1)) = q) := Lib.hid (fun h => by rw [HTk.out, inn_no (by rw [← hq]; exact h), hq])
              have HYes : Hid (4096 < x.length → q.1 = 0 → inn (longR R) (R.length + 1) (fs.take (k + 1)) = (R.length + 1, k + 1)) := Lib.hid (fun h1 h2 => by rw [HTk.out, inn_yes (Nat.succ_ne_zero _) h1 (by rw [← hq]; exact h2), List.length_take, Nat.min_eq_left hk])
              rw [← hq]
              clear hZ hq hx hY
              go_wp2_with fail
              go_region_held3 (fun wx => wx.cell? ⟨g, off + n, none⟩ = some (.slice (some ⟨g2, off2, none⟩) fs.length c) ∧ wx.cell? ⟨g2, off2 + k, none⟩ = some (.string Y)) (first | exact HD.out | exact HD2.out) (first
                | (go_at_call 19; refine (HF1.out _ HMd.out).mono ?_; rintro e w5 ⟨rfl, k5⟩; have HK5 := Lib.hid k5; have HD2 := Lib.hid (And.intro ((k5.cell (p := ⟨g, off + n, none⟩) hlt1).trans HD.out.1) ((k5.cell (p := ⟨g2, off2 + k, none⟩) hg2).trans HD.out.2)))
                | (go_at_call 20; refine (HQ1.out _).mono ?_; rintro e w6 ⟨rfl, hw6⟩; subst hw6))
              have hk5 := (Below.drew (Below.refl _ _)).trans HK5.out
              have HB5 := Lib.hid (HB4.out.trans (hk5.mono HB4.out.size))
              have HO5 := Lib.hid (cs_ownBelow HO4.out hk5)
              have hcell5 := HD2.out.1
              have hc5 := HD2.out.2
              obtain ⟨q1, q2⟩ := q
              simp only at HNo HYes ⊢
              clear hcell4 hc2 hk5 HK5 HD HD2 HMd hlt1 hg2 HF1 HQ1 HB4 HO4 t5 h5
              by_cases h46 : 4096 < x.length
              · have t6 : decide ((4096 : Int) < (Y.size : Int)) = true := decide_eq_true (by omega)
                by_cases hq0 : q1 = 0
                · have HE := Lib.hid (HYes.out h46 hq0)
                  have t7 : ((q1 : Int) == 0) = true := by rw [hq0]; rfl
                  clear HNo HYes h46 hYs hq0
                  go_wp2_with fail
                  go_roundw
                  case rel => exact ⟨k + 1, hkl, by go_num, by rw [HE.out]; simp, by rw [HE.out]; simp, HO5, HB5⟩
                  case measure => simp [intOf]; omega
                · have HE := Lib.hid (HNo.out (fun e => hq0 e.2))
                  have t7 : ((q1 : Int) == 0) = false := beq_eq_false_iff_ne.2 (by omega)
                  clear HNo HYes h46 hYs hq0
                  go_wp2_with fail
                  go_roundw
                  case rel => exact ⟨k + 1, hkl, by go_num, by rw [HE.out], by rw [HE.out], HO5, HB5⟩
                  case measure => simp [intOf]; omega
              · have t6 : decide ((4096 : Int) < (Y.size : Int)) = false := decide_eq_false (by omega)
                have HE := Lib.hid (HNo.out (fun e => h46 e.1))
                clear HNo HYes h46 hYs
                go_wp2_with fail
                go_roundw
                case rel => exact ⟨k + 1, hkl, by go_num, by rw [HE.out], by rw [HE.out], HO5, HB5⟩
                case measure => simp [intOf]; omega
end Go.Proofs.YtkihjfdpfglkbaaDoor.csvBack
