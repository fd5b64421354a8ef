/- Contracts of a lower layer, several texts in one. -/
import Derived.Test.YtmjchmamkjbgkaaGreatDoorLowEv1
import Derived.Test.YtmjchmamkjbgkaaGreatDoorLowSc1
import Derived.Test.YtmjchmamkjbgkaaGreatDoorValRight
import Derived.Deep.RegionHeld3
import Derived.OwnWalk
import Derived.Deep.CutRange
/- EvRight -/
namespace Go.Proofs.YtmjchmamkjbgkaaGreatDoor
open Go.RowKit
set_option linter.unusedVariables false

set_option maxHeartbeats 1000000 in
theorem isOfKind_calls (k i : Int) (s : ByteArray) (b : Bool) (t : Int) (w : World) (hs : s.size ≤ 9223372036854775807) :
    Calls Tryz.prog 36 #[.agg #[.int .i64 k, .int .i64 i, .string s, .bool b], .int .i64 t] w fun e w' => e = .returned (.bool (decide (k = t) && rightB k i s b)) ∧ Below w.heap.size w w' := by
  have HA := Lib.hid ((Below.refl w.heap.size w).alloc (Nat.le_refl _) (.cells #[.int .i64 k, .int .i64 i, .string s, .bool b] 44))
  have HR := Lib.hid (fun w1 => vRight_calls k i s b w1 hs)
  by_cases h : k = t
  · have HV : Hid ((decide (k = t) && rightB k i s b) = rightB k i s b) := Lib.hid (by rw [decide_eq_true h]; rfl)
    have t1 : (k == t) = true := by simpa using h
    clear h
    go_enter Tryz.func36, Tryz.ntmps36
    go_wp2_with fail
    refine (HR.out _).mono ?_
    rintro e w1 ⟨rfl, k1⟩
    go_wp2_with fail
    go_ret
    exact ⟨by rw [HV.out]; rfl, HA.out.trans (k1.mono HA.out.size)⟩
  · have HV : Hid ((decide (k = t) && rightB k i s b) = false) := Lib.hid (by rw [decide_eq_false h]; rfl)
    have t1 : (k == t) = false := by simpa using h
    clear h
    go_enter Tryz.func36, Tryz.ntmps36
    go_wp2_with fail
    go_ret
    exact ⟨by rw [HV.out]; rfl, HA.out⟩

set_option maxHeartbeats 2000000 in
set_option maxRecDepth 100000 in
theorem equalK_calls (a : Option Addr) (la ca : Nat) (A : List Vd) (b : Option Addr) (lb cb : Nat) (V : List Int) (w : World) (hA : VIn w a la A) (hB : KIn w b lb V) :
    Calls Tryz.prog 35 #[.slice a la ca, .slice b lb cb, .func (.func 36) #[] #[]] w fun e w' => e = .returned (.bool (rightA V A)) ∧ Below w.heap.size w w' := by
  have HA := Lib.hid hA
  have HB := Lib.hid hB
  have HAl := Lib.hid hA.leng
  have HBl := Lib.hid hB.leng
  have hsa := hA.small
  have hsb := hB.small
  have H0 := Lib.hid (rightTo_zero V A)
  have eg : ∀ args w, (callFunc 36 args).run Tryz.prog w = .ok (.enter 36 args) w := enters_of Tryz.func36 (by kernel_rfl) rfl
  have HFt := Lib.hid hA.fits
  have HK := Lib.hid (fun (v : Vd) (t : Int) w1 (hs : v.s.size ≤ 9223372036854775807) => isOfKind_calls v.k v.i v.s v.b t w1 hs)
  clear hA hB
  by_cases hlen : la = lb
  · subst hlen
    have t1 : ((la : Int) != (la : Int)) = false := by simp
    go_enter Tryz.func35, Tryz.ntmps35
    go_wp2_with fail
    go_loopw [17] (fun i wr => ∃ (n : Nat), n ≤ la ∧ i = .int .i64 n ∧ Hid (rightTo V A n) ∧ Hid (Below w.heap.size w wr)) (fun i _ => la - (intOf i).toNat)
    case atStart => exact ⟨0, Nat.zero_le _, rfl, H0, Lib.hid (Below.refl _ _)⟩
    case round =>
      obtain ⟨n, hn, rfl, HX, HW⟩ := hrel
      by_cases hlt : n < la
      case neg =>
        have HV := Lib.hid (rightTo_end HX.out (by rw [HBl.out]; omega) (by rw [HAl.out]; omega))
        go_wp2_with fail
        go_ret
        exact ⟨by rw [HV.out]; rfl, HW.out⟩
      case pos =>
        obtain ⟨ga, oa, rfl, a0, a1, a2, a3⟩ := (HA.out.below HW.out).at' hlt
        obtain ⟨gb, ob, rfl, hgb, b0⟩ := (HB.out.below HW.out).at' n hlt
        have HS := Lib.hid (rightTo_step HX.out (by rw [HBl.out]; exact hlt) (by rw [HAl.out]; exact hlt))
        have H1 := Lib.hid (fun w1 => HK.out (A.getD n default) (V.getD n 0) w1 (HFt.out n (by rw [HAl.out]; exact hlt)).1)
        obtain ⟨⟨k, i, s, z⟩, hv⟩ : ∃ v, v = A.getD n default := ⟨_, rfl⟩
        rw [← hv] at a0 a1 a2 a3 HS H1
        generalize V.getD n 0 = t at b0 HS H1
        clear hv
        simp only at a0 a1 a2 a3 H1
        have HWA := Lib.hid (HW.out.alloc HW.out.size (.cells #[.int .i64 k, .int .i64 i, .string s, .bool z] 44))
        have HBx := Lib.hid (Boxed.new k i s z wr 44)
        have i1 : (0 : Int) ≤ (n : Int) := by omega
        have i2 : (n : Int) < (la : Int) := by omega
        cases he : (decide (k = t) && rightB k i s z)
        · rw [he] at H1
          have HV : Hid (rightA V A = false) := Lib.hid (by rw [HS.out]; simp only; rw [he]; rfl)
          clear he
          go_wp2_with fail
          refine (H1.out _).mono ?_
          rintro e w1 ⟨rfl, k1⟩
          have HK1 := Lib.hid (HWA.out.trans (k1.mono HWA.out.size))
          clear k1
          go_wp2_with fail
          go_ret
          exact ⟨by rw [HV.out]; rfl, HK1.out⟩
        · rw [he] at H1
          have HV : Hid (rightTo V A (n + 1)) := Lib.hid (by unfold rightTo; rw [HS.out]; simp only; rw [he]; rfl)
          clear he
          go_wp2_with fail
          refine (H1.out _).mono ?_
          rintro e w1 ⟨rfl, k1⟩
          have HK1 := Lib.hid (HWA.out.trans (k1.mono HWA.out.size))
          clear k1
          go_wp2_with fail
          go_roundw
          case rel => exact ⟨n + 1, hlt, by go_num, HV, HK1⟩
          case measure => simp [intOf]; omega
  · have HV := Lib.hid (rightA_ne (ks := V) (A := A) (by rw [HAl.out, HBl.out]; exact fun e => hlen e.symm))
    have t1 : ((la : Int) != (lb : Int)) = true := by simp; omega
    go_enter Tryz.func35, Tryz.ntmps35
    go_wp2_with fail
    go_ret
    exact ⟨by rw [HV.out]; rfl, Below.refl _ _⟩

theorem ev_cells7 {w w' : World} (hb : Below w.heap.size w w') {p1 p2 p3 p4 p5 p6 p7 : Addr} {v1 v2 v3 v4 v5 v6 v7 : Value}
    (h : w.cell? p1 = some v1 ∧ w.cell? p2 = some v2 ∧ w.cell? p3 = some v3 ∧ w.cell? p4 = some v4 ∧ w.cell? p5 = some v5 ∧ w.cell? p6 = some v6 ∧ w.cell? p7 = some v7) :
    w'.cell? p1 = some v1 ∧ w'.cell? p2 = some v2 ∧ w'.cell? p3 = some v3 ∧ w'.cell? p4 = some v4 ∧ w'.cell? p5 = some v5 ∧ w'.cell? p6 = some v6 ∧ w'.cell? p7 = some v7 := by
  obtain ⟨h1, h2, h3, h4, h5, h6, h7⟩ := h
  exact ⟨(hb.cell (block_lt_of_cell h1)).trans h1, (hb.cell (block_lt_of_cell h2)).trans h2, (hb.cell (block_lt_of_cell h3)).trans h3, (hb.cell (block_lt_of_cell h4)).trans h4, (hb.cell (block_lt_of_cell h5)).trans h5, (hb.cell (block_lt_of_cell h6)).trans h6, (hb.cell (block_lt_of_cell h7)).trans h7⟩
theorem rightE_some {L : List Dc} {x : ByteArray} {A : List Vd} {i : Nat} (h : findL L x = some i) : rightE L (x, A) = rightA (ksAt L i) A := by unfold rightE; simp only; rw [h]
theorem rightE_none {L : List Dc} {x : ByteArray} {A : List Vd} (h : findL L x = none) : rightE L (x, A) = false := by unfold rightE; simp only; rw [h]
theorem find_p {L : List Dc} {x : ByteArray} {i : Nat} (h : findL L x = some i) : findI L x = i ∧ findB L x = true ∧ findR L x = i ∧ i < L.length := by
  refine ⟨by rw [findI, h]; rfl, by rw [findB, h]; rfl, by rw [findR, h], (find_lt h).1⟩
theorem find_n {L : List Dc} {x : ByteArray} (h : findL L x = none) : findI L x = 0 ∧ findB L x = false ∧ findR L x = -1 :=
  ⟨by rw [findI, h]; rfl, by rw [findB, h]; rfl, by rw [findR, h]⟩

set_option maxHeartbeats 2000000 in
set_option maxRecDepth 100000 in
theorem evRight_calls (l : Option Addr) (llen lcap : Nat) (L : List Dc) (x : ByteArray) (a : Option Addr) (la ca : Nat) (A : List Vd) (w : World) (hl : DIn w l llen L) (hA : VIn w a la A) :
    Calls Tryz.prog 15 #[.slice l llen lcap, .agg #[.string x, .slice a la ca]] w fun e w' => e = .returned (.bool (rightE L (x, A))) ∧ Below w.heap.size w w' := by
  have hb1 := (Below.refl w.heap.size w).alloc (Nat.le_refl _) (.cells #[.string x, .slice a la ca] 29)
  have HB1 := Lib.hid hb1
  have HX1 := Lib.hid (EBx.new x (.slice a la ca) w 29)
  have HF := scFind_calls l llen lcap L x _ (hl.below hb1)
  cases hf : findL L x with
  | none =>
    obtain ⟨e1, e2, _⟩ := find_n hf
    rw [e1, e2] at HF
    have HF := Lib.hid HF
    have HV := Lib.hid (rightE_none (A := A) hf)
    clear hl hA hb1 hf e1 e2
    go_enter Tryz.func15, Tryz.ntmps15
    go_wp2_with fail
    refine HF.out.mono ?_
    rintro e w1 ⟨rfl, hw1⟩
    subst hw1
    go_wp2_with fail
    go_quiet (fail)
    go_wp2_with fail
    go_ret
    exact ⟨by rw [HV.out]; rfl, below_drewN _ HB1.out⟩
  | some i =>
    obtain ⟨e1, e2, _, hil⟩ := find_p hf
    rw [e1, e2] at HF
    have HF := Lib.hid HF
    have HV := Lib.hid (rightE_some (A := A) hf)
    have hill : i < llen := by rw [← hl.leng]; exact hil
    obtain ⟨gl, ofl, b, c, rfl, hgl, h1, h2, h3, h4⟩ := hl.at' i hill
    have h2' := (hb1.cell (p := ⟨gl, ofl + i * 2 + 1, none⟩) hgl).trans h2
    have hbd := hb1.drew
    have HE := Lib.hid (equalK_calls a la ca A b (ksAt L i).length c (ksAt L i) _ (hA.below hbd) (h3.below hbd))
    have HS := Lib.hid (And.intro HX1.out.2 h2')
    have i1 : (0 : Int) ≤ (i : Int) := by omega
    have i2 : (i : Int) < (llen : Int) := by omega
    clear hl hA hb1 hf e1 e2 hil h1 h2 h3 h4 hgl hbd
    generalize ksAt L i = V at HE HV HS h2'
    generalize V.length = vl at HE HS h2'
    go_enter Tryz.func15, Tryz.ntmps15
    go_wp2_with fail
    refine HF.out.mono ?_
    rintro e w1 ⟨rfl, hw1⟩
    subst hw1
    go_wp2_with fail
    go_region_held3 (fun wx => wx.cell? ⟨w.heap.size, 1, none⟩ = some (.slice a la ca) ∧ wx.cell? ⟨gl, ofl + i * 2 + 1, none⟩ = some (.slice b vl c)) (first | exact HS.out | exact HS4.out) (first
      | (go_at_call 35; refine HE.out.mono ?_; rintro e w4 ⟨rfl, k4⟩; have HK4 := Lib.hid (HB1.out.drew.trans (k4.mono HB1.out.size)); have HS4 := Lib.hid (show w4.cell? ⟨w.heap.size, 1, none⟩ = some (.slice a la ca) ∧ w4.cell? ⟨gl, ofl + i * 2 + 1, none⟩ = some (.slice b vl c) from ⟨(k4.cell (p := ⟨w.heap.size, 1, none⟩) (block_lt_of_cell HS.out.1)).trans HS.out.1, (k4.cell (p := ⟨gl, ofl + i * 2 + 1, none⟩) (block_lt_of_cell HS.out.2)).trans HS.out.2⟩)))
    go_wp2_with fail
    go_ret
    exact ⟨by rw [HV.out]; rfl, HK4.out⟩

set_option maxHeartbeats 4000000 in
set_option maxRecDepth 100000 in
theorem refEvRight_calls (l : Option Addr) (llen lcap : Nat) (L : List Dc) (x : ByteArray) (a : Option Addr) (la ca : Nat) (A : List Vd) (w : World) (hl : DIn w l llen L) (hA : VIn w a la A) :
    Calls Tryz.prog 20 #[.slice l llen lcap, .agg #[.string x, .slice a la ca]] w fun e w' => e = .returned (.bool (rightE L (x, A))) ∧ Below w.heap.size w w' := by
  have hb1 := (Below.refl w.heap.size w).alloc (Nat.le_refl _) (.cells #[.string x, .slice a la ca] 29)
  have HB1 := Lib.hid hb1
  have HX1 := Lib.hid (EBx.new x (.slice a la ca) w 29)
  have HF := refFind_calls l llen lcap L x _ (hl.below hb1)
  cases hf : findL L x with
  | none =>
    obtain ⟨_, _, e1⟩ := find_n hf
    rw [e1] at HF
    have HF := Lib.hid HF
    have HV := Lib.hid (rightE_none (A := A) hf)
    clear hl hA hb1 hf e1
    go_enter Tryz.func20, Tryz.ntmps20
    go_wp2_with fail
    refine HF.out.mono ?_
    rintro e w1 ⟨rfl, hw1⟩
    subst hw1
    go_wp2_with fail
    go_quiet (fail)
    go_wp2_with fail
    go_ret
    exact ⟨by rw [HV.out]; rfl, below_drewN _ HB1.out⟩
  | some i =>
    obtain ⟨_, _, e1, hil⟩ := find_p hf
    rw [e1] at HF
    have HF := Lib.hid HF
    have HVE := Lib.hid (rightE_some (A := A) hf)
    have hill : i < llen := by rw [← hl.leng]; exact hil
    obtain ⟨gl, ofl, b, c, rfl, hgl, h1, h2, h3, h4⟩ := hl.at' i hill
    have h2' := (hb1.cell (p := ⟨gl, ofl + i * 2 + 1, none⟩) hgl).trans h2
    have i1 : (0 : Int) ≤ (i : Int) := by omega
    have i2 : (i : Int) < (llen : Int) := by omega
    have t0 : decide ((i : Int) < 0) = false := by simp
    have HK := Lib.hid h3
    have HA := Lib.hid hA
    have HAl := Lib.hid hA.leng
    have HFt := Lib.hid hA.fits
    have hsa := hA.small
    have hks := h3.small
    have H0 := Lib.hid (rightTo_zero (ksAt L i) A)
    have HRR := Lib.hid (fun (v : Vd) w1 (hs : v.s.size ≤ 9223372036854775807) => refVRight_calls v.k v.i v.s v.b w1 hs)
    clear hl hA hb1 hf e1 hil h1 h2 h3 h4
    generalize ksAt L i = V at HK HVE H0 h2' hks
    generalize hvl : V.length = vl at HK h2' hks
    have HKl := Lib.hid hvl
    clear hvl
    by_cases hlen : vl = la
    · subst hlen
      have t1 : ((vl : Int) != (vl : Int)) = false := by simp
      go_enter Tryz.func20, Tryz.ntmps20
      go_wp2_with fail
      refine HF.out.mono ?_
      rintro e w1 ⟨rfl, hw1⟩
      subst hw1
      go_wp2_with fail
      go_quiet (fail)
      obtain ⟨W1, hW1⟩ : ∃ W1, (w.alloc (.cells #[.string x, .slice a vl ca] 29)) = W1 := ⟨_, rfl⟩
      rw [hW1] at HB1 HX1 h2' ⊢
      have hz : w.heap.size < W1.heap.size := by rw [← hW1]; simp
      have HGl := Lib.hid (block_lt_of_cell h2')
      have HD := Lib.hid h2'
      clear hW1 h2' HF
      go_wp2_with fail
      go_loopw [6] (fun i wr => ∃ (n : Nat), n ≤ vl ∧ i = .int .i64 n ∧ Hid (rightTo V A n) ∧ Hid (Below W1.heap.size W1 wr)) (fun i _ => vl - (intOf i).toNat)
      case atStart => exact ⟨0, Nat.zero_le _, rfl, H0, Lib.hid (below_drewN _ (Below.refl _ _))⟩
      case round =>
        obtain ⟨n, hn, rfl, HX, HW⟩ := hrel
        obtain ⟨d0, d1⟩ := HX1.out.below HW.out hz
        have d2 := (HW.out.cell (p := ⟨gl, ofl + i * 2 + 1, none⟩) HGl.out).trans HD.out
        have HWB := Lib.hid (HB1.out.trans (HW.out.mono HB1.out.size))
        by_cases hlt : n < vl
        case neg =>
          have HV := Lib.hid (rightTo_end HX.out (by rw [HKl.out]; omega) (by rw [HAl.out]; omega))
          go_wp2_with fail
          go_ret
          exact ⟨by rw [HVE.out, HV.out]; rfl, HWB.out⟩
        case pos =>
          obtain ⟨ga, oa, rfl, a0, a1, a2, a3⟩ := (HA.out.below HWB.out).at' hlt
          obtain ⟨gb, ob, rfl, hgb, b0⟩ := (HK.out.below HWB.out).at' n hlt
          have HS := Lib.hid (rightTo_step HX.out (by rw [HKl.out]; exact hlt) (by rw [HAl.out]; exact hlt))
          have H1 := Lib.hid (fun w1 => HRR.out (A.getD n default) w1 (HFt.out n (by rw [HAl.out]; exact hlt)).1)
          obtain ⟨⟨k, j, s, z⟩, hv⟩ : ∃ v, v = A.getD n default := ⟨_, rfl⟩
          rw [← hv] at a0 a1 a2 a3 HS H1
          generalize V.getD n 0 = t at b0 HS
          clear hv
          simp only at a0 a1 a2 a3 H1
          have i3 : (0 : Int) ≤ (n : Int) := by omega
          have i4 : (n : Int) < (vl : Int) := by omega
          have HR := Lib.hid (And.intro d1 (And.intro a0 (And.intro a1 (And.intro a2 (And.intro a3 (And.intro d2 b0))))))
          by_cases hk : k = t
          · have t2 : (k != t) = false := by simpa using hk
            cases hr : rightB k j s z
            · have HV : Hid (rightA V A = false) := Lib.hid (by rw [HS.out]; simp only; rw [hr, Bool.and_false]; rfl)
              rw [hr] at H1
              clear hk hr
              go_wp2_with fail
              go_region_held3 (fun W => W.cell? ⟨w.heap.size, 1, none⟩ = some (.slice (some ⟨ga, oa, none⟩) vl ca) ∧ W.cell? ⟨ga, oa + n * 4, none⟩ = some (.int .i64 k) ∧ W.cell? ⟨ga, oa + n * 4 + 1, none⟩ = some (.int .i64 j) ∧ W.cell? ⟨ga, oa + n * 4 + 2, none⟩ = some (.string s) ∧ W.cell? ⟨ga, oa + n * 4 + 3, none⟩ = some (.bool z) ∧ W.cell? ⟨gl, ofl + i * 2 + 1, none⟩ = some (.slice (some ⟨gb, ob, none⟩) vl c) ∧ W.cell? ⟨gb, ob + n, none⟩ = some (.int .i64 t)) (first | exact HR.out | exact HR4.out) (first
                | (go_at_call 42; refine (H1.out _).mono ?_; rintro e w4 ⟨rfl, k4⟩; have HK4 := Lib.hid ((Below.refl wr.heap.size wr).drew.trans k4); have HR4 := Lib.hid (ev_cells7 HK4.out HR.out)))
              go_wp2_with fail
              go_ret
              exact ⟨by rw [HVE.out, HV.out]; rfl, HWB.out.trans (HK4.out.mono HWB.out.size)⟩
            · have HV : Hid (rightTo V A (n + 1)) := Lib.hid (by unfold rightTo; rw [HS.out]; simp only; rw [hr, decide_eq_true hk]; rfl)
              rw [hr] at H1
              clear hk hr
              go_wp2_with fail
              go_region_held3 (fun W => W.cell? ⟨w.heap.size, 1, none⟩ = some (.slice (some ⟨ga, oa, none⟩) vl ca) ∧ W.cell? ⟨ga, oa + n * 4, none⟩ = some (.int .i64 k) ∧ W.cell? ⟨ga, oa + n * 4 + 1, none⟩ = some (.int .i64 j) ∧ W.cell? ⟨ga, oa + n * 4 + 2, none⟩ = some (.string s) ∧ W.cell? ⟨ga, oa + n * 4 + 3, none⟩ = some (.bool z) ∧ W.cell? ⟨gl, ofl + i * 2 + 1, none⟩ = some (.slice (some ⟨gb, ob, none⟩) vl c) ∧ W.cell? ⟨gb, ob + n, none⟩ = some (.int .i64 t)) (first | exact HR.out | exact HR4.out) (first
                | (go_at_call 42; refine (H1.out _).mono ?_; rintro e w4 ⟨rfl, k4⟩; have HK4 := Lib.hid ((Below.refl wr.heap.size wr).drew.trans k4); have HR4 := Lib.hid (ev_cells7 HK4.out HR.out)))
              go_wp2_with fail
              go_roundw
              case rel => exact ⟨n + 1, hlt, by go_num, HV, Lib.hid (HW.out.trans (HK4.out.mono HW.out.size))⟩
              case measure => simp [intOf]; omega
          · have t2 : (k != t) = true := by simpa using hk
            have HV : Hid (rightA V A = false) := Lib.hid (by rw [HS.out]; simp only; rw [decide_eq_false hk]; rfl)
            clear hk
            go_wp2_with fail
            go_quiet (fail)
            go_wp2_with fail
            go_ret
            exact ⟨by rw [HVE.out, HV.out]; rfl, below_drewN _ HWB.out⟩
    · have HV := Lib.hid (rightA_ne (ks := V) (A := A) (by rw [HAl.out, HKl.out]; exact hlen))
      have t1 : ((vl : Int) != (la : Int)) = true := by simp; omega
      go_enter Tryz.func20, Tryz.ntmps20
      go_wp2_with fail
      refine HF.out.mono ?_
      rintro e w1 ⟨rfl, hw1⟩
      subst hw1
      obtain ⟨d0, d1⟩ := HX1.out
      go_wp2_with fail
      go_quiet (fail)
      go_wp2_with fail
      go_ret
      exact ⟨by rw [HVE.out, HV.out]; rfl, below_drewN _ HB1.out⟩
end Go.Proofs.YtmjchmamkjbgkaaGreatDoor

/- EvRefOf -/
namespace Go.Proofs.YtmjchmamkjbgkaaGreatDoor
open Go.RowKit
set_option linter.unusedVariables false

theorem ev_result3 {fn : Func} {p q r : Tmp} {ty : TypeId} (h : fn.results = #[.cell p ty, .tmp q, .tmp r]) (tmps : Array Value) (P : Program) (w : World) {a : Addr} {u v z : Value}
    (h0 : (asAddr (tmps.getD p undef)).run P w = .ok a w) (h1 : (loadVar ty a).run P w = .ok u w) (h2 : tmps.getD q undef = v) (h3 : tmps.getD r undef = z) : (results fn tmps).run P w = .ok (.tuple #[u, v, z]) w := by
  rw [Array.getD_eq_getD_getElem?] at h0 h2 h3
  simp [results, h, Sem.run_bind, Result.andThen, h0, h1, h2, h3]
/-- What the reference tells of a row. -/
def RefOfPost (x : Except (Nat × Nat) Ev) (w : World) (e : Ending) (w' : World) : Prop :=
  (match x with
   | .ok y => ∃ a cap, e = .returned (.tuple #[.agg #[.string y.1, .slice a y.2.length cap], .int .i64 0, .int .i64 0]) ∧ VIn w' a y.2.length y.2 ∧ VObj w' a
   | .error (er, c) => e = .returned (.tuple #[.agg #[.string ⟨#[]⟩, .slice none 0 0], .int .i64 (er : Nat), .int .i64 (c : Nat)])) ∧ Below w.heap.size w w'
theorem rof_ok {x : Except (Nat × Nat) Ev} {y : ByteArray} {A : List Vd} {w w' : World} {e : Ending} (hx : x = .ok (y, A)) (h : ∃ a cap, e = .returned (.tuple #[.agg #[.string y, .slice a A.length cap], .int .i64 0, .int .i64 0]) ∧ VIn w' a A.length A ∧ VObj w' a) (hb : Below w.heap.size w w') : RefOfPost x w e w' := by
  subst hx; exact ⟨h, hb⟩
theorem rof_no {x : Except (Nat × Nat) Ev} {er c : Nat} {w w' : World} {e : Ending} (hx : x = .error (er, c)) (h : e = .returned (.tuple #[.agg #[.string ⟨#[]⟩, .slice none 0 0], .int .i64 (er : Nat), .int .i64 (c : Nat)])) (hb : Below w.heap.size w w') : RefOfPost x w e w' := by
  subst hx; exact ⟨h, hb⟩
/-- An event that the call gathers arguments into, in a block of its own. -/
structure Gath (N : Nat) (w : World) (X : ByteArray) (o : Value) (A : List Vd) (W : World) : Prop where
  box : EvBox w W
  ev : W.heap[N]? = some (.cells #[.string X, o] 29 (0, 0))
  own : W.ownsRow (N + 1) 44 4 o A.length (cellsV A)
  gt : w.heap.size < N
theorem Gath.below {N : Nat} {w W W' : World} {X : ByteArray} {o : Value} {A : List Vd} (h : Gath N w X o A W) (k : Below W.heap.size W W') : Gath N w X o A W' :=
  ⟨h.box.step k, (k.block N (Array.getElem?_eq_some_iff.1 h.ev).1).trans h.ev, cs_ownBelow h.own k, h.gt⟩
theorem Gath.cells {N : Nat} {w W : World} {X : ByteArray} {o : Value} {A : List Vd} (h : Gath N w X o A W) : W.cell? ⟨N, 0, none⟩ = some (.string X) ∧ W.cell? ⟨N, 1, none⟩ = some o ∧ W.frozen? ⟨N, 0, none⟩ = false ∧ W.frozen? ⟨N, 1, none⟩ = false :=
  ⟨by rw [cell_of_row W _ 0 _ _ _ h.ev]; rfl, by rw [cell_of_row W _ 1 _ _ _ h.ev]; rfl, frozen_of_row W _ 0 _ _ h.ev, frozen_of_row W _ 1 _ _ h.ev⟩
theorem Gath.lt {N : Nat} {w W : World} {X : ByteArray} {o : Value} {A : List Vd} (h : Gath N w X o A W) : N < W.heap.size := (Array.getElem?_eq_some_iff.1 h.ev).1
theorem EvBox.grown {w W W' : World} {row : Option Nat} (h : EvBox w W) (k : W.grownBy W' row) (hr : ∀ j, row = some j → w.heap.size < j) : EvBox w W' :=
  ⟨h.below.grown k h.below.size (fun j hj => by have := hr j hj; omega), (k.block _ h.lt (fun e => by have := hr _ e.symm; omega)).trans h.blk⟩
theorem ev_heapSet1 (w : World) (N : Nat) (a b v : Value) (t : TypeId) (h : w.heap[N]? = some (.cells #[a, b] t (0, 0))) : (w.setCell ⟨N, 1, none⟩ v).heap[N]? = some (.cells #[a, v] t (0, 0)) := by
  rw [heap_setCell_same w N 1 _ _ v h]; rfl
/-- .. the arguments have grown. -/
theorem Gath.more {N : Nat} {w W W' : World} {X : ByteArray} {o o' : Value} {A : List Vd} {v : Vd} (h : Gath N w X o A W) (hg : W.grownBy W' o.ownBlock) (hown : W'.ownsRow (N + 1) 44 4 o' (A ++ [v]).length (cellsV (A ++ [v]))) :
    Gath N w X o' (A ++ [v]) (W'.setCell ⟨N, 1, none⟩ o') := by
  have hN := h.lt
  have hgt := h.gt
  have hev : W'.heap[N]? = some (.cells #[.string X, o] 29 (0, 0)) := (hg.block N hN (fun e => by have := (h.own.lt N e.symm).1; omega)).trans h.ev
  have hne : ∀ g, (some g = o'.ownBlock) → g ≠ N := fun g e k => by have := (hown.lt g e.symm).1; omega
  refine ⟨(h.box.grown hg (fun j hj => by have := (h.own.lt j hj).1; omega)).grown (cs_set (a := ⟨N, 1, none⟩)) (fun j hj => by cases hj; exact hgt), ev_heapSet1 _ _ _ _ _ _ hev, hown.kept (cs_set (a := ⟨N, 1, none⟩)) (.inr fun e => hne N e.symm rfl), hgt⟩

set_option maxHeartbeats 8000000 in
set_option maxRecDepth 100000 in
theorem refOf_calls (la : Option Addr) (llen lcap : Nat) (L : List Dc) (ra : Option Addr) (rlen rcap : Nat) (row : List (List UInt8)) (w : World) (hl : DIn w la llen L) (hr : TIn w ra rlen row) (hL : SchOk L) (hs : ∀ f ∈ row, f.length ≤ 4294967296) (hrb : rlen ≤ 1000000000) :
    Calls Tryz.prog 12 #[.slice la llen lcap, .slice ra rlen rcap] w (RefOfPost (ofL L row) w) := by
  have HE0 := Lib.hid (EvBox.new w)
  cases row with
  | nil =>
    obtain rfl : rlen = 0 := hr.leng.symm
    have HV := Lib.hid (of_nil L)
    clear hl hr hL hs
    go_enter Tryz.func12, Tryz.ntmps12
    go_wp2_with fail
    (try simp only [Exit.inBlock, Exit.then])
    refine bodyPost_ret (v := .tuple #[.agg #[.string ⟨#[]⟩, .slice none 0 0], .int .i64 12, .int .i64 1]) ?_ rfl ?_
    · refine ev_result3 rfl _ _ _ (a := ⟨w.heap.size, 0, none⟩) (by rfl) ?_ (by rfl) (by rfl)
      go_simp
    · exact rof_no HV.out rfl HE0.out.below
  | cons x fs =>
    obtain ⟨g, off, rfl, hx⟩ := hr.at' (Below.refl _ _) (show 0 < rlen by have := hr.leng; simp at this; omega)
    have hrl : rlen = fs.length + 1 := by have := hr.leng; simp at this; omega
    have hx2 : w.cell? ⟨g, off, none⟩ = some (.string ⟨x.toArray⟩) := by simpa using hx
    have hg := block_lt_of_cell hx2
    clear hx
    obtain ⟨X, hX⟩ : ∃ X : ByteArray, X = ⟨x.toArray⟩ := ⟨_, rfl⟩
    rw [← hX] at hx2
    have HF := Lib.hid (fun w1 (hb : Below w.heap.size w w1) => refFind_calls la llen lcap L X w1 (hl.below hb))
    have t0 : ((rlen : Int) == 0) = false := by rw [beq_eq_false_iff_ne]; omega
    have i0 : (0 : Int) < (rlen : Int) := by omega
    have i0' : 0 < rlen := by omega
    cases hf : findL L X with
    | none =>
      have HV := Lib.hid (of_noname (fs := fs) (by rw [← hX]; exact hf))
      rw [show findR L X = -1 by rw [findR, hf]] at HF
      clear hl hr hL hs hX hf hrl hrb
      go_enter Tryz.func12, Tryz.ntmps12
      go_wp2_with fail
      refine (HF.out _ HE0.out.below).mono ?_
      rintro e w1 ⟨rfl, hw1⟩
      subst hw1
      go_wp2_with fail
      (try simp only [Exit.inBlock, Exit.then])
      refine bodyPost_ret (v := .tuple #[.agg #[.string ⟨#[]⟩, .slice none 0 0], .int .i64 11, .int .i64 1]) ?_ rfl ?_
      · refine ev_result3 rfl _ _ _ (a := ⟨w.heap.size, 0, none⟩) (by rfl) ?_ (by rfl) (by rfl)
        go_simp
      · exact rof_no HV.out rfl HE0.out.below
    | some i =>
      obtain ⟨hil, hin⟩ := find_lt hf
      rw [show findR L X = i by rw [findR, hf]] at HF
      obtain ⟨gl, ofl, b, c, rfl, hgl, h1, h2, h3, h4⟩ := hl.at' i (by rw [← hl.leng]; exact hil)
      have hill : i < llen := by rw [← hl.leng]; exact hil
      have hkl := (hL.2 i hil).1
      obtain ⟨V, hVe⟩ : ∃ V, V = ksAt L i := ⟨_, rfl⟩
      rw [← hVe] at h2 h3 hkl
      have HVk : Hid (∀ n, n < V.length → noKind (V.getD n 0) = false) := Lib.hid (fun n hn => hL.1 i hil _ (by rw [← hVe]; simp [List.getD, hn]))
      obtain ⟨kl, hkle⟩ : ∃ kl, kl = V.length := ⟨_, rfl⟩
      rw [← hkle] at h2 h3 hkl
      have HKl := Lib.hid hkle
      have HC1 := Lib.hid (fun w1 (hb : Below w.heap.size w w1) => (hb.cell (p := ⟨gl, ofl + i * 2 + 1, none⟩) hgl).trans h2)
      have HKI := Lib.hid (fun w1 (hb : Below w.heap.size w w1) => h3.below hb)
      have HTI := Lib.hid (fun w1 (hb : Below w.heap.size w w1) => hr.below hb)
      have HSz : Hid (∀ n, n < fs.length → (fs.getD n []).length ≤ 4294967296) := Lib.hid (fun n hn => hs _ (by simp [List.getD, hn]))
      have HFl := Lib.hid hrl
      have HA := Lib.hid (fun (k : Int) (f : List UInt8) w1 (hk : noKind k = false) (hf : f.length ≤ 4294967296) => refArg_calls k ⟨f.toArray⟩ w1 hk (by rw [cs_size]; show f.length ≤ _; omega))
      have HOk : Hid (∀ A, readL V fs 2 = .ok A → ofL L (x :: fs) = .ok (X, A)) := Lib.hid (fun A h => by rw [hX] at hf ⊢; exact of_good hf (by rw [← hVe]; exact h))
      have HNo : Hid (∀ e, readL V fs 2 = .error e → ofL L (x :: fs) = .error e) := Lib.hid (fun e h => by rw [hX] at hf; exact of_wrong hf (by rw [← hVe]; exact h))
      have i1 : (0 : Int) ≤ (i : Int) := by omega
      have i2 : (i : Int) < (llen : Int) := by omega
      have t2 : decide ((i : Int) < 0) = false := by simp
      have HX0 := Lib.hid (readX_zero V fs)
      have h2' := HC1.out _ HE0.out.below
      have HG0 : Hid (Gath (w.heap.size + 1) w X (.slice none 0 0) [] ((w.alloc (.cells #[.string ⟨#[]⟩, .slice none 0 0] 29)).alloc (.cells #[.string X, .slice none 0 0] 29))) := Lib.hid ⟨HE0.out.step ((Below.refl _ _).alloc (Nat.le_refl _) _), by have := heap_alloc_new (w.alloc (.cells #[.string ⟨#[]⟩, .slice none 0 0] 29)) (.cells #[.string X, .slice none 0 0] 29); rw [World.size_alloc] at this; exact this, World.ownsRow_nil _ _ _ _, by omega⟩
      obtain ⟨j0, hi, hz0, hz1, hz2⟩ := cs_parts infoV
      have HI := Lib.hid hi
      have HZ0 := Lib.hid hz0
      have HZ1 := Lib.hid hz1
      have HZ2 := Lib.hid hz2
      clear hl hr hL hs hX hf hrl h1 h2 h3 h4 hVe hkle hil hin hi hz0 hz1 hz2
      go_enter Tryz.func12, Tryz.ntmps12
      go_wp2_with fail
      refine (HF.out _ HE0.out.below).mono ?_
      rintro e w1 ⟨rfl, hw1⟩
      subst hw1
      go_wp2_with fail
      obtain ⟨W1, hW1⟩ : ∃ W1, ((w.alloc (.cells #[.string ⟨#[]⟩, .slice none 0 0] 29)).alloc (.cells #[.string X, .slice none 0 0] 29)) = W1 := ⟨_, rfl⟩
      rw [hW1] at HG0 ⊢
      clear hW1 h2' HF hx2
      go_loopw [10] (fun q wr => ∃ (n : Nat) (A : List Vd) (o : Value), n ≤ kl ∧ q = .int .i64 n ∧ A.length = n ∧ Hid (readX V fs n A) ∧ Hid (allD A) ∧ Hid (Gath (w.heap.size + 1) w X o A wr)) (fun q _ => kl - (intOf q).toNat)
      case atStart => exact ⟨0, [], _, Nat.zero_le _, rfl, rfl, HX0, Lib.hid (fun v hv => by simp at hv), HG0⟩
      case round =>
        obtain ⟨n, A, o, hn, rfl, hAn, HX, HD, HG⟩ := hrel
        subst hAn
        obtain ⟨n, hn2⟩ : ∃ n, n = A.length := ⟨_, rfl⟩
        rw [← hn2] at hn HX ⊢
        have HAn := Lib.hid hn2
        clear hn2
        have hGo := HG.out.own
        rw [← HAn.out] at hGo
        obtain ⟨oa, oc, rfl⟩ := cs_own hGo
        have HO := Lib.hid hGo
        obtain ⟨b0, b1, g0, g1⟩ := HG.out.box.cells
        obtain ⟨e0, e1, r0, r1⟩ := HG.out.cells
        have HB := Lib.hid HG.out.box.below
        have hwl := HG.out.lt
        have hwl0 : w.heap.size < wr.heap.size := by omega
        have hw2 := HC1.out _ HB.out
        clear hGo
        have hAle := HX.out.2.2.1
        by_cases hlt : n < kl
        case neg =>
          have hnk : n = kl := by omega
          obtain ⟨a2, c2, e2, h3, h4⟩ := own_vo (by rw [← HAn.out]; exact HO.out) (argsFit HD.out)
          rw [← HAn.out] at e2
          cases e2
          have HR := Lib.hid (And.intro h3 h4)
          clear h3 h4
          have w1 : IntKind.i64.wrap ((kl : Int) + 1) = (kl : Int) + 1 := by rw [IntKind.wrap_i64]; omega
          by_cases hfe : fs.length = n
          · have HV := Lib.hid (HOk.out A (readX_end HX.out (by rw [← HKl.out]; exact hnk) hfe.symm))
            have t3 : decide ((kl : Int) + 1 < (rlen : Int)) = false := by have := HFl.out; simp; omega
            clear hfe hnk
            go_wp2_with fail
            (try simp only [Exit.inBlock, Exit.then])
            refine bodyPost_ret (v := .tuple #[.agg #[.string X, .slice oa n oc], .int .i64 0, .int .i64 0]) ?_ rfl ?_
            · refine ev_result3 rfl _ _ _ (a := ⟨w.heap.size, 0, none⟩) (by rfl) ?_ (by rfl) (by rfl)
              go_simp
            · refine rof_ok HV.out ⟨oa, oc, by rw [← HAn.out], HR.out.1.grown HR.out.2 HG.out.box.cblk (by decide) (ev_set2 _ _ _ _), HR.out.2.grown HG.out.box.cblk (by decide) (ev_set2 _ _ _ _)⟩ (HG.out.box.set _ _)
          · have HV := Lib.hid (HNo.out _ (readX_count HX.out (.inl ⟨by rw [← HKl.out]; exact hnk, by omega⟩)))
            have t3 : decide ((kl : Int) + 1 < (rlen : Int)) = true := by have := HFl.out; simp; omega
            have w2 : IntKind.i64.wrap ((kl : Int) + 2) = ((n + 2 : Nat) : Int) := by rw [IntKind.wrap_i64]; omega
            clear hfe hnk
            go_wp2_with fail
            (try simp only [Exit.inBlock, Exit.then])
            refine bodyPost_ret (v := .tuple #[.agg #[.string ⟨#[]⟩, .slice none 0 0], .int .i64 12, .int .i64 ((n + 2 : Nat) : Int)]) ?_ rfl ?_
            · refine ev_result3 rfl _ _ _ (a := ⟨w.heap.size, 0, none⟩) (by rfl) ?_ (by rfl) (by rfl)
              go_simp
            · exact rof_no HV.out rfl (HG.out.box.set _ _)
        case pos =>
          have w1 : IntKind.i64.wrap ((n : Int) + 1) = (n : Int) + 1 := by rw [IntKind.wrap_i64]; omega
          by_cases hfl : n < fs.length
          case neg =>
            have HV := Lib.hid (HNo.out _ (readX_count HX.out (.inr ⟨by omega, by rw [← HKl.out]; exact hlt⟩)))
            have t3 : decide ((rlen : Int) ≤ (n : Int) + 1) = true := by have := HFl.out; simp; omega
            have w2 : IntKind.i64.wrap ((rlen : Int) + 1) = ((n + 2 : Nat) : Int) := by have := HFl.out; rw [IntKind.wrap_i64]; omega
            go_wp2_with fail
            (try simp only [Exit.inBlock, Exit.then])
            refine bodyPost_ret (v := .tuple #[.agg #[.string ⟨#[]⟩, .slice none 0 0], .int .i64 12, .int .i64 ((n + 2 : Nat) : Int)]) ?_ rfl ?_
            · refine ev_result3 rfl _ _ _ (a := ⟨w.heap.size, 0, none⟩) (by rfl) ?_ (by rfl) (by rfl)
              go_simp
            · exact rof_no HV.out rfl (HG.out.box.set _ _)
          case pos =>
            have t3 : decide ((rlen : Int) ≤ (n : Int) + 1) = false := by have := HFl.out; simp; omega
            obtain ⟨gk, ofk, rfl, hgk, hck⟩ := (HKI.out _ HB.out).at' n hlt
            obtain ⟨gf, of2, hgf2, hcf⟩ := (HTI.out _ HB.out).at' (Below.refl _ _) (show n + 1 < rlen by have := HFl.out; omega)
            cases hgf2
            rw [show (x :: fs).getD (n + 1) [] = fs.getD n [] from rfl] at hcf
            have HKN := Lib.hid (HVk.out n (by rw [← HKl.out]; exact hlt))
            have HFN := Lib.hid (HSz.out n hfl)
            have HMo := Lib.hid (fun e => readX_more HX.out (by rw [← HKl.out]; exact hlt) hfl e)
            have HBa := Lib.hid (fun e => readX_bad HX.out (by rw [← HKl.out]; exact hlt) hfl e)
            generalize V.getD n 0 = k at hck HKN HMo HBa
            obtain ⟨f, hfe⟩ : ∃ f, f = fs.getD n [] := ⟨_, rfl⟩
            rw [← hfe] at hcf HFN HMo HBa
            have H1 := Lib.hid (fun w1 => HA.out k f w1 HKN.out HFN.out)
            have HGd := Lib.hid (fun e => arg_good (noKind_three HKN.out) (f := f) e)
            obtain ⟨⟨⟨vk, vi, vs, vb⟩, er⟩, hv⟩ : ∃ p, p = argV k f := ⟨_, rfl⟩
            rw [← hv] at H1 HMo HBa HGd
            simp only [vdV] at H1
            obtain ⟨F, hF⟩ : ∃ F : ByteArray, F = ⟨f.toArray⟩ := ⟨_, rfl⟩
            rw [← hF] at hcf H1
            clear hv hF hfe
            have hgl2 := block_lt_of_cell hw2
            have hgf3 := block_lt_of_cell hcf
            have HS : Hid (∀ w1, Below wr.heap.size wr w1 → (w1.cell? ⟨gl, ofl + i * 2 + 1, none⟩ = some (.slice (some ⟨gk, ofk, none⟩) kl c) ∧ w1.cell? ⟨gk, ofk + n, none⟩ = some (.int .i64 k) ∧ w1.cell? ⟨g, off + (n + 1), none⟩ = some (.string F))) := Lib.hid (fun w1 h => ⟨(h.cell (p := ⟨gl, ofl + i * 2 + 1, none⟩) hgl2).trans hw2, (h.cell (p := ⟨gk, ofk + n, none⟩) hgk).trans hck, (h.cell (p := ⟨g, off + (n + 1), none⟩) hgf3).trans hcf⟩)
            have HD1 := Lib.hid ((Below.refl wr.heap.size wr).drew)
            have HD2 := Lib.hid (((Below.refl wr.heap.size wr).alloc (Nat.le_refl _) (.cells #[.int .i64 0, .int .i64 0, .string ⟨#[]⟩, .bool false] 44)).drew)
            have HBx := Lib.hid (Boxed.new 0 0 ⟨#[]⟩ false wr 44)
            have HFx := Lib.hid (Free4.new #[.int .i64 0, .int .i64 0, .string ⟨#[]⟩, .bool false] wr 44)
            have i3 : (0 : Int) ≤ (n : Int) := by omega
            have i4 : (n : Int) < (kl : Int) := by omega
            have i5 : (n : Int) + 1 < (rlen : Int) := by have := HFl.out; omega
            have i6 : (0 : Int) ≤ (n : Int) + 1 := by omega
            have i7 : n + 1 < rlen := by have := HFl.out; omega
            go_upto_region 13 with fail
            go_cut [11, 12] from 35 to 77 (fun p er' wx => er' = .int .i64 (er : Nat) ∧ ∃ P, p = .pointer (some ⟨P, 0, none⟩) ∧ wr.heap.size ≤ P ∧ P < wx.heap.size ∧ Hid (Boxed P vk vi vs vb wx) ∧ Hid (Below wr.heap.size wr wx))
            case first =>
              go_region_held3 (fun W => W.cell? ⟨gl, ofl + i * 2 + 1, none⟩ = some (.slice (some ⟨gk, ofk, none⟩) kl c) ∧ W.cell? ⟨gk, ofk + n, none⟩ = some (.int .i64 k) ∧ W.cell? ⟨g, off + (n + 1), none⟩ = some (.string F)) (first | exact HS.out _ HD1.out | exact HS.out _ HD2.out | exact HS.out _ HB4.out | exact HS.out _ HB5.out | exact HS.out _ HB6.out) (first
                | (go_at_call 32; refine (H1.out wr.drew).mono ?_; rintro e w4 ⟨rfl, k4⟩; have HB4 := Lib.hid (HD1.out.trans (k4.mono HD1.out.size)); have HB5 := Lib.hid (HB4.out.alloc HB4.out.size (.cells #[.int .i64 0, .int .i64 0, .string ⟨#[]⟩, .bool false] 44)); have HB6 := Lib.hid (HB4.out.alloc HB4.out.size (.cells #[.int .i64 vk, .int .i64 vi, .string vs, .bool vb] 44)))
                | (go_at_call 32; refine (H1.out (wr.alloc (.cells #[.int .i64 0, .int .i64 0, .string ⟨#[]⟩, .bool false] 44)).drew).mono ?_; rintro e w4 ⟨rfl, k4⟩; have HB4 := Lib.hid (HD2.out.trans (k4.mono HD2.out.size)); obtain ⟨c0, c1, c2, c3⟩ := (HBx.out.drew).below k4 (by simp); have HX4 := Lib.hid ((HBx.out.drew).below k4 (by simp)); have HB6 := Lib.hid (below_set4 HB4.out (Nat.le_refl _) (.int .i64 vk) (.int .i64 vi) (.string vs) (.bool vb)); have HS4 := Lib.hid (show wr.heap.size < w4.heap.size from Nat.lt_of_lt_of_le (by simp) k4.size); obtain ⟨f0, f1, f2, f3⟩ := (show Free4 wr.heap.size (wr.alloc (.cells #[.int .i64 0, .int .i64 0, .string ⟨#[]⟩, .bool false] 44)).drew from HFx.out).below k4 (by simp)))
              all_goals (go_wp2_with fail)
              all_goals go_meet
              all_goals first
                | exact ⟨rfl, w4.heap.size, rfl, HB4.out.size, by simp, Lib.hid (Boxed.new vk vi vs vb w4 44), HB6⟩
                | exact ⟨rfl, wr.heap.size, rfl, Nat.le_refl _, by rw [size_set4]; exact HS4.out, Lib.hid (HX4.out.set vk vi vs vb), HB6⟩
            case rest =>
              obtain ⟨rfl, P, rfl, hP0, hP1, HBP, HBW⟩ := hcut
              have HG1 := Lib.hid (HG.out.below HBW.out)
              have hO1 := HG1.out.own
              rw [← HAn.out] at hO1
              have HO1 := Lib.hid hO1
              clear hO1
              obtain ⟨p0, p1, p2, p3⟩ := HBP.out
              obtain ⟨b0', b1', g0', g1'⟩ := HG1.out.box.cells
              obtain ⟨e0', e1', r0', r1'⟩ := HG1.out.cells
              have hwl1 := HG1.out.lt
              by_cases h0 : er = 0
              · subst h0
                have HMo2 := Lib.hid (HMo.out rfl)
                have hg2 := HGd.out rfl
                have HD2' : Hid (allD (A ++ [⟨vk, vi, vs, vb⟩])) := Lib.hid (fun v hv => by
                  rcases List.mem_append.1 hv with h | h
                  · exact HD.out v h
                  · rw [List.mem_singleton] at h; subst h; exact hg2.1)
                clear hg2 HMo HBa HGd HBP HB HO HG
                go_wp2_with (at_builtin; refine wpList_append_own _ rfl _ _ 27 rfl (w.heap.size + 1 + 1) 44 j0 (.agg #[.int .i64 0, .int .i64 0, .string ⟨#[]⟩, .bool false]) 4 40 Tryz.underlying27 HI.out HZ0.out HZ1.out HZ2.out rfl (by decide) _ _ _ rfl (HO1.out.alloc _) _ 1 1 [.int .i64 vk, .int .i64 vi, .string vs, .bool vb] rfl rfl ?c1 ?c2 ?c3 ?c4 ?c5 ?_)
                case c2 => exact ⟨rfl, rfl, rfl, rfl⟩
                case c3 => unfold maxLen; omega
                case c4 => omega
                case c5 => first | omega | (simp; omega)
                intro v' w2 hown' hgrow _
                obtain ⟨va, vc, rfl⟩ := cs_own hown'
                have hGa := HG1.out.below ((Below.refl wc.heap.size wc).alloc (Nat.le_refl _) (.cells #[.int .i64 vk, .int .i64 vi, .string vs, .bool vb] 44))
                have hown2 : w2.ownsRow (w.heap.size + 1 + 1) 44 4 (.slice va (n + 1) vc) (A ++ [(⟨vk, vi, vs, vb⟩ : Vd)]).length (cellsV (A ++ [⟨vk, vi, vs, vb⟩])) := by rw [cellsV_app, List.length_append, ← HAn.out]; exact hown'
                have HG3 := Lib.hid (hGa.more hgrow hown2)
                have hev2 := (hgrow.block (w.heap.size + 1) hGa.lt (fun e => by have := (HO1.out.lt _ e.symm).1; omega)).trans hGa.ev
                have e2' : w2.cell? ⟨w.heap.size + 1, 1, none⟩ = some (.slice oa n oc) := by rw [cell_of_row w2 _ 1 _ _ _ hev2]; rfl
                have r2' := frozen_of_row w2 _ 1 _ _ hev2
                clear hGa hown2 hown' hgrow hev2 HG1 HO1
                go_wp2_with fail
                go_roundw
                case rel => exact ⟨n + 1, A ++ [⟨vk, vi, vs, vb⟩], _, by omega, by go_num, by rw [List.length_append, ← HAn.out]; rfl, HMo2, HD2', HG3⟩
                case measure => simp [intOf]; omega
              · have t4 : ((er : Int) != 0) = true := by simpa using h0
                have HV := Lib.hid (HNo.out _ (HBa.out h0))
                have w2 : IntKind.i64.wrap ((n : Int) + 2) = ((n + 2 : Nat) : Int) := by rw [IntKind.wrap_i64]; omega
                clear h0 HMo HBa HGd
                go_wp2_with fail
                (try simp only [Exit.inBlock, Exit.then])
                refine bodyPost_ret (v := .tuple #[.agg #[.string ⟨#[]⟩, .slice none 0 0], .int .i64 er, .int .i64 ((n + 2 : Nat) : Int)]) ?_ rfl ?_
                · refine ev_result3 rfl _ _ _ (a := ⟨w.heap.size, 0, none⟩) (by rfl) ?_ (by rfl) (by rfl)
                  go_simp
                · exact rof_no HV.out rfl (HG1.out.box.set _ _)
end Go.Proofs.YtmjchmamkjbgkaaGreatDoor
