/- The walk of the law EventBack: with any schema and any list of events it answers true. -/
import Derived.Test.YtmjchmamkjbgkaaGreatDoorEvAwake
import Derived.Test.YtmjchmamkjbgkaaGreatDoorLowEvL
import Derived.Test.YtmjchmamkjbgkaaGreatDoorLowEvR
import Derived.Deep.RegionHeld3
import Derived.BigQuiet
namespace Go.Proofs.YtmjchmamkjbgkaaGreatDoor.eventBack
open Go.RowKit
set_option linter.unusedVariables false

theorem field_short {v : Vd} (h : rightD v) : (fieldE v).length ≤ 4096 := by
  unfold fieldE
  split
  · have := right_size h.1
    rw [sc_size] at this; exact this
  · rename_i hk
    obtain ⟨k, i, s, b⟩ := v
    obtain ⟨h, hi⟩ := h
    simp only at h hi hk ⊢
    rcases right_kind h with rfl | rfl | rfl
    · rw [valText1 h]
      have := Lib.itoa_length_le i hi.1 hi.2
      omega
    · exact absurd rfl hk
    · rw [valText3 h]
      cases b <;> decide
theorem longF_zero : ∀ fs : List (List UInt8), (∀ f ∈ fs, f.length ≤ 4096) → longF fs = 0
  | [], _ => rfl
  | f :: r, h => by
    have h1 := h f (by simp)
    rw [longF, if_neg (by omega), longF_zero r (fun g hg => h g (by simp [hg])), if_pos rfl]
/-- An event of a schema, whose arguments' numbers fit. -/
structure EvOk (L : List Dc) (e : Ev) : Prop where
  right : rightE L e = true
  all : allD e.2
  name : e.1.size ≤ 32
  few : e.2.length ≤ 12
theorem row_short {L : List Dc} {e : Ev} (h : EvOk L e) : ∀ f ∈ rowE e, f.length ≤ 4096 := by
  intro f hf
  rcases List.mem_cons.1 hf with rfl | hf
  · rw [← sc_size]; have := h.name; omega
  · obtain ⟨v, hv, rfl⟩ := List.mem_map.1 hf
    exact field_short (h.all v hv)
theorem ok_of {L : List Dc} {e : Ev} (hsch : SchOk L) (h : rightE L e = true) (hfit : ∀ n, n < e.2.length → -9223372036854775808 ≤ (e.2.getD n default).i ∧ (e.2.getD n default).i ≤ 9223372036854775807) (hf : e.2.length ≤ 12) : EvOk L e := by
  obtain ⟨i, h2, h3⟩ := right_args h
  obtain ⟨h4, h5⟩ := find_lt h2
  refine ⟨h, ?_, ?_, hf⟩
  · have h6 := (rightA_len h3).2
    intro v hv
    obtain ⟨n, hn, rfl⟩ := List.mem_iff_getElem.1 hv
    have e1 : e.2.getD n default = e.2[n] := by simp [List.getD, hn]
    have h7 := h6 n hn
    have h8 := hfit n hn
    rw [e1] at h7 h8
    exact ⟨h7, h8⟩
  · have := (hsch.2 i h4).2
    rw [h5] at this; exact this
/-- The text of events' lines. -/
def btL : List Ev → List UInt8
  | [] => []
  | e :: EE => lineL (rowE e) ++ btL EE
theorem btL_snoc : ∀ (EE : List Ev) (e : Ev), btL (EE ++ [e]) = btL EE ++ lineL (rowE e)
  | [], e => by simp [btL]
  | x :: EE, e => by simp [btL, btL_snoc EE e]
theorem row_ne (e : Ev) : rowE e ≠ [] := by simp [rowE]
theorem step_back {L : List Dc} {e : Ev} {k : Nat} (h : EvOk L e) (hk : k ≠ 16384) (rest : List UInt8) : stepL L k (lineL (rowE e) ++ rest) = .ok (e, rest) := by
  have h1 := rowR_back rest (rowE e) (row_ne e)
  rw [← line_row (rowE e) rest (row_ne e), if_pos (longF_zero _ (row_short h))] at h1
  have hne : lineL (rowE e) ++ rest ≠ [] := by rw [line_row _ _ (row_ne e)]; simp
  refine step_ok hne h1 (of_back (fun n hn => ?_) h.right) hk
  have e1 : e.2.getD n default = e.2[n] := by simp [List.getD, hn]
  rw [e1]
  exact (h.all _ (List.getElem_mem hn)).2
theorem back_all {L : List Dc} : ∀ (EE : List Ev) (k : Nat), (∀ e ∈ EE, EvOk L e) → k + EE.length ≤ 16384 → evT L k (btL EE) = (EE, 0, 0, 0)
  | [], k, _, _ => by rw [btL, evT_stop (step_nil L k)]
  | e :: EE, k, h, hk => by
    rw [List.length_cons] at hk
    rw [btL, evT_more (step_back (h e (by simp)) (by omega) (btL EE)), back_all EE (k + 1) (fun x hx => h x (by simp [hx])) (by omega)]
theorem line_short {L : List Dc} {e : Ev} (h : EvOk L e) : costF (rowE e) ≤ 110000 ∧ (lineL (rowE e)).length ≤ 120000 := by
  have h1 := cost_le (rowE e) 4096 (row_short h)
  have h2 : (rowE e).length ≤ 13 := by rw [show (rowE e).length = e.2.length + 1 by simp [rowE]]; have := h.few; omega
  have h3 : (2 * 4096 + 3) * (rowE e).length ≤ (2 * 4096 + 3) * 13 := Nat.mul_le_mul_left _ h2
  have h4 := lineL_len (rowE e)
  omega
theorem btL_len {L : List Dc} : ∀ EE : List Ev, (∀ e ∈ EE, EvOk L e) → (btL EE).length ≤ 120000 * EE.length
  | [], _ => by simp [btL]
  | e :: EE, h => by
    have h1 := (line_short (h e (by simp))).2
    have h2 := btL_len EE (fun x hx => h x (by simp [hx]))
    rw [btL, List.length_append, List.length_cons, Nat.mul_add]
    omega
theorem ev_take {EE : List Ev} {n : Nat} (h : n < EE.length) : EE.take (n + 1) = EE.take n ++ [(enAt EE n, eaAt EE n)] := by
  rw [List.take_succ_eq_append_getElem h]
  have e : EE[n] = EE.getD n default := by simp [List.getD, h]
  rw [e]; rfl

set_option maxHeartbeats 8000000 in
set_option maxRecDepth 100000 in
theorem walk (la : Option Addr) (llen lcap : Nat) (L : List Dc) (b : Option Addr) (mlen mcap : Nat) (EE : List Ev) (w : World) (hl : DIn w la llen L) (he : EvIn w b mlen EE False) (hL : Laid w) (het : ErrT w) (hm : MaxC w) :
    Calls Tryz.prog 6 #[.slice la llen lcap, .slice b mlen mcap] w fun e w' => e = .returned (.bool true) ∧ Below w.heap.size w w' := by
  have HAw := Lib.hid (fun w1 (hb : Below w.heap.size w w1) => evAwake_calls w1 (hL.below hb) (het.below hb))
  have HR := Lib.hid (evR_calls la llen lcap L w hl)
  cases hrs : rightS L with
  | false =>
    rw [hrs] at HR
    clear hl he hL het hm hrs
    go_enter Tryz.func6, Tryz.ntmps6
    go_wp2_with fail
    refine HR.out.mono ?_
    rintro e w1 ⟨rfl, k1⟩
    have HB1 := Lib.hid k1
    clear k1
    go_wp2_with fail
    refine (HAw.out _ HB1.out).mono ?_
    rintro e w2 ⟨rfl, k2⟩
    go_wp2_with fail
    go_ret
    exact ⟨rfl, HB1.out.trans (k2.mono HB1.out.size)⟩
  | true =>
    rw [hrs] at HR
    obtain ⟨hsch, _⟩ := sch_of hrs
    by_cases hm12 : 12 < mlen
    · have t1 : decide ((12 : Int) < (mlen : Int)) = true := by simp; omega
      clear hl he hL het hm hrs hsch hm12
      go_enter Tryz.func6, Tryz.ntmps6
      go_wp2_with fail
      refine HR.out.mono ?_
      rintro e w1 ⟨rfl, k1⟩
      have HB1 := Lib.hid k1
      clear k1
      go_wp2_with fail
      refine (HAw.out _ HB1.out).mono ?_
      rintro e w2 ⟨rfl, k2⟩
      go_wp2_with fail
      go_ret
      exact ⟨rfl, HB1.out.trans (k2.mono HB1.out.size)⟩
    have t1 : decide ((12 : Int) < (mlen : Int)) = false := by simp; omega
    have HEI := Lib.hid (fun w1 (hb : Below w.heap.size w w1) => he.below hb)
    have HEl := Lib.hid he.leng
    have HRR := Lib.hid (fun (x : ByteArray) a q c (A : List Vd) w4 (hb : Below w.heap.size w w4) (v1 : VIn w4 a q A) => refEvRight_calls la llen lcap L x a q c A w4 (hl.below hb) v1)
    have HLn := Lib.hid (fun (x : ByteArray) a q c (A : List Vd) w4 (hb : Below w.heap.size w w4) (v1 : VIn w4 a q A) (hq : q ≤ 12) (hc : costF (rowE (x, A)) ≤ 110000) => evLine_calls x a q c A w4 v1 (by omega) (by omega) (hL.below hb) (hm.below hb))
    have HAll := Lib.hid (fun (t : ByteArray) w4 (hb : Below w.heap.size w w4) (ht : t.size ≤ 4000000) => allEv_calls la llen lcap L t w4 (hl.below hb) hsch ht (hL.below hb) (het.below hb) (hm.below hb))
    have HOk := Lib.hid (fun e h hfit hf => ok_of (L := L) (e := e) hsch h hfit hf)
    have q1 : ∀ w1, (Op.equalIn 10000 32 (.agg #[.int .i64 0, .int .i64 0, .int .i64 0]) (.agg #[.int .i64 0, .int .i64 0, .int .i64 0])).run Tryz.prog w1 = .ok true w1 := fun w1 => failEq 0 0 0 0 0 0 w1
    have q2 := failGuard
    clear hl he hL het hm hrs hsch
    go_enter Tryz.func6, Tryz.ntmps6
    go_wp2_with fail
    refine HR.out.mono ?_
    rintro e w1 ⟨rfl, k1⟩
    have HB1 := Lib.hid k1
    clear k1
    go_wp2_with fail
    go_loopw [5, 6] (fun o i wr => ∃ (n : Nat) (X : ByteArray), n ≤ mlen ∧ i = .int .i64 n ∧ o = .string X ∧ Hid (X.data.toList = btL (EE.take n)) ∧ Hid (∀ e ∈ EE.take n, EvOk L e) ∧ Hid (Below w.heap.size w wr)) (fun _ i _ => mlen - (intOf i).toNat)
    case atStart => exact ⟨0, ⟨#[]⟩, Nat.zero_le _, rfl, rfl, Lib.hid rfl, Lib.hid (fun e he => by simp at he), HB1⟩
    case round =>
      obtain ⟨n, X, hn, rfl, rfl, HX, HO, HB⟩ := hrel
      have hXs : X.size ≤ 1440000 := by
        have h1 := btL_len (EE.take n) HO.out
        have h2 : (EE.take n).length ≤ 12 := by rw [List.length_take]; omega
        have h3 : 120000 * (EE.take n).length ≤ 120000 * 12 := Nat.mul_le_mul_left _ h2
        rw [sc_size, HX.out]; omega
      by_cases hlt : n < mlen
      case pos =>
        obtain ⟨g, off, a, c, rfl, hg, m0, m1, m2, _, _⟩ := (HEI.out _ HB.out).at' n hlt
        have hfit := m2.fits
        have HTk := Lib.hid (ev_take (EE := EE) (n := n) (by rw [HEl.out]; exact hlt))
        obtain ⟨nm, hnm⟩ : ∃ nm, nm = enAt EE n := ⟨_, rfl⟩
        obtain ⟨A, hA⟩ : ∃ A, A = eaAt EE n := ⟨_, rfl⟩
        rw [← hnm] at m0 HTk
        rw [← hA] at m1 m2 hfit HTk
        obtain ⟨q, hq⟩ : ∃ q, q = A.length := ⟨_, rfl⟩
        rw [← hq] at m1 m2
        have HV := Lib.hid m2
        have i1 : (0 : Int) ≤ (n : Int) := by omega
        have i2 : (n : Int) < (mlen : Int) := by omega
        by_cases hq12 : 12 < q
        · have t2 : decide ((12 : Int) < (q : Int)) = true := by simp; omega
          clear hfit hnm hA hq hq12 m2 hXs
          go_wp2_with fail
          refine (HAw.out _ HB.out).mono ?_
          rintro e w2 ⟨rfl, k2⟩
          go_wp2_with fail
          go_ret
          exact ⟨rfl, HB.out.trans (k2.mono HB.out.size)⟩
        · have t2 : decide ((12 : Int) < (q : Int)) = false := by simp; omega
          have HR1 := Lib.hid (HRR.out nm a q c A wr HB.out HV.out)
          cases hr : rightE L (nm, A)
          · rw [hr] at HR1
            clear hfit hnm hA hq hq12 m2 hXs hr
            go_wp2_with fail
            refine HR1.out.mono ?_
            rintro e w2 ⟨rfl, k2⟩
            have HB2 := Lib.hid (HB.out.trans (k2.mono HB.out.size))
            clear k2
            go_wp2_with fail
            refine (HAw.out _ HB2.out).mono ?_
            rintro e w3 ⟨rfl, k3⟩
            go_wp2_with fail
            go_ret
            exact ⟨rfl, HB2.out.trans (k3.mono HB2.out.size)⟩
          · rw [hr] at HR1
            have hok := HOk.out (nm, A) hr (fun j hj => (hfit j hj).2) (by show A.length ≤ 12; omega)
            have hls := line_short hok
            have HL1 := Lib.hid (fun w4 hb v1 => HLn.out nm a q c A w4 hb v1 (by omega) hls.1)
            have HO2 : Hid (∀ e ∈ EE.take (n + 1), EvOk L e) := Lib.hid (fun e he => by
              rw [HTk.out] at he
              rcases List.mem_append.1 he with h | h
              · exact HO.out e h
              · rw [List.mem_singleton] at h; subst h; exact hok)
            obtain ⟨Y, hY⟩ : ∃ Y : ByteArray, Y = ⟨(lineL (rowE (nm, A))).toArray⟩ := ⟨_, rfl⟩
            have hYs : Y.size ≤ 120000 := by rw [hY, sc_size]; exact hls.2
            rw [← hY] at HL1
            have hcc := sc_hcat X Y (by omega)
            have HX2 : Hid ((X ++ Y).data.toList = btL (EE.take (n + 1))) := Lib.hid (by
              rw [sc_cat, HX.out, HTk.out, btL_snoc, hY])
            have HM := Lib.hid (And.intro m0 m1)
            clear hfit hnm hA hq hq12 m2 hXs hr hok hls hY hYs
            go_wp2_with fail
            refine HR1.out.mono ?_
            rintro e w2 ⟨rfl, k2⟩
            have HB2 := Lib.hid (HB.out.trans (k2.mono HB.out.size))
            have HV2 := Lib.hid (HV.out.below k2)
            have n0 := (k2.cell (block_lt_of_cell HM.out.1)).trans HM.out.1
            have n1 := (k2.cell (block_lt_of_cell HM.out.2)).trans HM.out.2
            clear k2 m0 m1
            go_wp2_with fail
            refine (HL1.out _ HB2.out HV2.out).mono ?_
            rintro e w3 ⟨rfl, k3⟩
            have HB3 := Lib.hid (HB2.out.trans (k3.mono HB2.out.size))
            clear k3
            go_wp2_with fail
            go_roundw
            case rel => exact ⟨n + 1, X ++ Y, hlt, by go_num, rfl, HX2, HO2, HB3⟩
            case measure => simp [intOf]; omega
      case neg =>
        have hnm : n = EE.length := by rw [HEl.out]; omega
        have hX := HX.out
        have hO := HO.out
        rw [hnm, List.take_length] at hX hO
        have hev : evR L X.data.toList = (EE, 0, 0, 0) := by rw [hX, ← evT_zero]; exact back_all EE 0 hO (by have := HEl.out; omega)
        have HA1 := HAll.out X wr HB.out (by omega)
        rw [hev] at HA1
        rw [show (AllEvPost (EE, 0, 0, 0) : World → Ending → World → Prop) = fun w1 e w' => ∃ a cap, e = .returned (.tuple #[.slice a mlen cap, .agg #[.int .i64 0, .int .i64 0, .int .i64 0]]) ∧ EvIn w' a mlen EE True ∧ Below w1.heap.size w1 w' by rw [← HEl.out]; rfl] at HA1
        have HA1 := Lib.hid HA1
        clear hnm hX hO hev hXs
        go_wp2_with fail
        refine HA1.out.mono ?_
        rintro e w2 ⟨a2, c2, rfl, hz, k2⟩
        have hb2 := HB.out.trans (k2.mono HB.out.size)
        have hx2 := (Below.refl w2.heap.size w2).alloc (Nat.le_refl _) (.cells #[.int .i64 0, .int .i64 0, .int .i64 0] 32)
        have HZ := Lib.hid (hz.below hx2)
        have HB2 := Lib.hid (hb2.trans (hx2.mono hb2.size))
        clear k2 hz hb2 hx2
        obtain ⟨W, hW⟩ : ∃ W, W = w2.alloc (.cells #[.int .i64 0, .int .i64 0, .int .i64 0] 32) := ⟨_, rfl⟩
        have HW := Lib.hid hW
        clear hW
        go_wp2_with fail
        rw [← HW.out] at HZ HB2 ⊢
        clear HW
        go_loopw [9] (fun i wr => ∃ (j : Nat), j ≤ mlen ∧ i = .int .i64 j ∧ Hid (Below W.heap.size W wr)) (fun i _ => mlen - (intOf i).toNat)
        case atStart => exact ⟨0, Nat.zero_le _, rfl, Lib.hid (Below.refl _ _)⟩
        case round =>
          obtain ⟨j, hj, rfl, HW⟩ := hrel
          have HBr := Lib.hid (HB2.out.trans (HW.out.mono HB2.out.size))
          by_cases hjl : j < mlen
          case neg =>
            go_wp2_with fail
            refine (HAw.out _ HBr.out).mono ?_
            rintro e w5 ⟨rfl, k5⟩
            go_wp2_with fail
            go_ret
            exact ⟨rfl, HBr.out.trans (k5.mono HBr.out.size)⟩
          case pos =>
            obtain ⟨g1, o1, b1, c1, rfl, _, m0, m1, m2, _, _⟩ := (HZ.out.below HW.out).at' j hjl
            obtain ⟨g2, o2, b3, c3, rfl, _, z0, z1, z2, _, _⟩ := (HEI.out _ HBr.out).at' j hjl
            generalize enAt EE j = nm at m0 z0
            generalize eaAt EE j = A at m1 m2 z1 z2
            have HS := Lib.hid (refEvSame_calls nm b1 A.length c1 A nm b3 A.length c3 A wr.drew (m2.below ((Below.refl _ _).drew)) (z2.below ((Below.refl _ _).drew)))
            rw [sameE_refl] at HS
            generalize A.length = q at m1 m2 z1 z2 HS
            have HC := Lib.hid (And.intro m0 (And.intro m1 (And.intro z0 z1)))
            have i1 : (0 : Int) ≤ (j : Int) := by omega
            have i2 : (j : Int) < (mlen : Int) := by omega
            clear m2 z2
            go_wp2_with fail
            go_region_held3 (fun W' => W'.cell? ⟨g1, o1 + j * 2, none⟩ = some (.string nm) ∧ W'.cell? ⟨g1, o1 + j * 2 + 1, none⟩ = some (.slice b1 q c1) ∧ W'.cell? ⟨g2, o2 + j * 2, none⟩ = some (.string nm) ∧ W'.cell? ⟨g2, o2 + j * 2 + 1, none⟩ = some (.slice b3 q c3)) (first | exact HC.out | exact HC4.out) (first
              | (go_at_call 13; refine HS.out.mono ?_; rintro e w6 ⟨rfl, k6⟩; have HK6 := Lib.hid (HW.out.drew.trans (k6.mono HW.out.size)); have HC4 := Lib.hid (show w6.cell? ⟨g1, o1 + j * 2, none⟩ = some (.string nm) ∧ w6.cell? ⟨g1, o1 + j * 2 + 1, none⟩ = some (.slice b1 q c1) ∧ w6.cell? ⟨g2, o2 + j * 2, none⟩ = some (.string nm) ∧ w6.cell? ⟨g2, o2 + j * 2 + 1, none⟩ = some (.slice b3 q c3) from ⟨(k6.cell (block_lt_of_cell HC.out.1)).trans HC.out.1, (k6.cell (block_lt_of_cell HC.out.2.1)).trans HC.out.2.1, (k6.cell (block_lt_of_cell HC.out.2.2.1)).trans HC.out.2.2.1, (k6.cell (block_lt_of_cell HC.out.2.2.2)).trans HC.out.2.2.2⟩); clear k6))
            go_wp2_with fail
            go_roundw
            case rel => exact ⟨j + 1, hjl, by go_num, HK6⟩
            case measure => simp [intOf]; omega
end Go.Proofs.YtmjchmamkjbgkaaGreatDoor.eventBack
