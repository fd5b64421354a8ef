/- The walk of the law EventAll: with any schema and any text it answers true. -/
import Derived.Test.YtmjchmamkjbgkaaGreatDoorEvAwake
import Derived.Test.YtmjchmamkjbgkaaGreatDoorEvRefAll
import Derived.Deep.RegionHeld3
import Derived.BigQuiet
namespace Go.Proofs.YtmjchmamkjbgkaaGreatDoor.eventAll
open Go.RowKit
set_option linter.unusedVariables false

/-- What is still to come. -/
theorem evD_next {L : List Dc} {n : Nat} {x : List UInt8} {EE : List Ev} {f : Nat × Nat × Nat} (h : evT L n x = (EE.drop n, f)) (hn : n < EE.length) : ∃ r, stepL L n x = .ok ((enAt EE n, eaAt EE n), r) ∧ evT L (n + 1) r = (EE.drop (n + 1), f) := by
  have e : EE.drop n = EE.getD n default :: EE.drop (n + 1) := by
    rw [List.drop_eq_getElem_cons hn]; simp [List.getD, hn]
  cases hs : stepL L n x with
  | error g => rw [evT_stop hs, e] at h; simp at h
  | ok p =>
    obtain ⟨y, r⟩ := p
    rw [evT_more hs, e] at h
    simp only [Prod.mk.injEq, List.cons.injEq] at h
    refine ⟨r, ?_, Prod.ext h.1.2 h.2⟩
    rw [h.1.1]; rfl
theorem evD_end {L : List Dc} {n : Nat} {x : List UInt8} {EE : List Ev} {f : Nat × Nat × Nat} (h : evT L n x = (EE.drop n, f)) (hn : n = EE.length) : stepL L n x = .error f := by
  rw [List.drop_eq_nil_iff.2 (show EE.length ≤ n by omega)] at h
  cases hs : stepL L n x with
  | error g => rw [evT_stop hs] at h; simp at h; rw [h]
  | ok p =>
    obtain ⟨y, r⟩ := p
    rw [evT_more hs] at h; simp at h
/-- What the law keeps: both lists of events, and the failure. -/
structure StA (w0 : World) (a b : Option Addr) (N : Nat) (EE : List Ev) (F fe fl fc : Nat) (W : World) : Prop where
  below : Below w0.heap.size w0 W
  m : EvIn W a N EE True
  z : EvIn W b N EE True
  ff : W.heap[F]? = some (.cells #[.int .i64 (fe : Nat), .int .i64 (fl : Nat), .int .i64 (fc : Nat)] 32 (0, 0))
theorem StA.step {w0 W W' : World} {a b : Option Addr} {N : Nat} {EE : List Ev} {F fe fl fc : Nat} (h : StA w0 a b N EE F fe fl fc W) (k : Below W.heap.size W W') : StA w0 a b N EE F fe fl fc W' :=
  ⟨h.below.trans (k.mono h.below.size), h.m.below k, h.z.below k, (k.block F (Array.getElem?_eq_some_iff.1 h.ff).1).trans h.ff⟩
theorem StA.kp {w0 W W' : World} {a b la : Option Addr} {N : Nat} {EE : List Ev} {F fe fl fc E R P llen lcap k : Nat} {x : ByteArray} (h : StA w0 a b N EE F fe fl fc W) (hl : Live W E R P la llen lcap k x) (hb : w0.heap.size ≤ E ∧ w0.heap.size ≤ R ∧ w0.heap.size ≤ P) (k : Kp (rdS E R P) W W') : StA w0 a b N EE F fe fl fc W' := by
  have key : ∀ g, CBlk W g 29 ∨ CBlk W g 44 → W'.heap[g]? = W.heap[g]? := fun g hg => by
    rcases hg with hg | hg
    · exact k.block g hg.lt (fun hs => live_not hl (by decide) (by decide) (by decide) g hs hg)
    · exact k.block g hg.lt (fun hs => live_not hl (by decide) (by decide) (by decide) g hs hg)
  exact ⟨k.to_below h.below h.below.size (by rintro g (rfl | rfl | rfl); exact hb.1; exact hb.2.1; exact hb.2.2), h.m.kept k.size key, h.z.kept k.size key, (k.block F (Array.getElem?_eq_some_iff.1 h.ff).1 (fun hs => live_not hl (by decide) (by decide) (by decide) F hs ⟨_, _, h.ff⟩)).trans h.ff⟩
theorem StA.cells {w0 W : World} {a b : Option Addr} {N : Nat} {EE : List Ev} {F fe fl fc : Nat} (h : StA w0 a b N EE F fe fl fc W) : W.cell? ⟨F, 0, none⟩ = some (.int .i64 (fe : Nat)) ∧ W.cell? ⟨F, 1, none⟩ = some (.int .i64 (fl : Nat)) ∧ W.cell? ⟨F, 2, none⟩ = some (.int .i64 (fc : Nat)) :=
  ⟨by rw [cell_of_row W F 0 _ _ _ h.ff]; rfl, by rw [cell_of_row W F 1 _ _ _ h.ff]; rfl, by rw [cell_of_row W F 2 _ _ _ h.ff]; rfl⟩

set_option maxHeartbeats 8000000 in
set_option maxRecDepth 100000 in
theorem walk (la : Option Addr) (llen lcap : Nat) (L : List Dc) (s : ByteArray) (w : World) (hl : DIn w la llen L) (hL : Laid w) (het : ErrT w) (hm : MaxC w) :
    Calls Tryz.prog 5 #[.slice la llen lcap, .string s] w fun e w' => e = .returned (.bool true) ∧ Below w.heap.size w w' := by
  have HAw := Lib.hid (fun w1 (hb : Below w.heap.size w w1) => evAwake_calls w1 (hL.below hb) (het.below hb))
  have HR := Lib.hid (evR_calls la llen lcap L w hl)
  cases hrs : rightS L with
  | false =>
    rw [hrs] at HR
    clear hl hL het hm hrs
    go_enter Tryz.func5, Tryz.ntmps5
    go_wp2_with fail
    refine HR.out.mono ?_
    rintro e w1 ⟨rfl, k1⟩
    have HB1 := Lib.hid k1
    clear k1
    go_wp2_with fail
    refine (HAw.out _ HB1.out).mono ?_
    rintro e w2 ⟨rfl, k2⟩
    go_wp2_with fail
    go_ret
    exact ⟨rfl, HB1.out.trans (k2.mono HB1.out.size)⟩
  | true =>
    rw [hrs] at HR
    obtain ⟨hsch, _⟩ := sch_of hrs
    by_cases hs2 : 20000 < s.size
    · have t1 : decide ((20000 : Int) < (s.size : Int)) = true := by simp; omega
      clear hl hL het hm hrs hsch hs2
      go_enter Tryz.func5, Tryz.ntmps5
      go_wp2_with fail
      refine HR.out.mono ?_
      rintro e w1 ⟨rfl, k1⟩
      have HB1 := Lib.hid k1
      clear k1
      go_wp2_with fail
      refine (HAw.out _ HB1.out).mono ?_
      rintro e w2 ⟨rfl, k2⟩
      go_wp2_with fail
      go_ret
      exact ⟨rfl, HB1.out.trans (k2.mono HB1.out.size)⟩
    have t1 : decide ((20000 : Int) < (s.size : Int)) = false := by simp; omega
    have HA := Lib.hid (fun w1 (hb : Below w.heap.size w w1) => allEv_calls la llen lcap L s w1 (hl.below hb) hsch (by omega) (hL.below hb) (het.below hb) (hm.below hb))
    have HQ := Lib.hid (fun w1 (hb : Below w.heap.size w w1) => refAllEv_calls la llen lcap L s w1 (hl.below hb) hsch (by omega))
    have HEv := Lib.hid (fun E R P k x w1 (hb : Below w.heap.size w w1) hbase (h : Live w1 E R P la llen lcap k x) hk hs => event_calls w E R P k x la llen lcap L w1 hl hsch hL het hm hb hbase h hk hs)
    have HN := Lib.hid (fun w1 => newEv_calls la llen lcap s w1)
    have h0 : evT L 0 s.data.toList = evR L s.data.toList := evT_zero _ _
    obtain ⟨EE, hEE⟩ : ∃ EE, EE = (evR L s.data.toList).1 := ⟨_, rfl⟩
    obtain ⟨fe, hfe⟩ : ∃ fe, fe = (evR L s.data.toList).2.1 := ⟨_, rfl⟩
    obtain ⟨fl, hfl⟩ : ∃ fl, fl = (evR L s.data.toList).2.2.1 := ⟨_, rfl⟩
    obtain ⟨fc, hfc⟩ : ∃ fc, fc = (evR L s.data.toList).2.2.2 := ⟨_, rfl⟩
    have hz : evR L s.data.toList = (EE, fe, fl, fc) := by rw [hEE, hfe, hfl, hfc]
    rw [hz] at HA HQ h0
    have HD0 : Hid (evT L 0 s.data.toList = (EE.drop 0, fe, fl, fc)) := Lib.hid (by rw [List.drop_zero]; exact h0)
    obtain ⟨N, hNe⟩ : ∃ N, N = EE.length := ⟨_, rfl⟩
    have HNe := Lib.hid hNe
    rw [show (AllEvPost (EE, fe, fl, fc) : World → Ending → World → Prop) = fun w1 e w' => ∃ a cap, e = .returned (.tuple #[.slice a N cap, .agg #[.int .i64 (fe : Nat), .int .i64 (fl : Nat), .int .i64 (fc : Nat)]]) ∧ EvIn w' a N EE True ∧ Below w1.heap.size w1 w' by rw [hNe]; rfl] at HA
    rw [show (RefAllEvPost (EE, fe, fl, fc) : World → Ending → World → Prop) = fun w1 e w' => ∃ a cap, e = .returned (.tuple #[.slice a N cap, .int .i64 (fl : Nat), .int .i64 (fc : Nat), .int .i64 (fe : Nat)]) ∧ EvIn w' a N EE True ∧ Below w1.heap.size w1 w' by rw [hNe]; rfl] at HQ
    have q1 : ∀ w1, (Op.equalIn 10000 32 (.agg #[.int .i64 0, .int .i64 0, .int .i64 0]) (.agg #[.int .i64 0, .int .i64 0, .int .i64 0])).run Tryz.prog w1 = .ok true w1 := fun w1 => failEq 0 0 0 0 0 0 w1
    have q3 : ∀ w1, (Op.equalIn 10000 32 (.agg #[.int .i64 (fe : Nat), .int .i64 (fl : Nat), .int .i64 (fc : Nat)]) (.agg #[.int .i64 (fe : Nat), .int .i64 (fl : Nat), .int .i64 (fc : Nat)])).run Tryz.prog w1 = .ok true w1 := fun w1 => by
      have := failEq fe fl fc fe fl fc w1
      simpa using this
    have q2 := failGuard
    clear hl hL het hm hrs hsch h0 hEE hfe hfl hfc hz hNe
    go_enter Tryz.func5, Tryz.ntmps5
    go_wp2_with fail
    refine HR.out.mono ?_
    rintro e w1 ⟨rfl, k1⟩
    have HB1 := Lib.hid k1
    clear k1
    go_wp2_with fail
    refine (HA.out _ HB1.out).mono ?_
    rintro e w2 ⟨a, ca, rfl, hm1, k2⟩
    have HB2 := Lib.hid (HB1.out.trans (k2.mono HB1.out.size))
    have hx2 := (Below.refl w2.heap.size w2).alloc (Nat.le_refl _) (.cells #[.int .i64 (fe : Nat), .int .i64 (fl : Nat), .int .i64 (fc : Nat)] 32)
    have HM2 := Lib.hid (hm1.below hx2)
    have HB2' := Lib.hid (HB2.out.alloc HB2.out.size (.cells #[.int .i64 (fe : Nat), .int .i64 (fl : Nat), .int .i64 (fc : Nat)] 32))
    have HF2 := Lib.hid (heap_alloc_new w2 (.cells #[.int .i64 (fe : Nat), .int .i64 (fl : Nat), .int .i64 (fc : Nat)] 32))
    clear k2 hm1 hx2
    go_wp2_with fail
    refine (HQ.out _ HB2'.out).mono ?_
    rintro e w3 ⟨b, cb, rfl, hz3, k3⟩
    have hS3 : StA w a b N EE w2.heap.size fe fl fc w3 := ⟨HB2'.out.trans (k3.mono HB2'.out.size), HM2.out.below k3, hz3, (k3.block _ (by simp)).trans HF2.out⟩
    have HS3 := Lib.hid hS3
    obtain ⟨f0, f1, f2⟩ := hS3.cells
    clear k3 hz3 hS3 HB2 HM2 HB2' HF2
    obtain ⟨F, hF⟩ : ∃ F, F = w2.heap.size := ⟨_, rfl⟩
    go_wp2_with fail
    refine (HN.out _).mono ?_
    rintro e w4 ⟨E, rfl, hE, hLv, k4⟩
    have HS4 := Lib.hid (HS3.out.step k4)
    have HL4 := Lib.hid hLv
    have hbs : w.heap.size ≤ E ∧ w.heap.size ≤ w3.heap.size + 1 ∧ w.heap.size ≤ w3.heap.size := by have := HS3.out.below.size; omega
    have HBs := Lib.hid hbs
    obtain ⟨R, hR⟩ : ∃ R, R = w3.heap.size + 1 := ⟨_, rfl⟩
    obtain ⟨P, hP⟩ : ∃ P, P = w3.heap.size := ⟨_, rfl⟩
    rw [← hR, ← hP] at HL4 HBs
    clear k4 hLv hE hbs hR hP f0 f1 f2 hF F HS3
    go_wp2_with fail
    go_loopw [12] (fun i wr => ∃ (n : Nat) (x : ByteArray), n ≤ N ∧ n ≤ 16384 ∧ x.size ≤ s.size ∧ i = .int .i64 n ∧ Hid (evT L n x.data.toList = (EE.drop n, fe, fl, fc)) ∧ Hid (StA w a b N EE w2.heap.size fe fl fc wr) ∧ Hid (Live wr E R P la llen lcap n x)) (fun i _ => N - (intOf i).toNat)
    case atStart => exact ⟨0, s, Nat.zero_le _, Nat.zero_le _, Nat.le_refl _, rfl, HD0, HS4, HL4⟩
    case round =>
      obtain ⟨n, x, hn, hn6, hxs, rfl, HD, HS, HLv⟩ := hrel
      by_cases hlt : n < N
      case pos =>
        obtain ⟨r, hst, hd2⟩ := evD_next HD.out (by rw [← HNe.out]; exact hlt)
        have HD2 := Lib.hid hd2
        obtain ⟨hrl, hn7, _, _, _⟩ := step_facts hst
        rw [← sc_size] at hrl
        have hrx : (⟨r.toArray⟩ : ByteArray).size ≤ s.size := by rw [sc_size]; show r.length ≤ _; omega
        have HE1 := Lib.hid (HEv.out E R P n x wr HS.out.below HBs.out HLv.out hn6 (by omega))
        rw [hst] at HE1
        obtain ⟨nm, hnm⟩ : ∃ nm, nm = enAt EE n := ⟨_, rfl⟩
        obtain ⟨A, hA⟩ : ∃ A, A = eaAt EE n := ⟨_, rfl⟩
        obtain ⟨q, hq⟩ : ∃ q, q = A.length := ⟨_, rfl⟩
        rw [← hnm, ← hA] at HE1
        rw [show (EvStep (.ok ((nm, A), r)) E R P la llen lcap n : Ending → World → Prop) = fun ev w' => (∃ a cap, ev = .returned (.tuple #[.agg #[.string nm, .slice a q cap], .bool true]) ∧ VIn w' a q A ∧ VObj w' a) ∧ Live w' E R P la llen lcap (n + 1) ⟨r.toArray⟩ by rw [hq]; rfl] at HE1
        have HNA := Lib.hid (And.intro hnm (And.intro hA hq))
        clear hst hd2 hnm hA hq
        go_wp2_with fail
        refine HE1.out.mono ?_
        rintro e w5 ⟨⟨⟨xa, xc, rfl, hv, _⟩, hlv⟩, k5⟩
        have hx5 := (Below.refl w5.heap.size w5).alloc (Nat.le_refl _) (.cells #[.string nm, .slice xa q xc] 29)
        have hS5 := (HS.out.kp HLv.out HBs.out k5).step hx5
        have HS5 := Lib.hid hS5
        have HV5 := Lib.hid (hv.below hx5)
        have HL5 := Lib.hid (hlv.below hx5)
        have hX5 := EBx.new nm (.slice xa q xc) w5 29
        obtain ⟨g1, o1, b1, c1, rfl, _, m0, m1, m2, _, _⟩ := hS5.m.at' n hlt
        obtain ⟨g2, o2, b2, c2, rfl, _, z0, z1, z2, _, _⟩ := hS5.z.at' n hlt
        obtain ⟨hnm, hA, hq⟩ := HNA.out
        rw [← hnm] at m0 z0
        rw [← hA, ← hq] at m1 m2 z1 z2
        obtain ⟨e0, _, _, _, _⟩ := HL5.out.ev.cells
        obtain ⟨r0, _, _, _, _, _⟩ := HL5.out.rd.cells
        have hx0 := hX5.1
        have hx1 := hX5.2
        obtain ⟨W, hW⟩ : ∃ W, W = w5.alloc (.cells #[.string nm, .slice xa q xc] 29) := ⟨_, rfl⟩
        obtain ⟨p, hp⟩ : ∃ p, p = w5.heap.size := ⟨_, rfl⟩
        have HW := Lib.hid hW
        have HP := Lib.hid hp
        rw [← hW] at HS5 HV5 HL5 m0 m1 m2 z0 z1 z2 e0 r0 hx0 hx1
        rw [← hp] at hx0 hx1
        have HA9 : Hid (∀ W', Below W.heap.size W W' → ((W'.cell? ⟨g1, o1 + n * 2, none⟩ = some (.string nm) ∧ W'.cell? ⟨g1, o1 + n * 2 + 1, none⟩ = some (.slice b1 q c1) ∧ W'.cell? ⟨g2, o2 + n * 2, none⟩ = some (.string nm) ∧ W'.cell? ⟨g2, o2 + n * 2 + 1, none⟩ = some (.slice b2 q c2) ∧ W'.cell? ⟨p, 0, none⟩ = some (.string nm) ∧ W'.cell? ⟨p, 1, none⟩ = some (.slice xa q xc) ∧ W'.cell? ⟨E, 0, none⟩ = some (.pointer (some ⟨R, 0, none⟩)) ∧ W'.cell? ⟨R, 0, none⟩ = some (.pointer (some ⟨P, 0, none⟩))) ∧ VIn W' xa q A ∧ VIn W' b1 q A ∧ VIn W' b2 q A ∧ Live W' E R P la llen lcap (n + 1) ⟨r.toArray⟩ ∧ StA w _ _ N EE w2.heap.size fe fl fc W')) := Lib.hid (fun W' k => ⟨⟨(k.cell (block_lt_of_cell m0)).trans m0, (k.cell (block_lt_of_cell m1)).trans m1, (k.cell (block_lt_of_cell z0)).trans z0, (k.cell (block_lt_of_cell z1)).trans z1, (k.cell (block_lt_of_cell hx0)).trans hx0, (k.cell (block_lt_of_cell hx1)).trans hx1, (k.cell (block_lt_of_cell e0)).trans e0, (k.cell (block_lt_of_cell r0)).trans r0⟩, HV5.out.below k, m2.below k, z2.below k, HL5.out.below k, HS5.out.step k⟩)
        have HSame := Lib.hid (fun (a : Option Addr) (c : Nat) (a' : Option Addr) (c' : Nat) w4 (v1 : VIn w4 a q A) (v2 : VIn w4 a' q A) => refEvSame_calls nm a q c A nm a' q c' A w4 v1 v2)
        rw [sameE_refl] at HSame
        have HRow := Lib.hid (fun w4 (h : Live w4 E R P la llen lcap (n + 1) ⟨r.toArray⟩) => row_calls R P (n + 1) 0 0 0 ⟨r.toArray⟩ w4 h.rd)
        have HFl := Lib.hid (fun w4 (h : Live w4 E R P la llen lcap (n + 1) ⟨r.toArray⟩) => failRd_calls E R P la llen lcap (n + 1) 0 0 0 ⟨r.toArray⟩ w4 h.ev h.rd)
        have HK0 := Lib.hid (Below.refl W.heap.size W)
        have HK1 := Lib.hid ((Below.refl W.heap.size W).drew)
        have i1 : (0 : Int) ≤ (n : Int) := by omega
        have i2 : (n : Int) < (N : Int) := by omega
        have wr1 : IntKind.i64.wrap ((n : Int) + 1) = (n : Int) + 1 := by rw [IntKind.wrap_i64]; omega
        clear k5 hx5 hS5 hv hlv hX5 hW hp m0 m1 m2 z0 z1 z2 e0 r0 hx0 hx1 hnm hA hq hrl HE1
        go_wp2_with fail
        rw [← HW.out, ← HP.out]
        clear HW HP
        go_region_held3 (fun W' => W'.cell? ⟨g1, o1 + n * 2, none⟩ = some (.string nm) ∧ W'.cell? ⟨g1, o1 + n * 2 + 1, none⟩ = some (.slice b1 q c1) ∧ W'.cell? ⟨g2, o2 + n * 2, none⟩ = some (.string nm) ∧ W'.cell? ⟨g2, o2 + n * 2 + 1, none⟩ = some (.slice b2 q c2) ∧ W'.cell? ⟨p, 0, none⟩ = some (.string nm) ∧ W'.cell? ⟨p, 1, none⟩ = some (.slice xa q xc) ∧ W'.cell? ⟨E, 0, none⟩ = some (.pointer (some ⟨R, 0, none⟩)) ∧ W'.cell? ⟨R, 0, none⟩ = some (.pointer (some ⟨P, 0, none⟩))) (first | exact (HA9.out _ HK0.out).1 | exact (HA9.out _ HK1.out).1 | exact (HA9.out _ HK6.out).1 | exact (HA9.out _ HK7.out).1 | exact (HA9.out _ HK8.out).1) (first
          | (go_at_call 13; refine (HSame.out xa _ b2 _ _ (HA9.out _ HK6.out).2.1 (HA9.out _ HK6.out).2.2.2.1).mono ?_; rintro e w7 ⟨rfl, k7⟩; have HK7 := Lib.hid (HK6.out.trans (k7.mono HK6.out.size)); clear k7)
          | (go_at_call 13; refine (HSame.out b1 _ b2 _ _ (HA9.out _ HK1.out).2.2.1 (HA9.out _ HK1.out).2.2.2.1).mono ?_; rintro e w6 ⟨rfl, k6⟩; have HK6 := Lib.hid (HK1.out.trans (k6.mono HK1.out.size)); clear k6)
          | (go_at_call 26; refine (HRow.out _ (HA9.out _ HK7.out).2.2.2.2.1).mono ?_; rintro e w8 ⟨rfl, hw8⟩; subst hw8)
          | (go_at_call 27; refine (HFl.out _ (HA9.out _ HK7.out).2.2.2.2.1).mono ?_; rintro e w8 ⟨he, k8⟩; simp only [failV] at he; subst he; have HK8 := Lib.hid (HK7.out.trans (k8.mono HK7.out.size)); clear k8))
        have HZ := Lib.hid ((HA9.out _ HK8.out).2.2.2.2)
        go_wp2_with fail
        go_roundw
        case rel => exact ⟨n + 1, ⟨r.toArray⟩, hlt, by omega, hrx, by go_num, HD2, Lib.hid HZ.out.2, Lib.hid HZ.out.1⟩
        case measure => simp [intOf]; omega
      case neg =>
        have hst := evD_end HD.out (by rw [← HNe.out]; omega)
        have HE1 := Lib.hid (HEv.out E R P n x wr HS.out.below HBs.out HLv.out hn6 (by omega))
        rw [hst] at HE1
        clear hst
        go_wp2_with fail
        refine HE1.out.mono ?_
        rintro e w5 ⟨⟨he, hd⟩, k5⟩
        simp only [noEv] at he
        subst he
        have hx5 := (Below.refl w5.heap.size w5).alloc (Nat.le_refl _) (.cells #[.string ⟨#[]⟩, .slice none 0 0] 29)
        have HS5 := Lib.hid ((HS.out.kp HLv.out HBs.out k5).step hx5)
        have HD5 := Lib.hid (hd.below hx5)
        have HE2 := Lib.hid (eventDone_calls E R P la llen lcap _ _ HD5.out)
        clear k5 hx5 hd HE1
        go_wp2_with fail
        refine HE2.out.mono ?_
        rintro e w6 ⟨he, k6⟩
        simp only [noEv] at he
        subst he
        have hx6 := (Below.refl w6.heap.size w6).alloc (Nat.le_refl _) (.cells #[.string ⟨#[]⟩, .slice none 0 0] 29)
        have HS6 := Lib.hid ((HS5.out.step k6).step hx6)
        have HD6 := Lib.hid ((HD5.out.below k6).below hx6)
        have HS7 := Lib.hid (HS6.out.step ((Below.refl _ _).drew))
        have HFd := Lib.hid (fun w4 (h : Done w4 E R P la llen lcap (fe, fl, fc)) => failDone_calls E R P la llen lcap (fe, fl, fc) w4 h)
        have HD7 := Lib.hid (HD6.out.below ((Below.refl _ _).drew))
        clear k6 hx6
        go_wp2_with fail
        go_region_held3 (fun W' => W'.cell? ⟨w2.heap.size, 0, none⟩ = some (.int .i64 (fe : Nat)) ∧ W'.cell? ⟨w2.heap.size, 1, none⟩ = some (.int .i64 (fl : Nat)) ∧ W'.cell? ⟨w2.heap.size, 2, none⟩ = some (.int .i64 (fc : Nat))) (first | exact HS6.out.cells | exact HS7.out.cells | exact HS8.out.cells | exact HS9.out.cells) (first
          | (go_at_call 27; refine (HFd.out _ HD7.out).mono ?_; rintro e w8 ⟨he, k8⟩; simp only [failV] at he; subst he; have HS8 := Lib.hid (HS7.out.step k8); clear k8)
          | (go_at_call 10; refine (HAw.out _ HS8.out.below).mono ?_; rintro e w9 ⟨rfl, k9⟩; have HS9 := Lib.hid (HS8.out.step k9); clear k9))
        all_goals (go_wp2_with fail)
        all_goals go_ret
        all_goals exact ⟨rfl, HS9.out.below⟩
end Go.Proofs.YtmjchmamkjbgkaaGreatDoor.eventAll
