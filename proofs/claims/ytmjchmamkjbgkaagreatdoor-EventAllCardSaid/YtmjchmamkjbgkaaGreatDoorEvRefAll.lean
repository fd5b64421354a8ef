/- All events of a log, as the reference has them. -/
import Derived.Test.YtmjchmamkjbgkaaGreatDoorLowEvL
import Derived.Test.YtmjchmamkjbgkaaGreatDoorLowEvR
import Derived.Test.YtmjchmamkjbgkaaGreatDoorLowCsvR
namespace Go.Proofs.YtmjchmamkjbgkaaGreatDoor
open Go.RowKit
set_option linter.unusedVariables false

/-- Rows of a text are short. -/
theorem allR_rows : ∀ (n : Nat) (l : List UInt8), l.length ≤ n → ∀ row ∈ (allR l).1, (∀ f ∈ row, f.length ≤ 4096) ∧ row.length ≤ l.length + 1
  | n, l, hn, row, hrow => by
    by_cases hl : l = []
    · subst hl; rw [allR_nil] at hrow; simp at hrow
    · cases h : rowR l with
      | error e =>
        obtain ⟨e, c⟩ := e
        rw [allR_err hl h] at hrow; simp at hrow
      | ok p =>
        obtain ⟨fs, r⟩ := p
        rw [allR_ok hl h] at hrow
        obtain ⟨h1, h2, h3, _⟩ := rowR_facts h
        rcases List.mem_cons.1 hrow with rfl | hrow
        · exact ⟨h3, by omega⟩
        · have hlt := h1 hl
          match n, hn with
          | 0, hn => omega
          | n + 1, hn =>
            have := allR_rows n r (by omega) row hrow
            exact ⟨this.1, by omega⟩
/-- So far, these events. -/
def evRX (L : List Dc) (l : List UInt8) (n : Nat) (M : List Ev) : Prop := M.length = n ∧ evR L l = (M ++ (evN L (allR l).2 ((allR l).1.drop n) n).1, (evN L (allR l).2 ((allR l).1.drop n) n).2)
theorem evRX_zero (L : List Dc) (l : List UInt8) : evRX L l 0 [] := ⟨rfl, by rw [List.drop_zero, List.nil_append]; rfl⟩
theorem rr_drop {RR : List (List (List UInt8))} {n : Nat} (h : n < RR.length) : RR.drop n = RR.getD n [] :: RR.drop (n + 1) := by
  rw [List.drop_eq_getElem_cons h]; simp [List.getD, h]
theorem evRX_more {L : List Dc} {l : List UInt8} {n : Nat} {M : List Ev} {y : Ev} (h : evRX L l n M) (hn : n < (allR l).1.length) (hof : ofL L ((allR l).1.getD n []) = .ok y) (hk : n ≠ 16384) : evRX L l (n + 1) (M ++ [y]) := by
  obtain ⟨h1, h2⟩ := h
  refine ⟨by rw [List.length_append, h1]; rfl, ?_⟩
  rw [h2, rr_drop hn, evN, hof]
  simp only
  rw [if_neg hk]
  simp
theorem evRX_bad {L : List Dc} {l : List UInt8} {n e c : Nat} {M : List Ev} (h : evRX L l n M) (hn : n < (allR l).1.length) (hof : ofL L ((allR l).1.getD n []) = .error (e, c)) : evR L l = (M, e, n + 1, c) := by
  obtain ⟨h1, h2⟩ := h
  rw [h2, rr_drop hn, evN, hof]
  simp
theorem evRX_many {L : List Dc} {l : List UInt8} {n : Nat} {M : List Ev} {y : Ev} (h : evRX L l n M) (hn : n < (allR l).1.length) (hof : ofL L ((allR l).1.getD n []) = .ok y) (hk : n = 16384) : evR L l = (M, 14, n + 1, 1) := by
  obtain ⟨h1, h2⟩ := h
  rw [h2, rr_drop hn, evN, hof]
  simp only
  rw [if_pos hk]
  simp
theorem evRX_end {L : List Dc} {l : List UInt8} {n : Nat} {M : List Ev} (h : evRX L l n M) (hn : n = (allR l).1.length) : evR L l = (M, (allR l).2) := by
  obtain ⟨h1, h2⟩ := h
  rw [h2, List.drop_eq_nil_iff.2 (by omega), evN]
  simp
def RefAllEvPost (z : List Ev × Nat × Nat × Nat) (w : World) (e : Ending) (w' : World) : Prop :=
  ∃ a cap, e = .returned (.tuple #[.slice a z.1.length cap, .int .i64 (z.2.2.1 : Nat), .int .i64 (z.2.2.2 : Nat), .int .i64 (z.2.1 : Nat)]) ∧ EvIn w' a z.1.length z.1 True ∧ Below w.heap.size w w'
theorem of_name {L : List Dc} {row : List (List UInt8)} {nm : ByteArray} {A : List Vd} (hsch : SchOk L) (hof : ofL L row = .ok (nm, A)) : nm.size ≤ 32 := by
  cases row with
  | nil => rw [of_nil] at hof; cases hof
  | cons y ys =>
    cases hf : findL L ⟨y.toArray⟩ with
    | none => rw [of_noname hf] at hof; cases hof
    | some i =>
      cases hr : readL (ksAt L i) ys 2 with
      | error e => rw [of_wrong hf hr] at hof; cases hof
      | ok B =>
        rw [of_good hf hr] at hof
        cases hof
        have h3 := find_lt hf
        rw [← h3.2]
        exact (hsch.2 i h3.1).2

set_option maxHeartbeats 8000000 in
set_option maxRecDepth 100000 in
theorem refAllEv_calls (la : Option Addr) (llen lcap : Nat) (L : List Dc) (s : ByteArray) (w : World) (hD : DIn w la llen L) (hsch : SchOk L) (hs : s.size ≤ 4000000) :
    Calls Tryz.prog 23 #[.slice la llen lcap, .string s] w (RefAllEvPost (evR L s.data.toList) w) := by
  have hls : s.data.toList.length = s.size := (sc_size s).symm
  have HC := Lib.hid (refAll_calls s w hs)
  obtain ⟨l, hl⟩ : ∃ l, l = s.data.toList := ⟨_, rfl⟩
  rw [← hl] at HC hls ⊢
  have HRw : Hid (∀ n, n < (allR l).1.length → (∀ f ∈ (allR l).1.getD n [], f.length ≤ 4096) ∧ ((allR l).1.getD n []).length ≤ 4000001) := Lib.hid (fun n hn => by
    have hm : (allR l).1.getD n [] ∈ (allR l).1 := by simp [List.getD, hn]
    have := allR_rows l.length l (Nat.le_refl _) _ hm
    exact ⟨this.1, by omega⟩)
  have HO := Lib.hid (fun a len cap row w2 (hb : Below w.heap.size w w2) (ht : TIn w2 a len row) hs2 hlen => refOf_calls la llen lcap L a len cap row w2 (hD.below hb) ht hsch hs2 hlen)
  have HNm := Lib.hid (fun row nm A h => of_name (row := row) (nm := nm) (A := A) hsch h)
  have HX0 := Lib.hid (evRX_zero L l)
  obtain ⟨i0, hi, hz0, hz1, hz2⟩ := cs_parts infoE
  have HI := Lib.hid hi
  have HZ0 := Lib.hid hz0
  have HZ1 := Lib.hid hz1
  have HZ2 := Lib.hid hz2
  clear hD hsch hs hl hls hi hz0 hz1 hz2
  go_enter Tryz.func23, Tryz.ntmps23
  go_wp2_with fail
  refine HC.out.mono ?_
  rintro e w1 ⟨ra, rcap, vs, rfl, hR, k1⟩
  obtain ⟨N, hN⟩ : ∃ N, N = (allR l).1.length := ⟨_, rfl⟩
  have hNs : N ≤ 9223372036854775807 := by rw [hN]; exact hR.small
  rw [← hN] at hR ⊢
  have HN := Lib.hid hN
  have HRI := Lib.hid hR
  have HB1 := Lib.hid k1
  obtain ⟨fe, hfe⟩ : ∃ fe, fe = (allR l).2.1 := ⟨_, rfl⟩
  obtain ⟨fl, hfl⟩ : ∃ fl, fl = (allR l).2.2.1 := ⟨_, rfl⟩
  obtain ⟨fc, hfc⟩ : ∃ fc, fc = (allR l).2.2.2 := ⟨_, rfl⟩
  rw [← hfe, ← hfl, ← hfc]
  have HFin : Hid ((allR l).2 = (fe, fl, fc)) := Lib.hid (by rw [hfe, hfl, hfc])
  clear hN hR k1 hfe hfl hfc HC
  go_wp2_with fail
  go_loopw [12, 13] (fun o i wr => ∃ (n : Nat) (M : List Ev) (us : List Value), n ≤ N ∧ n ≤ 16384 ∧ i = .int .i64 n ∧ Hid (evRX L l n M) ∧ Hid (wr.ownsRow w1.heap.size 29 2 o n (cellsE M us)) ∧ Hid (Es wr us M) ∧ Hid (Below w1.heap.size w1 wr)) (fun _ i _ => N - (intOf i).toNat)
  case atStart => exact ⟨0, [], [], Nat.zero_le _, Nat.zero_le _, rfl, HX0, Lib.hid (World.ownsRow_nil _ _ _ _), Lib.hid (Es.nil _), Lib.hid (Below.refl _ _)⟩
  case round =>
    obtain ⟨n, M, us, hn, hn6, rfl, HX, HO1, HS, HW⟩ := hrel
    obtain ⟨oa, oc, rfl⟩ := cs_own HO1.out
    have HM := Lib.hid HX.out.1
    have HB := Lib.hid (HB1.out.trans (HW.out.mono HB1.out.size))
    by_cases hlt : n < N
    case neg =>
      have HV : Hid (evR L l = (M, (fe, fl, fc))) := Lib.hid (by rw [evRX_end HX.out (by rw [← HN.out]; omega), HFin.out])
      obtain ⟨a2, c2, e2, hin⟩ := own_evin (by rw [HM.out]; exact HO1.out) HS.out
      rw [HM.out] at e2
      cases e2
      have HE := Lib.hid hin
      clear hin
      go_wp2_with fail
      (try simp only [Exit.inBlock, Exit.then])
      refine bodyPost_ret (v := .tuple #[.slice oa n oc, .int .i64 (fl : Nat), .int .i64 (fc : Nat), .int .i64 (fe : Nat)]) ?_ rfl ?_
      · rw [cs_result4 rfl]
        rfl
      · rw [HV.out]
        exact ⟨oa, oc, by rw [HM.out], HE.out, HB.out⟩
    case pos =>
      obtain ⟨g, off, rb, rc, rfl, hc, ht⟩ := HRI.out.at' HW.out hlt
      have hrw := HRw.out n (by rw [← HN.out]; exact hlt)
      have HE1 := Lib.hid (HO.out rb _ rc _ wr HB.out ht (fun f hf => by have := hrw.1 f hf; omega) (by omega))
      have HBad := Lib.hid (fun e c h => evRX_bad (e := e) (c := c) HX.out (by rw [← HN.out]; exact hlt) h)
      have HMany := Lib.hid (fun y h => evRX_many (y := y) HX.out (by rw [← HN.out]; exact hlt) h)
      have HMore := Lib.hid (fun y h => evRX_more (y := y) HX.out (by rw [← HN.out]; exact hlt) h)
      have HNm1 := Lib.hid (fun nm A h => HNm.out ((allR l).1.getD n []) nm A h)
      generalize (allR l).1.getD n [] = row at hc HE1 HBad HMany HMore HNm1
      obtain ⟨rl, hrl⟩ : ∃ rl, rl = row.length := ⟨_, rfl⟩
      rw [← hrl] at hc HE1
      have i1 : (0 : Int) ≤ (n : Int) := by omega
      have i2 : (n : Int) < (N : Int) := by omega
      have wr1 : IntKind.i64.wrap ((n : Int) + 1) = ((n + 1 : Nat) : Int) := by rw [IntKind.wrap_i64]; omega
      clear hrw ht hrl
      cases hof : ofL L row with
      | error e0 =>
        obtain ⟨er, ec⟩ := e0
        rw [hof] at HE1
        have her := (of_errs hof).1
        have t1 : ((er : Int) != 0) = true := by simpa using her
        have HV := Lib.hid (HBad.out er ec hof)
        clear hof her
        go_wp2_with fail
        refine HE1.out.mono ?_
        rintro e w2 ⟨he, k2⟩
        subst he
        have hba := (Below.refl w2.heap.size w2).alloc (Nat.le_refl _) (.cells #[.string ⟨#[]⟩, .slice none 0 0] 29)
        obtain ⟨a2, c2, e2, hin⟩ := own_evin (by rw [HM.out]; exact HO1.out) HS.out
        rw [HM.out] at e2
        cases e2
        have HE := Lib.hid ((hin.below k2).below hba)
        have HBf := Lib.hid ((HB.out.trans (k2.mono HB.out.size)).trans (hba.mono (HB.out.trans (k2.mono HB.out.size)).size))
        clear hin k2 hba
        go_wp2_with fail
        (try simp only [Exit.inBlock, Exit.then])
        refine bodyPost_ret (v := .tuple #[.slice oa n oc, .int .i64 ((n + 1 : Nat) : Int), .int .i64 (ec : Nat), .int .i64 (er : Nat)]) ?_ rfl ?_
        · rw [cs_result4 rfl]
          rfl
        · rw [HV.out]
          exact ⟨oa, oc, by rw [HM.out], HE.out, HBf.out⟩
      | ok y =>
        obtain ⟨nm, A⟩ := y
        rw [hof] at HE1
        by_cases h6 : n = 16384
        · have HV := Lib.hid (HMany.out (nm, A) hof h6)
          have t1 : ((n : Int) == 16384) = true := by rw [beq_iff_eq]; omega
          clear hof h6
          go_wp2_with fail
          refine HE1.out.mono ?_
          rintro e w2 ⟨⟨a, c, rfl, hv1, hv2⟩, k2⟩
          have hba := (Below.refl w2.heap.size w2).alloc (Nat.le_refl _) (.cells #[.string nm, .slice a A.length c] 29)
          obtain ⟨a2, c2, e2, hin⟩ := own_evin (by rw [HM.out]; exact HO1.out) HS.out
          rw [HM.out] at e2
          cases e2
          have HE := Lib.hid ((hin.below k2).below hba)
          have HBf := Lib.hid ((HB.out.trans (k2.mono HB.out.size)).trans (hba.mono (HB.out.trans (k2.mono HB.out.size)).size))
          clear hin k2 hba
          go_wp2_with fail
          (try simp only [Exit.inBlock, Exit.then])
          refine bodyPost_ret (v := .tuple #[.slice oa n oc, .int .i64 ((n + 1 : Nat) : Int), .int .i64 1, .int .i64 14]) ?_ rfl ?_
          · rw [cs_result4 rfl]
            rfl
          · rw [HV.out]
            exact ⟨oa, oc, by rw [HM.out]; rfl, HE.out, HBf.out⟩
        · have HXn := Lib.hid (HMore.out (nm, A) hof h6)
          have t1 : ((n : Int) == 16384) = false := by rw [beq_eq_false_iff_ne]; omega
          have HNs := Lib.hid (HNm1.out nm A hof)
          obtain ⟨q, hq⟩ : ∃ q, q = A.length := ⟨_, rfl⟩
          have HQ := Lib.hid hq
          rw [show (RefOfPost (.ok (nm, A)) wr : Ending → World → Prop) = fun ev w' => (∃ a cap, ev = .returned (.tuple #[.agg #[.string nm, .slice a q cap], .int .i64 0, .int .i64 0]) ∧ VIn w' a q A ∧ VObj w' a) ∧ Below wr.heap.size wr w' by rw [hq]; rfl] at HE1
          clear hof hq
          go_wp2_with fail
          refine HE1.out.mono ?_
          rintro e w2 ⟨⟨a, c, rfl, hv1, hv2⟩, k2⟩
          have hba := ((Below.refl w2.heap.size w2).alloc (Nat.le_refl _) (.cells #[.string nm, .slice a q c] 29)).alloc (by simp) (.cells #[.string nm, .slice a q c] 29)
          have HO2 := Lib.hid (cs_ownBelow HO1.out k2)
          have HSn := Lib.hid (((HS.out.below k2).below hba).snoc (x := nm) (A := A) (c := c) (by rw [← HQ.out]; exact hv1.below hba) (hv2.below hba) (by have := HNs.out; omega))
          have HB2 := Lib.hid (HW.out.trans (k2.mono HW.out.size))
          have HB2' := Lib.hid (HB.out.trans (k2.mono HB.out.size))
          have hus := HS.out.leng
          have HUs := Lib.hid hus
          clear k2 hba hv1 hv2 HO1 HS HW HE1 hus hc
          go_wp2_with (at_builtin; refine wpList_append_own _ rfl _ _ 46 rfl w1.heap.size 29 i0 (.agg #[.string ⟨#[]⟩, .slice none 0 0]) 2 40 Tryz.underlying46 HI.out HZ0.out HZ1.out HZ2.out rfl (by decide) _ _ _ rfl ((HO2.out.alloc _).alloc _) _ 1 1 [.string nm, .slice a q c] rfl rfl ?c1 ?c2 ?c3 ?c4 ?c5 ?_)
          case c1 => exact ev_new2 w2 _ _ _ _
          case c2 => intro u hu; simp at hu; rcases hu with rfl | rfl <;> rfl
          case c3 => unfold maxLen; omega
          case c4 => omega
          case c5 => have := HB2.out.size; simp; omega
          intro v' w3 hown' hgrow _
          have hW2 : w1.heap.size ≤ ((w2.alloc (.cells #[.string nm, .slice a q c] 29)).alloc (.cells #[.string nm, .slice a q c] 29)).heap.size := by have := HB2.out.size; simp; omega
          have hB3 := ((HB2.out.alloc HB2.out.size (.cells #[.string nm, .slice a q c] 29)).alloc (by have := HB2.out.size; simp; omega) (.cells #[.string nm, .slice a q c] 29)).grown hgrow hW2 (fun k hk => (HO2.out.lt k hk).1)
          have hO2a := (HO2.out.alloc (.cells #[.string nm, .slice a q c] 29)).alloc (.cells #[.string nm, .slice a q c] 29)
          have hO3 : w3.ownsRow w1.heap.size 29 2 v' (n + 1) (cellsE (M ++ [(nm, A)]) (us ++ [.slice a A.length c])) := by
            rw [cellsE_snoc M us (nm, A) _ HUs.out, ← HQ.out]; exact hown'
          have hS3 := HSn.out.kept hgrow.size (fun g hg => hgrow.block g hg.lt (hg.far hO2a (by decide)))
          obtain ⟨va, vc, rfl⟩ := cs_own hO3
          have HO3 := Lib.hid hO3
          have HS3 := Lib.hid hS3
          have HB3 := Lib.hid hB3
          clear hW2 hB3 hO2a hO3 hS3 hown' hgrow HO2 HSn HB2 HB2'
          go_wp2_with fail
          go_roundw
          case rel => exact ⟨n + 1, M ++ [(nm, A)], us ++ [.slice a A.length c], hlt, by omega, by go_num, HXn, HO3, HS3, HB3⟩
          case measure => simp [intOf]; omega
end Go.Proofs.YtmjchmamkjbgkaaGreatDoor
