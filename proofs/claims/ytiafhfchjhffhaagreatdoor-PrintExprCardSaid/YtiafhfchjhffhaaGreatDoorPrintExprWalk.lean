/- The walk of the law PrintExpr. -/
import Derived.Test.YtiafhfchjhffhaaGreatDoorPrAwake
import Derived.Test.YtiafhfchjhffhaaGreatDoorParNode
import Derived.Test.YtiafhfchjhffhaaGreatDoorLowPr3
import Derived.Test.YtiafhfchjhffhaaGreatDoorPrRefX
import Derived.Test.YtiafhfchjhffhaaGreatDoorLowTrF
import Derived.Test.YtiafhfchjhffhaaGreatDoorTreeRefSize
import Derived.BigQuiet
namespace Go.Proofs.YtiafhfchjhffhaaGreatDoor.printExpr
open Go.RowKit
set_option linter.unusedVariables false

def ts0 (L : List Ex) : Ts := ⟨id0, id0, ⟨⟨#[]⟩, [], 0, 0⟩, L, 0, []⟩
def tr0 (L : List Ex) : Tr := ⟨id0, [], [], [], [], id0, [], [ts0 L]⟩
def Y0 : TyT := ⟨0, 0, 0, 0, 0, 0, 0, 0, 43, 0⟩
theorem few0 (L : List Ex) : fewB (tr0 L) = true → L.length ≤ 40 ∧ ∀ x ∈ L, x.v.s.size ≤ 100 := fun h => by
  unfold fewB at h
  simp only [tr0, Bool.and_eq_true, List.all_cons, List.all_nil, Bool.and_true, ts0, decide_eq_true_eq, List.all_eq_true] at h
  exact ⟨h.2.1.1.2, h.2.2⟩
/-- The one transition of a tree that is made for its nodes alone. -/
abbrev tsA (a : Option Addr) (len cap : Nat) : Array Value := #[.string ⟨#[]⟩, .int .i64 0, .int .i64 0, .string ⟨#[]⟩, .int .i64 0, .int .i64 0, .string ⟨#[]⟩, .slice none 0 0, .int .i64 0, .int .i64 0, .slice a len cap, .int .i64 0, .slice none 0 0]
theorem tr0_in {T : TypeId} (a : Option Addr) (len cap : Nat) (L : List Ex) (w : World) (g : Nat) (hg : g = w.heap.size) (h : GIn rEx T False 10 w a len L) :
    TrIn Y0 False (w.alloc (.cells (tsA a len cap) 43)) [.string ⟨#[]⟩, .int .i64 0, .int .i64 0, .slice none 0 0, .slice none 0 0, .slice none 0 0, .slice none 0 0, .string ⟨#[]⟩, .int .i64 0, .int .i64 0, .slice none 0 0, .slice (some ⟨g, 0, none⟩) 1 1] (tr0 L) := by
  subst hg
  have hb : Below w.heap.size w (w.alloc (.cells (tsA a len cap) 43)) := (Below.refl _ _).alloc (Nat.le_refl _) _
  have h2 : GIn rEx 0 False 10 (w.alloc (.cells (tsA a len cap) 43)) a L.length L := by
    have h3 := h.belowF hb
    obtain ⟨e1, e2, e3⟩ := h3
    exact ⟨rfl, by rw [e1]; exact e2, fun n x hx => by
      obtain ⟨g, off, cs, q1, q2, q3, q4, q5, _⟩ := e3 n x hx
      exact ⟨g, off, cs, q1, q2, q3, q4, q5, fun h => h.elim⟩⟩
  have hl : L.length = len := h.leng
  refine ⟨⟨none, 0, none, 0, none, 0, none, 0, none, 0, some ⟨w.heap.size, 0, none⟩, 1, rfl, GIn.nil, GIn.nil, GIn.nil, GIn.nil, GIn.nil, ⟨rfl, by show 1 ≤ _; decide, fun n x hx => ?_⟩⟩, by show okS ⟨#[]⟩; unfold okS; decide, by show okS ⟨#[]⟩; unfold okS; decide⟩
  have hn : n = 0 := by
    have := (List.getElem?_eq_some_iff.1 hx).1
    have e : (tr0 L).ts.length = 1 := rfl
    omega
  subst hn
  have hx2 : ts0 L = x := Option.some.inj hx
  subst hx2
  refine ⟨w.heap.size, 0, (tsA a len cap).toList, rfl, by simp, rfl, fun j v hj => ?_, ⟨none, 0, a, cap, none, 0, by rw [show (ts0 L).ns.length = len from hl]; rfl, GIn.nil, h2, GIn.nil, by show okS ⟨#[]⟩; unfold okS; decide, by show okS ⟨#[]⟩; unfold okS; decide, by show okS ⟨#[]⟩; unfold okS; decide⟩, fun h => h.elim⟩
  rw [Nat.zero_mul, Nat.zero_add, World.cell?_alloc_at (hn := rfl)]
  simpa using hj

set_option maxHeartbeats 16000000 in
set_option maxRecDepth 100000 in
theorem walk_few (a : Option Addr) (len cap : Nat) (L : List Ex) (i : Int) (w : World) (h : GIn rEx 0 False 10 w a len L) (hT : LexT w) (het : ErrT w) (hL : Laid w) (hK : Toks w) (hf : fewB (tr0 L) = false) :
    Calls Tryz.prog 4 #[.slice a len cap, .int .i64 i] w fun e w' => e = .returned (.bool true) ∧ Below w.heap.size w w' := by
  have HAw := Lib.hid (fun w1 (hb : Below w.heap.size w w1) => prAwake_calls w1 (hT.below hb) (het.below hb) (hL.below hb) (hK.below hb))
  have HA1 := Lib.hid ((Below.refl w.heap.size w).alloc (Nat.le_refl _) (.cells (tsA a len cap) 43))
  obtain ⟨g, hg⟩ : ∃ g, g = w.heap.size := ⟨_, rfl⟩
  have HF := Lib.hid (few_calls (tr0 L) _ _ (tr0_in a len cap L w g hg h))
  have hG := hg
  rw [hf] at HF
  clear h hT het hL hK hf hg
  go_enter Tryz.func4, Tryz.ntmps4
  go_wp2_with fail
  rw [← hG]
  refine HF.out.mono ?_
  rintro e w1 ⟨rfl, k1⟩
  have HB1 := Lib.hid (HA1.out.trans (k1.mono HA1.out.size))
  clear k1 hG HF
  have H1 := Lib.hid (HAw.out w1 HB1.out)
  go_wp2_with fail
  refine H1.out.mono ?_
  rintro e w9 ⟨rfl, k9⟩
  have HB9 := Lib.hid (HB1.out.trans (k9.mono HB1.out.size))
  clear k9
  go_wp2_with fail
  go_ret
  exact ⟨by rfl, HB9.out⟩

set_option maxHeartbeats 16000000 in
set_option maxRecDepth 100000 in
theorem walk_none (a : Option Addr) (len cap : Nat) (L : List Ex) (i : Int) (w : World) (h : GIn rEx 0 False 10 w a len L) (hT : LexT w) (het : ErrT w) (hL : Laid w) (hK : Toks w) (hf : fewB (tr0 L) = true) (hz : sizeT L i = 0) :
    Calls Tryz.prog 4 #[.slice a len cap, .int .i64 i] w fun e w' => e = .returned (.bool true) ∧ Below w.heap.size w w' := by
  have HAw := Lib.hid (fun w1 (hb : Below w.heap.size w w1) => prAwake_calls w1 (hT.below hb) (het.below hb) (hL.below hb) (hK.below hb))
  have HA1 := Lib.hid ((Below.refl w.heap.size w).alloc (Nat.le_refl _) (.cells (tsA a len cap) 43))
  obtain ⟨g, hg⟩ : ∃ g, g = w.heap.size := ⟨_, rfl⟩
  have HF := Lib.hid (few_calls (tr0 L) _ _ (tr0_in a len cap L w g hg h))
  have hG := hg
  rw [hf] at HF
  have hlen : len ≤ 40 := by rw [← h.leng]; exact (few0 L hf).1
  have HP := Lib.hid (fun w1 (hb : Below w.heap.size w w1) => printExprNo_calls a len cap L i w1 (h.belowF hb) (hT.wds.below hb) (by omega) (.inl hz))
  have HS := Lib.hid (fun w1 (hb : Below w.heap.size w w1) => refSize_calls a len cap L w h (by omega) _ i (Nat.le_refl _) w1 hb)
  rw [hz] at HS
  have n1 : (⟨#[]⟩ : ByteArray).toList = [] := by rw [cs_tl]
  clear h hT het hL hK hf hg hz
  go_enter Tryz.func4, Tryz.ntmps4
  go_wp2_with fail
  rw [← hG]
  refine HF.out.mono ?_
  rintro e w1 ⟨rfl, k1⟩
  have HB1 := Lib.hid (HA1.out.trans (k1.mono HA1.out.size))
  clear k1 hG HF
  go_wp2_with fail
  refine (HP.out _ HB1.out).mono ?_
  rintro e w2 ⟨rfl, k1⟩
  have HB2 := Lib.hid (HB1.out.trans (k1.mono HB1.out.size))
  clear k1
  go_wp2_with fail
  refine (HS.out _ HB2.out).mono ?_
  rintro e w3 ⟨rfl, k1⟩
  have HB3 := Lib.hid (HB2.out.trans (k1.mono HB2.out.size))
  clear k1
  have H1 := Lib.hid (HAw.out w3 HB3.out)
  go_wp2_with fail
  refine H1.out.mono ?_
  rintro e w9 ⟨rfl, k9⟩
  have HB9 := Lib.hid (HB3.out.trans (k9.mono HB3.out.size))
  clear k9
  go_wp2_with fail
  go_ret
  exact ⟨by rfl, HB9.out⟩

set_option maxHeartbeats 16000000 in
set_option maxRecDepth 100000 in
theorem walk_is (a : Option Addr) (len cap : Nat) (L : List Ex) (n : Nat) (w : World) (h : GIn rEx 0 False 10 w a len L) (hT : LexT w) (het : ErrT w) (hL : Laid w) (hK : Toks w) (hf : fewB (tr0 L) = true) (e : Et) (hi : IsE L n e) (ho : e.ok) :
    Calls Tryz.prog 4 #[.slice a len cap, .int .i64 n] w fun e w' => e = .returned (.bool true) ∧ Below w.heap.size w w' := by
  have HAw := Lib.hid (fun w1 (hb : Below w.heap.size w w1) => prAwake_calls w1 (hT.below hb) (het.below hb) (hL.below hb) (hK.below hb))
  have HA1 := Lib.hid ((Below.refl w.heap.size w).alloc (Nat.le_refl _) (.cells (tsA a len cap) 43))
  obtain ⟨g, hg⟩ : ∃ g, g = w.heap.size := ⟨_, rfl⟩
  have HF := Lib.hid (few_calls (tr0 L) _ _ (tr0_in a len cap L w g hg h))
  have hG := hg
  rw [hf] at HF
  obtain ⟨hl40, hs100⟩ := few0 L hf
  have hlen : len ≤ 40 := by rw [← h.leng]; exact hl40
  obtain ⟨hz, hd⟩ := is_size L e n hi ho
  have hnum : e.num ≤ 40 := by
    have h1 := isE_num L e n hi
    have hn : n < L.length := by
      refine Nat.lt_of_not_le (fun k => ?_)
      have := sizeT_out (l := L) (i := (n : Nat)) (.inr (by omega))
      rw [hz] at this
      have := num_pos e
      omega
    omega
  have hdep : e.dep ≤ 64 := by have := dep_num e; omega
  have htx : e.tx.length ≤ 40 * 509 := Nat.le_trans (tx_few 500 e (few_of L hs100 e n hi ho)) (Nat.mul_le_mul_right _ hnum)
  obtain ⟨M, hM, hML⟩ := expr_back ho hdep (by omega)
  obtain ⟨hMl, s, hsn, hat⟩ := opn_at hi hML
  have HP := Lib.hid (fun w1 (hb : Below w.heap.size w w1) => printExpr_calls a len cap L n e w1 (h.belowF hb) (hT.wds.below hb) (by omega) (hK.below hb) (hL.below hb) hi ho hdep (by omega))
  have HS := Lib.hid (fun w1 (hb : Below w.heap.size w w1) => refSize_calls a len cap L w h (by omega) _ n (Nat.le_refl _) w1 hb)
  rw [hz] at HS
  have HR := Lib.hid (fun w1 (hb : Below w.heap.size w w1) => refExprP_calls w a len cap L h e n hi ho (by omega) w1 hb)
  obtain ⟨ea, hv⟩ := hL.1.2
  have HX : Hid (∀ w1, Below w.heap.size w w1 → Calls Tryz.prog 20 #[.string ⟨e.tx.toArray⟩] w1 fun e' w' => ∃ va vc, e' = .returned (.tuple #[.slice va e.num vc, .agg #[.int .i64 0, .int .i64 0, .int .i64 0]]) ∧ NsAt w1.heap.size w' (.slice va e.num vc) M ∧ Below w1.heap.size w1 w') := Lib.hid (fun w1 hb => (exprF_calls ⟨e.tx.toArray⟩ ea w1 (by rw [lx_size]; omega) (hT.below hb) (het.below hb) (errR_below hv hb)).mono (by
    rw [show (⟨e.tx.toArray⟩ : ByteArray).data.toList = e.tx from rfl, hM]
    rintro e' w' ⟨⟨v, he, hn⟩, hb⟩
    obtain ⟨va, vc, rfl⟩ := hn.slice
    rw [hMl] at he hn
    exact ⟨va, vc, he, hn, hb⟩))
  have HH := Lib.hid h
  have HML := Lib.hid hMl
  have HAT := Lib.hid hat
  generalize hs : (⟨e.tx.toArray⟩ : ByteArray) = t at HP HR HX
  obtain ⟨m, hm⟩ : ∃ m, m = e.num := ⟨_, rfl⟩
  have hm1 : 1 ≤ m := by rw [hm]; exact num_pos e
  rw [← hm] at HS HX HML HAT hsn hnum
  have q1 : ∀ w1, (Op.equalIn 10000 46 (.agg #[.int .i64 0, .int .i64 0, .int .i64 0]) (.agg #[.int .i64 0, .int .i64 0, .int .i64 0])).run Tryz.prog w1 = .ok true w1 := fun w1 => failEq 0 0 0 0 0 0 w1
  have q2 := failGuard
  have q3 := guardV
  have t1 : ((m : Int) == 0) = false := by rw [beq_eq_false_iff_ne]; omega
  have hlt : n < 40 := by
    refine Nat.lt_of_not_le (fun k => ?_)
    have := sizeT_out (l := L) (i := (n : Nat)) (.inr (by omega))
    rw [hz] at this
    omega
  have hnl : s + m ≤ len := by
    have hn : n < L.length := by
      refine Nat.lt_of_not_le (fun k => ?_)
      have := sizeT_out (l := L) (i := (n : Nat)) (.inr (by omega))
      rw [hz] at this
      omega
    rw [← h.leng]; omega
  clear h hT het hL hK hf hg hi ho hz hd hdep htx hM hML hMl hat hv hs hm hl40 hs100
  go_enter Tryz.func4, Tryz.ntmps4
  go_wp2_with fail
  rw [← hG]
  refine HF.out.mono ?_
  rintro e w1 ⟨rfl, k1⟩
  have HB1 := Lib.hid (HA1.out.trans (k1.mono HA1.out.size))
  clear k1 hG HF
  go_wp2_with fail
  refine (HP.out _ HB1.out).mono ?_
  rintro e w2 ⟨rfl, k1⟩
  have HB2 := Lib.hid (HB1.out.trans (k1.mono HB1.out.size))
  clear k1 HP
  go_wp2_with fail
  refine (HS.out _ HB2.out).mono ?_
  rintro e w3 ⟨rfl, k1⟩
  have HB3 := Lib.hid (HB2.out.trans (k1.mono HB2.out.size))
  clear k1 HS
  go_wp2_with fail
  refine (HX.out _ HB3.out).mono ?_
  rintro e w4 ⟨va, vc, rfl, hn4, k1⟩
  have hA := (Below.refl w4.heap.size w4).alloc (Nat.le_refl _) (.cells #[.int .i64 0, .int .i64 0, .int .i64 0] 46)
  have HB4 := Lib.hid (HB3.out.trans (k1.mono HB3.out.size))
  have HB5 := Lib.hid (HB4.out.trans (hA.mono HB4.out.size))
  have HN5 := Lib.hid ((hn4.below hA).base HB3.out.size)
  have HK5 : Hid (Ho (w4.alloc (.cells #[.int .i64 0, .int .i64 0, .int .i64 0] 46)) w4.heap.size #[.int .i64 0, .int .i64 0, .int .i64 0] 46) := Lib.hid (Ho.new _ _ _ rfl)
  clear k1 hn4 hA HX
  go_upto_region 8 with fail
  generalize hW : w4.alloc (.cells #[.int .i64 0, .int .i64 0, .int .i64 0] 46) = w5 at HB5 HN5 HK5 ⊢
  obtain ⟨b, hb⟩ : ∃ b, b = w4.heap.size := ⟨_, rfl⟩
  rw [← hb] at HK5 ⊢
  clear hW hb
  go_wp2_with fail
  refine (HR.out _ HB5.out).mono ?_
  rintro e w6 ⟨rfl, k1⟩
  have HB6 := Lib.hid (HB5.out.trans (k1.mono HB5.out.size))
  have HN6 := Lib.hid (HN5.out.below k1)
  obtain ⟨c0, c1, c2, _, _, _⟩ := fl_cells (HK5.out.below k1)
  clear k1 HR HK5 HB5 HN5
  go_wp2_with fail
  clear c0 c1 c2
  go_loopw [9] (fun i wr => ∃ (j : Nat), j ≤ m ∧ i = .int .i64 j ∧ Hid (NsAt w.heap.size wr (.slice va m vc) M) ∧ Hid (Below w.heap.size w wr)) (fun i _ => m - (intOf i).toNat)
  case atStart => exact ⟨0, Nat.zero_le _, rfl, HN6, HB6⟩
  case round =>
    clear HN6 HB6
    obtain ⟨j, hj, rfl, HV, HB⟩ := hrel
    by_cases hjm : j < m
    case neg =>
      have H1 := Lib.hid (HAw.out wr HB.out)
      go_wp2_with fail
      refine H1.out.mono ?_
      rintro e w9 ⟨rfl, k9⟩
      have HB9 := Lib.hid (HB.out.trans (k9.mono HB.out.size))
      clear k9
      go_wp2_with fail
      go_ret
      exact ⟨by rfl, HB9.out⟩
    case pos =>
      obtain ⟨x, y, hx, hy, e1, e2, e3⟩ := HAT.out j hjm
      obtain ⟨gx, gc, e9, hgx, hc⟩ := NsAt.node HV.out hx
      simp only [Value.slice.injEq] at e9
      obtain ⟨rfl, -, -⟩ := e9
      obtain ⟨gy, off, rfl, hgy, _, hsm, hok, d0, d1, d2, d3, d4, d5, d6, d7, d8, d9⟩ := ex_gin HH.out hy HB.out
      have c0 : wr.cell? ⟨gx, j * 10, none⟩ = some (.int .i64 x.op) := hc 0 _ rfl
      have c3 : wr.cell? ⟨gx, j * 10 + 3, none⟩ = some (.string x.n) := hc 3 _ rfl
      have c4 : wr.cell? ⟨gx, j * 10 + 4, none⟩ = some (.int .i64 x.v.k) := hc 4 _ rfl
      have c5 : wr.cell? ⟨gx, j * 10 + 5, none⟩ = some (.int .i64 x.v.i) := hc 5 _ rfl
      have c6 : wr.cell? ⟨gx, j * 10 + 6, none⟩ = some (.string x.v.s) := hc 6 _ rfl
      have c7 : wr.cell? ⟨gx, j * 10 + 7, none⟩ = some (.bool x.v.b) := hc 7 _ rfl
      rw [e1] at c0
      rw [e2] at c3
      rw [e3] at c4 c5 c6 c7
      have q4 := eqIn y.v.k y.v.i y.v.s y.v.b y.v.k y.v.i y.v.s y.v.b
      rw [(eqB_iff _ _ _ _ _ _ _ _).2 ⟨rfl, rfl, rfl, rfl⟩] at q4
      obtain ⟨p, hp⟩ : ∃ p, p = s + j := ⟨_, rfl⟩
      rw [← hp] at d0 d1 d2 d3 d4 d5 d6 d7 d8 d9
      have hi1 : (n : Int) - (m : Int) + 1 + (j : Int) = (p : Int) := by omega
      have hpl : p < len := by omega
      have hps : p < 40 := by omega
      have hA := (Below.refl wr.heap.size wr).alloc (Nat.le_refl _) (.cells (exA y) 58)
      have HB7 := Lib.hid (HB.out.trans (hA.mono HB.out.size))
      have HV7 := Lib.hid (HV.out.below hA)
      have hvb : gx < wr.heap.size := hgx
      clear hc hx hy e1 e2 e3 hok hA hp HAT
      go_wp2_with fail
      go_quiet (fail)
      go_wp2_with fail
      go_roundw
      case rel => exact ⟨j + 1, hjm, by go_num, Lib.hid (HV7.out.below (par_drewN (Below.refl _ _) _)), Lib.hid (par_drewN HB7.out _)⟩
      case measure => simp [intOf]; omega

theorem walk (a : Option Addr) (len cap : Nat) (L : List Ex) (i : Int) (w : World) (h : GIn rEx 0 False 10 w a len L) (hT : LexT w) (het : ErrT w) (hL : Laid w) (hK : Toks w) :
    Calls Tryz.prog 4 #[.slice a len cap, .int .i64 i] w fun e w' => e = .returned (.bool true) ∧ Below w.heap.size w w' := by
  cases hf : fewB (tr0 L) with
  | false => exact walk_few a len cap L i w h hT het hL hK hf
  | true =>
    by_cases hz : sizeT L i = 0
    · exact walk_none a len cap L i w h hT het hL hK hf hz
    · obtain ⟨n, rfl⟩ : ∃ n : Nat, i = n := ⟨i.toNat, by
        have : ¬ i < 0 := fun k => hz (sizeT_out (.inl k))
        omega⟩
      obtain ⟨e, hi, ho, _, _⟩ := is_of (l := L) (fun x hx => by
        obtain ⟨k, hk⟩ := List.mem_iff_getElem?.1 hx
        obtain ⟨_, _, _, _, _, hok⟩ := h.flat hk
        exact hok.2.2) n hz
      exact walk_is a len cap L n w h hT het hL hK hf e hi ho
end Go.Proofs.YtiafhfchjhffhaaGreatDoor.printExpr
