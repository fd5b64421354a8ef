/- What the reference's First does: the token with which a text begins, or what is wrong. -/
import Derived.Test.YtbojhcfofgdoeaaDoorLexRef
import Derived.Test.YtbojhcfofgdoeaaDoorLexTk
import Derived.Test.YtbojhcfofgdoeaaDoorQuoteRefC
import Derived.Test.YtbojhcfofgdoeaaDoorScRefNames
namespace Go.Proofs.YtbojhcfofgdoeaaDoor
open Go.RowKit
set_option linter.unusedVariables false

/-- What First answers. -/
def cutW (k : Nat) (t : List UInt8) (n e : Nat) : Value := .tuple #[.agg #[.int .i64 (k : Nat), .string ⟨t.toArray⟩, .int .i64 0, .int .i64 0], .int .i64 (n : Nat), .int .i64 (e : Nat)]
def firstV : Except Nat (Nat × List UInt8 × Nat) → Value
  | .ok z => cutW z.1 z.2.1 z.2.2 0
  | .error e => cutW 0 [] 0 e
/-- The reference's token, in a block of its own, as it was made. -/
structure RkBox (N : Nat) (w W : World) : Prop where
  below : Below N w W
  tok : W.heap[N]? = some (.cells #[.int .i64 0, .string ⟨#[]⟩, .int .i64 0, .int .i64 0] 33 (0, 0))
theorem RkBox.new (w : World) : RkBox w.heap.size w (w.alloc (.cells #[.int .i64 0, .string ⟨#[]⟩, .int .i64 0, .int .i64 0] 33)) :=
  ⟨(Below.refl _ _).alloc (Nat.le_refl _) _, heap_alloc_new _ _⟩
theorem RkBox.lt {N : Nat} {w W : World} (h : RkBox N w W) : N < W.heap.size := (Array.getElem?_eq_some_iff.1 h.tok).1
theorem RkBox.step {N : Nat} {w W W' : World} (h : RkBox N w W) (k : Below W.heap.size W W') : RkBox N w W' := by
  have := h.lt
  exact ⟨h.below.trans (k.mono (by omega)), (k.block _ h.lt).trans h.tok⟩
theorem RkBox.cells {N : Nat} {w W : World} (h : RkBox N w W) : (W.cell? ⟨N, 0, none⟩ = some (.int .i64 0) ∧ W.cell? ⟨N, 1, none⟩ = some (.string ⟨#[]⟩) ∧ W.cell? ⟨N, 2, none⟩ = some (.int .i64 0) ∧ W.cell? ⟨N, 3, none⟩ = some (.int .i64 0)) ∧ W.frozen? ⟨N, 0, none⟩ = false ∧ W.frozen? ⟨N, 1, none⟩ = false ∧ W.frozen? ⟨N, 2, none⟩ = false ∧ W.frozen? ⟨N, 3, none⟩ = false :=
  ⟨⟨by rw [cell_of_row W _ 0 _ _ _ h.tok]; rfl, by rw [cell_of_row W _ 1 _ _ _ h.tok]; rfl, by rw [cell_of_row W _ 2 _ _ _ h.tok]; rfl, by rw [cell_of_row W _ 3 _ _ _ h.tok]; rfl⟩, frozen_of_row W _ 0 _ _ h.tok, frozen_of_row W _ 1 _ _ h.tok, frozen_of_row W _ 2 _ _ h.tok, frozen_of_row W _ 3 _ _ h.tok⟩
theorem refCutYes_calls (s : ByteArray) (w : World) (hs : s.size ≤ 4294967296) {t : List UInt8} (h : cutL s.data.toList = some t) :
    Calls Tryd.prog 28 #[.string s] w fun e w' => e = .returned (.tuple #[.string ⟨t.toArray⟩, .int .i64 ((quoteL t).length : Nat)]) ∧ Below w.heap.size w w' := by
  refine (refCut_calls s w hs).mono ?_
  rintro e w' ⟨t', n, ok, ht, rfl, hb⟩
  obtain ⟨y, hy⟩ := cut_some h
  obtain ⟨rfl, rfl, rfl⟩ := CutTold.same ht (.inl ⟨rfl, rfl, y, hy⟩ : CutTold s.data.toList t (quoteL t).length true)
  exact ⟨rfl, hb⟩
theorem refCutNo_calls (s : ByteArray) (w : World) (hs : s.size ≤ 4294967296) (h : cutL s.data.toList = none) :
    Calls Tryd.prog 28 #[.string s] w fun e w' => e = .returned (.tuple #[.string ⟨#[]⟩, .int .i64 0]) ∧ Below w.heap.size w w' := by
  refine (refCut_calls s w hs).mono ?_
  rintro e w' ⟨t', n, ok, ht, rfl, hb⟩
  obtain ⟨rfl, rfl, rfl⟩ := CutTold.same ht (.inr ⟨rfl, rfl, rfl, fun u y e => by have := cut_yes u y; rw [← e, h] at this; cases this⟩ : CutTold s.data.toList [] 0 false)
  exact ⟨rfl, hb⟩
/-- The token of letters, digits and _, as it is gone through. -/
theorem word_go {r : List UInt8} {c : UInt8} {t : ByteArray} (hc : r.head? = some c) (ht : t.data.toList = r) :
    wordT r = if digitB c = true then (if r.all digitB = false then .error 4 else if 1 < r.length ∧ c = 48 then .error 4 else if 32 < r.length then .error 3 else .ok (3, r, r.length))
      else if 32 < r.length then .error 3 else if (nameB t || lineB t) = true then .ok (1, r, r.length) else .ok (2, r, r.length) := by
  unfold wordT
  have hmk : (⟨r.toArray⟩ : ByteArray) = t := (sc_eq ht).symm
  rw [hc, hmk, line_list, ht]
  simp
theorem dgTo_all {r : List UInt8} {n : Nat} (h : twTo digitB r n) (hn : r.length ≤ n) : r.all digitB = true := by
  rw [List.all_eq_true]
  intro c hc
  exact h c (by rw [List.take_of_length_le hn]; exact hc)
theorem dg_bad {r : List UInt8} {n : Nat} {c : UInt8} (hc : r[n]? = some c) (e : digitB c = false) : r.all digitB = false := by
  rw [List.all_eq_false]
  exact ⟨c, List.mem_of_getElem? hc, by simpa using e⟩

set_option maxHeartbeats 8000000 in
set_option maxRecDepth 100000 in
theorem refFirst_calls (s : ByteArray) (w : World) (hs : s.size ≤ 65536) (h0 : 0 < s.size) :
    Calls Tryd.prog 15 #[.string s] w fun e w' => e = .returned (firstV (firstT s.data.toList)) ∧ Below w.heap.size w w' := by
  have HO := Lib.hid (RkBox.new w)
  obtain ⟨l, hl⟩ : ∃ l, l = s.data.toList := ⟨_, rfl⟩
  have HLn : Hid (l.length = s.size) := Lib.hid (by rw [hl, ← cs_size])
  have hh : l.head? = some s[0] := by rw [hl]; exact lx_head s h0
  have b34 := cs_beq s[0] 34 (by omega)
  have hne : ¬ s = ByteArray.empty := fun e => by rw [e] at h0; exact absurd h0 (by decide)
  rw [← hl]
  have HL := Lib.hid hl
  obtain ⟨FV, hFV⟩ : ∃ FV, FV = firstV (firstT l) := ⟨_, rfl⟩
  rw [← hFV]
  have HFV := Lib.hid hFV
  clear hFV
  by_cases h34 : s[0] = 34
  case pos =>
    have t34 : ((s[0].toNat : Int) == 34) = true := b34.trans (by rw [h34]; rfl)
    have hf : firstT l = match cutL l with | none => .error 17 | some t => if 4096 < t.length then .error 3 else .ok (4, t, (quoteL t).length) := by
      rw [firstT, if_pos (by rw [hh, h34])]
      cases cutL l <;> rfl
    clear b34 h34
    cases hc : cutL l with
    | none =>
      have HV : Hid (FV = cutW 0 [] 0 17) := Lib.hid (by rw [HFV.out, hf, hc]; rfl)
      have HX := Lib.hid (fun w1 => refCutNo_calls s w1 (by omega) (by rw [← hl]; exact hc))
      clear hf hc hl hh
      go_enter Tryd.func15, Tryd.ntmps15
      go_wp2_with fail
      refine (HX.out _).mono ?_
      rintro e w2 ⟨rfl, k2⟩
      have hO3 := HO.out.step k2
      have HO3 := Lib.hid hO3
      have hlt := hO3.lt
      obtain ⟨⟨c0, c1, c2, c3⟩, f0, f1, f2, f3⟩ := hO3.cells
      clear k2 hO3 HO HX
      go_wp2_with fail
      refine bodyPost_ret (v := cutW 0 [] 0 17) ?_ rfl ⟨by rw [HV.out], ?_⟩
      · refine lx_result3 rfl _ _ _ (a := ⟨w.heap.size, 0, none⟩) (by rfl) ?_ (by rfl) (by rfl)
        go_simp
      · exact tk_set4 HO3.out.below (Nat.le_refl _) _ _ _ _
    | some t =>
      have HX := Lib.hid (fun w1 => refCutYes_calls s w1 (by omega) (by rw [← hl]; exact hc))
      rw [hc] at hf
      simp only at hf
      obtain ⟨n, hn⟩ : ∃ n, n = (quoteL t).length := ⟨_, rfl⟩
      have hn0 : 2 ≤ n := by rw [hn, quote_len]; omega
      obtain ⟨x, hx⟩ : ∃ x : ByteArray, x = ⟨t.toArray⟩ := ⟨_, rfl⟩
      have hxs : x.size = t.length := by rw [hx, lx_size]
      rw [← hn, ← hx] at HX
      have tn : ((n : Int) == 0) = false := by rw [beq_eq_false_iff_ne]; omega
      by_cases hl4 : 4096 < t.length
      · rw [if_pos hl4] at hf
        have HV : Hid (FV = cutW 0 [] 0 3) := Lib.hid (by rw [HFV.out, hf]; rfl)
        have t1 : decide ((4096 : Int) < (x.size : Int)) = true := by rw [decide_eq_true_eq, hxs]; omega
        clear hf hc hl hh hxs hx hn hl4
        go_enter Tryd.func15, Tryd.ntmps15
        go_wp2_with fail
        refine (HX.out _).mono ?_
        rintro e w2 ⟨rfl, k2⟩
        have hO3 := HO.out.step k2
        have HO3 := Lib.hid hO3
        have hlt := hO3.lt
        obtain ⟨⟨c0, c1, c2, c3⟩, f0, f1, f2, f3⟩ := hO3.cells
        clear k2 hO3 HO HX
        go_wp2_with fail
        refine bodyPost_ret (v := cutW 0 [] 0 3) ?_ rfl ⟨by rw [HV.out], ?_⟩
        · refine lx_result3 rfl _ _ _ (a := ⟨w.heap.size, 0, none⟩) (by rfl) ?_ (by rfl) (by rfl)
          go_simp
        · exact tk_set4 HO3.out.below (Nat.le_refl _) _ _ _ _
      · rw [if_neg hl4] at hf
        have HV : Hid (FV = .tuple #[.agg #[.int .i64 4, .string x, .int .i64 0, .int .i64 0], .int .i64 (n : Nat), .int .i64 0]) := Lib.hid (by rw [HFV.out, hf, hx, hn]; rfl)
        have t1 : decide ((4096 : Int) < (x.size : Int)) = false := by rw [decide_eq_false_iff_not, hxs]; omega
        clear hf hc hl hh hxs hx hn hl4
        go_enter Tryd.func15, Tryd.ntmps15
        go_wp2_with fail
        refine (HX.out _).mono ?_
        rintro e w2 ⟨rfl, k2⟩
        have hO3 := HO.out.step k2
        have HO3 := Lib.hid hO3
        have hlt := hO3.lt
        obtain ⟨⟨c0, c1, c2, c3⟩, f0, f1, f2, f3⟩ := hO3.cells
        clear k2 hO3 HO HX
        go_wp2_with fail
        refine bodyPost_ret (v := .tuple #[.agg #[.int .i64 4, .string x, .int .i64 0, .int .i64 0], .int .i64 (n : Nat), .int .i64 0]) ?_ rfl ⟨by rw [HV.out], ?_⟩
        · refine lx_result3 rfl _ _ _ (a := ⟨w.heap.size, 0, none⟩) (by rfl) ?_ (by rfl) (by rfl)
          go_simp
        · exact tk_set4 HO3.out.below (Nat.le_refl _) _ _ _ _
  case neg =>
    have t34 : ((s[0].toNat : Int) == 34) = false := b34.trans (by simpa using h34)
    have HF : Hid (firstT l = if runL l = [] then (if signN l = 0 then .error 15 else .ok (5, l.take (signN l), signN l)) else wordT (runL l)) := Lib.hid (by
      rw [firstT, if_neg (by rw [hh]; simpa using h34)])
    have HLt := Lib.hid (fun c w1 => lxLetter_calls c w1)
    have HDg := Lib.hid (fun c w1 => lxDigit_calls c w1)
    have HSg := Lib.hid (fun w1 => lxSign_calls s w1 (by omega))
    rw [← hl] at HSg
    have HH := Lib.hid hh
    clear b34 h34 hl hh
    go_enter Tryd.func15, Tryd.ntmps15
    go_wp2_with fail
    generalize hW2 : w.alloc (.cells #[.int .i64 0, .string ⟨#[]⟩, .int .i64 0, .int .i64 0] 33) = w2 at HO ⊢
    clear hW2
    go_loopw [7] (fun v wr => ∃ (n : Nat), n ≤ s.size ∧ v = .int .i64 n ∧ Hid (runTo l n) ∧ w2 = wr) (fun v _ => s.size - (intOf v).toNat)
    case atStart => exact ⟨0, Nat.zero_le _, rfl, Lib.hid (runTo_zero _), rfl⟩
    case round =>
      obtain ⟨n, hn, rfl, HX, rfl⟩ := hrel
      by_cases hlt : n < s.size
      case pos =>
        have hat : l[n]? = some s[n] := by rw [HL.out]; exact cs_at s n hlt
        have H1 := Lib.hid (HLt.out s[n] w2)
        cases hnc : nameC s[n]
        case true =>
          have HX2 := Lib.hid (runTo_more HX.out hat hnc)
          rw [hnc] at H1
          clear hnc hat
          go_wp2_with fail
          refine H1.out.mono ?_
          rintro e w1 ⟨rfl, hw1⟩
          subst hw1
          go_wp2_with fail
          go_roundw
          case rel => exact ⟨n + 1, hlt, by go_num, HX2, trivial⟩
          case measure => simp [intOf]; omega
        case false =>
          have HR := Lib.hid (run_stop HX.out hat hnc)
          rw [hnc] at H1
          clear hnc hat
          have hlt2 := HO.out.lt
          obtain ⟨⟨c0, c1, c2, c3⟩, f0, f1, f2, f3⟩ := HO.out.cells
          by_cases hz : n = 0
          · subst hz
            have hr0 : runL l = [] := by rw [HR.out]; rfl
            rw [if_pos hr0] at HF
            by_cases hs0 : signN l = 0
            · have HV : Hid (FV = cutW 0 [] 0 15) := Lib.hid (by rw [HFV.out, HF.out, if_pos hs0]; rfl)
              obtain ⟨g, hg⟩ : ∃ g : ByteArray, g = ⟨(l.take (signN l)).toArray⟩ := ⟨_, rfl⟩
              rw [← hg] at HSg
              have hgt : g.toList.isEmpty = true := by rw [cs_tl, hg, hs0]; rfl
              clear hr0 hs0 hg
              go_wp2_with fail
              refine H1.out.mono ?_
              rintro e w1 ⟨rfl, hw1⟩
              subst hw1
              go_wp2_with fail
              refine (HSg.out _).mono ?_
              rintro e w3 ⟨rfl, k3⟩
              have hO3 := HO.out.step k3
              have HO3 := Lib.hid hO3
              have hlt3 := hO3.lt
              obtain ⟨⟨p0, p1, p2, p3⟩, q0, q1, q2, q3⟩ := hO3.cells
              clear k3 hO3 HO HSg c0 c1 c2 c3 f0 f1 f2 f3
              go_wp2_with fail
              refine bodyPost_ret (v := cutW 0 [] 0 15) ?_ rfl ⟨by rw [HV.out], ?_⟩
              · refine lx_result3 rfl _ _ _ (a := ⟨w.heap.size, 0, none⟩) (by rfl) ?_ (by rfl) (by rfl)
                go_simp
              · exact tk_set4 HO3.out.below (Nat.le_refl _) _ _ _ _
            · obtain ⟨g, hg⟩ : ∃ g : ByteArray, g = ⟨(l.take (signN l)).toArray⟩ := ⟨_, rfl⟩
              have hgs : g.size = signN l := by rw [hg, lx_size, List.length_take]; have := sign_le l; omega
              have HV : Hid (FV = .tuple #[.agg #[.int .i64 5, .string g, .int .i64 0, .int .i64 0], .int .i64 (g.size : Nat), .int .i64 0]) := Lib.hid (by rw [HFV.out, HF.out, if_neg hs0, hgs, hg]; rfl)
              rw [← hg] at HSg
              have hgt : g.toList.isEmpty = false := by
                rw [cs_tl]
                cases e : g.data.toList with
                | nil => rw [cs_size, e] at hgs; exact absurd hgs.symm hs0
                | cons c r => rfl
              have hgm : g.size ≤ 65536 := by rw [hgs]; have := sign_le l; rw [HLn.out] at this; omega
              clear hr0 hs0 hg hgs
              go_wp2_with fail
              refine H1.out.mono ?_
              rintro e w1 ⟨rfl, hw1⟩
              subst hw1
              go_wp2_with fail
              refine (HSg.out _).mono ?_
              rintro e w3 ⟨rfl, k3⟩
              have hO3 := HO.out.step k3
              have HO3 := Lib.hid hO3
              have hlt3 := hO3.lt
              obtain ⟨⟨p0, p1, p2, p3⟩, q0, q1, q2, q3⟩ := hO3.cells
              clear k3 hO3 HO HSg c0 c1 c2 c3 f0 f1 f2 f3
              go_wp2_with fail
              refine bodyPost_ret (v := .tuple #[.agg #[.int .i64 5, .string g, .int .i64 0, .int .i64 0], .int .i64 (g.size : Nat), .int .i64 0]) ?_ rfl ⟨by rw [HV.out], ?_⟩
              · refine lx_result3 rfl _ _ _ (a := ⟨w.heap.size, 0, none⟩) (by rfl) ?_ (by rfl) (by rfl)
                go_simp
              · exact tk_set4 HO3.out.below (Nat.le_refl _) _ _ _ _
          · have hnz : ((n : Int) == 0) = false := by rw [beq_eq_false_iff_ne]; omega
            have hr0 : runL l ≠ [] := by
              rw [HR.out]; intro e
              have := congrArg List.length e
              rw [List.length_take, HLn.out, List.length_nil] at this
              omega
            rw [if_neg hr0] at HF
            obtain ⟨t, ht⟩ : ∃ t, t = s.extract 0 n := ⟨_, rfl⟩
            have htl : t.data.toList = runL l := by rw [ht, cs_take, HR.out, HL.out]
            have hrl : (runL l).length = n := by rw [HR.out, List.length_take, HLn.out]; omega
            have hrh : (runL l).head? = some s[0] := by
              cases hr : runL l with
              | nil => exact absurd hr hr0
              | cons c y => rw [← HH.out, run_head hr]; rfl
            have hW := word_go hrh htl
            rw [hrl] at hW
            have HT := Lib.hid ht
            have hmk : (⟨(runL l).toArray⟩ : ByteArray) = t := by rw [← htl]
            have hnn : 0 < n := by omega
            have HAt : Hid (∀ i (h : i < s.size), i < n → (runL l)[i]? = some s[i]) := Lib.hid (fun i h hi => by rw [HR.out, List.getElem?_take, if_pos hi, HL.out]; exact cs_at s i h)
            have hsub : s.extract 0 n = t := ht.symm
            cases hd : digitB s[0]
            case true =>
              rw [hd, if_pos rfl] at hW
              have H0 := Lib.hid (fun w1 => HDg.out s[0] w1)
              rw [hd] at H0
              have HW := Lib.hid hW
              have HMk := Lib.hid hmk
              have HRl := Lib.hid hrl
              have b48 := cs_beq s[0] 48 (by omega)
              clear hW hmk htl hrh hr0 hd ht hrl
              go_wp2_with fail
              refine H1.out.mono ?_
              rintro e w1 ⟨rfl, hw1⟩
              subst hw1
              go_wp2_with fail
              (try rw [← HT.out])
              refine (H0.out _).mono ?_
              rintro e w1 ⟨rfl, hw1⟩
              subst hw1
              go_wp2_with fail
              go_loopw [10] (fun v wr => ∃ (i : Nat), i ≤ n ∧ v = .int .i64 i ∧ Hid (twTo digitB (runL l) i) ∧ w2 = wr) (fun v _ => n - (intOf v).toNat)
              case atStart => exact ⟨0, Nat.zero_le _, rfl, Lib.hid (twTo_zero _ _), rfl⟩
              case round =>
                obtain ⟨i, hi, rfl, HY, rfl⟩ := hrel
                by_cases hil : i < n
                case pos =>
                  have his : i < s.size := by omega
                  have hti : decide (i < n) = true := by simpa using hil
                  have hat := HAt.out i his hil
                  have H1 := Lib.hid (HDg.out s[i] w2)
                  cases hdi : digitB s[i]
                  case true =>
                    have HY2 := Lib.hid (twTo_more HY.out hat hdi)
                    rw [hdi] at H1
                    clear hdi hat b48
                    go_wp2_with fail
                    refine H1.out.mono ?_
                    rintro e w1 ⟨rfl, hw1⟩
                    subst hw1
                    go_wp2_with fail
                    go_roundw
                    case rel => exact ⟨i + 1, hil, by go_num, HY2, trivial⟩
                    case measure => simp [intOf]; omega
                  case false =>
                    have HV : Hid (FV = cutW 0 [] 0 4) := Lib.hid (by rw [HFV.out, HF.out, HW.out, if_pos (dg_bad hat hdi)]; rfl)
                    rw [hdi] at H1
                    clear hdi hat b48
                    go_wp2_with fail
                    refine H1.out.mono ?_
                    rintro e w1 ⟨rfl, hw1⟩
                    subst hw1
                    go_wp2_with fail
                    refine bodyPost_ret (v := cutW 0 [] 0 4) ?_ rfl ⟨by rw [HV.out], ?_⟩
                    · refine lx_result3 rfl _ _ _ (a := ⟨w.heap.size, 0, none⟩) (by rfl) ?_ (by rfl) (by rfl)
                      go_simp
                    · exact tk_set4 HO.out.below (Nat.le_refl _) _ _ _ _
                case neg =>
                  have hti : decide (i < n) = false := by simpa using hil
                  have hall := dgTo_all (r := runL l) HY.out (by rw [HRl.out]; omega)
                  rw [hall, if_neg (by decide)] at HW
                  by_cases h48 : 1 < n ∧ s[0] = 48
                  · have HV : Hid (FV = cutW 0 [] 0 4) := Lib.hid (by rw [HFV.out, HF.out, HW.out, if_pos h48]; rfl)
                    have u1 : decide ((1 : Int) < (n : Int)) = true := by rw [decide_eq_true_eq]; omega
                    have u2 : ((s[0].toNat : Int) == 48) = true := b48.trans (by rw [h48.2]; rfl)
                    clear h48 hall b48
                    go_wp2_with fail
                    refine bodyPost_ret (v := cutW 0 [] 0 4) ?_ rfl ⟨by rw [HV.out], ?_⟩
                    · refine lx_result3 rfl _ _ _ (a := ⟨w.heap.size, 0, none⟩) (by rfl) ?_ (by rfl) (by rfl)
                      go_simp
                    · exact tk_set4 HO.out.below (Nat.le_refl _) _ _ _ _
                  · rw [if_neg h48] at HW
                    by_cases h32 : 32 < n
                    · have HV : Hid (FV = cutW 0 [] 0 3) := Lib.hid (by rw [HFV.out, HF.out, HW.out, if_pos h32]; rfl)
                      have u3 : decide ((32 : Int) < (n : Int)) = true := by rw [decide_eq_true_eq]; omega
                      have u1 : decide ((1 : Int) < (n : Int)) = true := by rw [decide_eq_true_eq]; omega
                      have u2 : ((s[0].toNat : Int) == 48) = false := b48.trans (by simpa using fun e => h48 ⟨by omega, e⟩)
                      clear h48 hall b48 h32
                      go_wp2_with fail
                      refine bodyPost_ret (v := cutW 0 [] 0 3) ?_ rfl ⟨by rw [HV.out], ?_⟩
                      · refine lx_result3 rfl _ _ _ (a := ⟨w.heap.size, 0, none⟩) (by rfl) ?_ (by rfl) (by rfl)
                        go_simp
                      · exact tk_set4 HO.out.below (Nat.le_refl _) _ _ _ _
                    · have HV : Hid (FV = .tuple #[.agg #[.int .i64 3, .string t, .int .i64 0, .int .i64 0], .int .i64 (n : Nat), .int .i64 0]) := Lib.hid (by rw [HFV.out, HF.out, HW.out, if_neg h32, ← HMk.out]; rfl)
                      have u3 : decide ((32 : Int) < (n : Int)) = false := by rw [decide_eq_false_iff_not]; omega
                      cases u1 : decide ((1 : Int) < (n : Int))
                      · clear h48 hall b48 h32
                        go_wp2_with fail
                        refine bodyPost_ret (v := .tuple #[.agg #[.int .i64 3, .string t, .int .i64 0, .int .i64 0], .int .i64 (n : Nat), .int .i64 0]) ?_ rfl ⟨by rw [HV.out], ?_⟩
                        · refine lx_result3 rfl _ _ _ (a := ⟨w.heap.size, 0, none⟩) (by rfl) ?_ (by rfl) (by rfl)
                          go_simp
                        · exact tk_set4 HO.out.below (Nat.le_refl _) _ _ _ _
                      · have u2 : ((s[0].toNat : Int) == 48) = false := b48.trans (by simpa using fun e => h48 ⟨by rw [decide_eq_true_eq] at u1; omega, e⟩)
                        clear h48 hall b48 h32
                        go_wp2_with fail
                        refine bodyPost_ret (v := .tuple #[.agg #[.int .i64 3, .string t, .int .i64 0, .int .i64 0], .int .i64 (n : Nat), .int .i64 0]) ?_ rfl ⟨by rw [HV.out], ?_⟩
                        · refine lx_result3 rfl _ _ _ (a := ⟨w.heap.size, 0, none⟩) (by rfl) ?_ (by rfl) (by rfl)
                          go_simp
                        · exact tk_set4 HO.out.below (Nat.le_refl _) _ _ _ _
            case false =>
              rw [hd, if_neg (by decide)] at hW
              have H0 := Lib.hid (fun w1 => HDg.out s[0] w1)
              rw [hd] at H0
              have HMk := Lib.hid hmk
              have hts : t.size = n := by rw [cs_size, htl, hrl]
              have HNm := Lib.hid (fun w1 => refName_calls t w1 (by omega))
              by_cases h32 : 32 < n
              · rw [if_pos h32] at hW
                have HV : Hid (FV = cutW 0 [] 0 3) := Lib.hid (by rw [HFV.out, HF.out, hW]; rfl)
                have u3 : decide ((32 : Int) < (n : Int)) = true := by rw [decide_eq_true_eq]; omega
                clear hW hmk htl hrh hr0 hd ht hrl h32 hts
                go_wp2_with fail
                refine H1.out.mono ?_
                rintro e w1 ⟨rfl, hw1⟩
                subst hw1
                go_wp2_with fail
                (try rw [← HT.out])
                refine (H0.out _).mono ?_
                rintro e w1 ⟨rfl, hw1⟩
                subst hw1
                go_wp2_with fail
                refine bodyPost_ret (v := cutW 0 [] 0 3) ?_ rfl ⟨by rw [HV.out], ?_⟩
                · refine lx_result3 rfl _ _ _ (a := ⟨w.heap.size, 0, none⟩) (by rfl) ?_ (by rfl) (by rfl)
                  go_simp
                · exact tk_set4 HO.out.below (Nat.le_refl _) _ _ _ _
              · rw [if_neg h32] at hW
                have u3 : decide ((32 : Int) < (n : Int)) = false := by rw [decide_eq_false_iff_not]; omega
                have hli : (t.toList == [95]) = lineB t := by rw [line_list, cs_tl]
                cases hnm : nameB t <;> cases hlb : lineB t
                all_goals
                  rw [hnm] at HNm
                  rw [hlb] at hli
                  rw [hnm, hlb] at hW
                case' false.false => have HV : Hid (FV = .tuple #[.agg #[.int .i64 2, .string t, .int .i64 0, .int .i64 0], .int .i64 (n : Nat), .int .i64 0]) := Lib.hid (by rw [HFV.out, HF.out, hW, ← HMk.out]; rfl)
                case' false.true => have HV : Hid (FV = .tuple #[.agg #[.int .i64 1, .string t, .int .i64 0, .int .i64 0], .int .i64 (n : Nat), .int .i64 0]) := Lib.hid (by rw [HFV.out, HF.out, hW, ← HMk.out]; rfl)
                case' true.false => have HV : Hid (FV = .tuple #[.agg #[.int .i64 1, .string t, .int .i64 0, .int .i64 0], .int .i64 (n : Nat), .int .i64 0]) := Lib.hid (by rw [HFV.out, HF.out, hW, ← HMk.out]; rfl)
                case' true.true => have HV : Hid (FV = .tuple #[.agg #[.int .i64 1, .string t, .int .i64 0, .int .i64 0], .int .i64 (n : Nat), .int .i64 0]) := Lib.hid (by rw [HFV.out, HF.out, hW, ← HMk.out]; rfl)
                all_goals
                  clear hW hmk htl hrh hr0 hd ht hrl h32 hts hnm hlb
                  go_wp2_with fail
                  refine H1.out.mono ?_
                  rintro e w1 ⟨rfl, hw1⟩
                  subst hw1
                  go_wp2_with fail
                  (try rw [← HT.out])
                  refine (H0.out _).mono ?_
                  rintro e w1 ⟨rfl, hw1⟩
                  subst hw1
                  go_wp2_with fail
                  refine (HNm.out _).mono ?_
                  rintro e w3 ⟨rfl, k3⟩
                  have hO3 := HO.out.step k3
                  have HO3 := Lib.hid hO3
                  have hlt3 := hO3.lt
                  obtain ⟨⟨p0, p1, p2, p3⟩, q0, q1, q2, q3⟩ := hO3.cells
                  clear k3 hO3 HO HNm c0 c1 c2 c3 f0 f1 f2 f3
                  go_wp2_with fail
                  refine bodyPost_ret (v := FV) ?_ rfl ⟨rfl, ?_⟩
                  · rw [HV.out]
                    refine lx_result3 rfl _ _ _ (a := ⟨w.heap.size, 0, none⟩) (by rfl) ?_ (by rfl) (by rfl)
                    go_simp
                  · exact tk_set4 HO3.out.below (Nat.le_refl _) _ _ _ _
      case neg =>
        have HR := Lib.hid (run_end HX.out (by rw [HLn.out]; omega))
        have hlt2 := HO.out.lt
        obtain ⟨⟨c0, c1, c2, c3⟩, f0, f1, f2, f3⟩ := HO.out.cells
        by_cases hz : n = 0
        · exact absurd hz (by omega)
        · have hnz : ((n : Int) == 0) = false := by rw [beq_eq_false_iff_ne]; omega
          have hr0 : runL l ≠ [] := by
            rw [HR.out]; intro e
            have := congrArg List.length e
            rw [List.length_take, HLn.out, List.length_nil] at this
            omega
          rw [if_neg hr0] at HF
          obtain ⟨t, ht⟩ : ∃ t, t = s.extract 0 n := ⟨_, rfl⟩
          have htl : t.data.toList = runL l := by rw [ht, cs_take, HR.out, HL.out]
          have hrl : (runL l).length = n := by rw [HR.out, List.length_take, HLn.out]; omega
          have hrh : (runL l).head? = some s[0] := by
            cases hr : runL l with
            | nil => exact absurd hr hr0
            | cons c y => rw [← HH.out, run_head hr]; rfl
          have hW := word_go hrh htl
          rw [hrl] at hW
          have HT := Lib.hid ht
          have hmk : (⟨(runL l).toArray⟩ : ByteArray) = t := by rw [← htl]
          have hnn : 0 < n := by omega
          have HAt : Hid (∀ i (h : i < s.size), i < n → (runL l)[i]? = some s[i]) := Lib.hid (fun i h hi => by rw [HR.out, List.getElem?_take, if_pos hi, HL.out]; exact cs_at s i h)
          have hsub : s.extract 0 n = t := ht.symm
          cases hd : digitB s[0]
          case true =>
            rw [hd, if_pos rfl] at hW
            have H0 := Lib.hid (fun w1 => HDg.out s[0] w1)
            rw [hd] at H0
            have HW := Lib.hid hW
            have HMk := Lib.hid hmk
            have HRl := Lib.hid hrl
            have b48 := cs_beq s[0] 48 (by omega)
            clear hW hmk htl hrh hr0 hd ht hrl
            go_wp2_with fail
            (try rw [← HT.out])
            refine (H0.out _).mono ?_
            rintro e w1 ⟨rfl, hw1⟩
            subst hw1
            go_wp2_with fail
            go_loopw [10] (fun v wr => ∃ (i : Nat), i ≤ n ∧ v = .int .i64 i ∧ Hid (twTo digitB (runL l) i) ∧ w2 = wr) (fun v _ => n - (intOf v).toNat)
            case atStart => exact ⟨0, Nat.zero_le _, rfl, Lib.hid (twTo_zero _ _), rfl⟩
            case round =>
              obtain ⟨i, hi, rfl, HY, rfl⟩ := hrel
              by_cases hil : i < n
              case pos =>
                have his : i < s.size := by omega
                have hti : decide (i < n) = true := by simpa using hil
                have hat := HAt.out i his hil
                have H1 := Lib.hid (HDg.out s[i] w2)
                cases hdi : digitB s[i]
                case true =>
                  have HY2 := Lib.hid (twTo_more HY.out hat hdi)
                  rw [hdi] at H1
                  clear hdi hat b48
                  go_wp2_with fail
                  refine H1.out.mono ?_
                  rintro e w1 ⟨rfl, hw1⟩
                  subst hw1
                  go_wp2_with fail
                  go_roundw
                  case rel => exact ⟨i + 1, hil, by go_num, HY2, trivial⟩
                  case measure => simp [intOf]; omega
                case false =>
                  have HV : Hid (FV = cutW 0 [] 0 4) := Lib.hid (by rw [HFV.out, HF.out, HW.out, if_pos (dg_bad hat hdi)]; rfl)
                  rw [hdi] at H1
                  clear hdi hat b48
                  go_wp2_with fail
                  refine H1.out.mono ?_
                  rintro e w1 ⟨rfl, hw1⟩
                  subst hw1
                  go_wp2_with fail
                  refine bodyPost_ret (v := cutW 0 [] 0 4) ?_ rfl ⟨by rw [HV.out], ?_⟩
                  · refine lx_result3 rfl _ _ _ (a := ⟨w.heap.size, 0, none⟩) (by rfl) ?_ (by rfl) (by rfl)
                    go_simp
                  · exact tk_set4 HO.out.below (Nat.le_refl _) _ _ _ _
              case neg =>
                have hti : decide (i < n) = false := by simpa using hil
                have hall := dgTo_all (r := runL l) HY.out (by rw [HRl.out]; omega)
                rw [hall, if_neg (by decide)] at HW
                by_cases h48 : 1 < n ∧ s[0] = 48
                · have HV : Hid (FV = cutW 0 [] 0 4) := Lib.hid (by rw [HFV.out, HF.out, HW.out, if_pos h48]; rfl)
                  have u1 : decide ((1 : Int) < (n : Int)) = true := by rw [decide_eq_true_eq]; omega
                  have u2 : ((s[0].toNat : Int) == 48) = true := b48.trans (by rw [h48.2]; rfl)
                  clear h48 hall b48
                  go_wp2_with fail
                  refine bodyPost_ret (v := cutW 0 [] 0 4) ?_ rfl ⟨by rw [HV.out], ?_⟩
                  · refine lx_result3 rfl _ _ _ (a := ⟨w.heap.size, 0, none⟩) (by rfl) ?_ (by rfl) (by rfl)
                    go_simp
                  · exact tk_set4 HO.out.below (Nat.le_refl _) _ _ _ _
                · rw [if_neg h48] at HW
                  by_cases h32 : 32 < n
                  · have HV : Hid (FV = cutW 0 [] 0 3) := Lib.hid (by rw [HFV.out, HF.out, HW.out, if_pos h32]; rfl)
                    have u3 : decide ((32 : Int) < (n : Int)) = true := by rw [decide_eq_true_eq]; omega
                    have u1 : decide ((1 : Int) < (n : Int)) = true := by rw [decide_eq_true_eq]; omega
                    have u2 : ((s[0].toNat : Int) == 48) = false := b48.trans (by simpa using fun e => h48 ⟨by omega, e⟩)
                    clear h48 hall b48 h32
                    go_wp2_with fail
                    refine bodyPost_ret (v := cutW 0 [] 0 3) ?_ rfl ⟨by rw [HV.out], ?_⟩
                    · refine lx_result3 rfl _ _ _ (a := ⟨w.heap.size, 0, none⟩) (by rfl) ?_ (by rfl) (by rfl)
                      go_simp
                    · exact tk_set4 HO.out.below (Nat.le_refl _) _ _ _ _
                  · have HV : Hid (FV = .tuple #[.agg #[.int .i64 3, .string t, .int .i64 0, .int .i64 0], .int .i64 (n : Nat), .int .i64 0]) := Lib.hid (by rw [HFV.out, HF.out, HW.out, if_neg h32, ← HMk.out]; rfl)
                    have u3 : decide ((32 : Int) < (n : Int)) = false := by rw [decide_eq_false_iff_not]; omega
                    cases u1 : decide ((1 : Int) < (n : Int))
                    · clear h48 hall b48 h32
                      go_wp2_with fail
                      refine bodyPost_ret (v := .tuple #[.agg #[.int .i64 3, .string t, .int .i64 0, .int .i64 0], .int .i64 (n : Nat), .int .i64 0]) ?_ rfl ⟨by rw [HV.out], ?_⟩
                      · refine lx_result3 rfl _ _ _ (a := ⟨w.heap.size, 0, none⟩) (by rfl) ?_ (by rfl) (by rfl)
                        go_simp
                      · exact tk_set4 HO.out.below (Nat.le_refl _) _ _ _ _
                    · have u2 : ((s[0].toNat : Int) == 48) = false := b48.trans (by simpa using fun e => h48 ⟨by rw [decide_eq_true_eq] at u1; omega, e⟩)
                      clear h48 hall b48 h32
                      go_wp2_with fail
                      refine bodyPost_ret (v := .tuple #[.agg #[.int .i64 3, .string t, .int .i64 0, .int .i64 0], .int .i64 (n : Nat), .int .i64 0]) ?_ rfl ⟨by rw [HV.out], ?_⟩
                      · refine lx_result3 rfl _ _ _ (a := ⟨w.heap.size, 0, none⟩) (by rfl) ?_ (by rfl) (by rfl)
                        go_simp
                      · exact tk_set4 HO.out.below (Nat.le_refl _) _ _ _ _
          case false =>
            rw [hd, if_neg (by decide)] at hW
            have H0 := Lib.hid (fun w1 => HDg.out s[0] w1)
            rw [hd] at H0
            have HMk := Lib.hid hmk
            have hts : t.size = n := by rw [cs_size, htl, hrl]
            have HNm := Lib.hid (fun w1 => refName_calls t w1 (by omega))
            by_cases h32 : 32 < n
            · rw [if_pos h32] at hW
              have HV : Hid (FV = cutW 0 [] 0 3) := Lib.hid (by rw [HFV.out, HF.out, hW]; rfl)
              have u3 : decide ((32 : Int) < (n : Int)) = true := by rw [decide_eq_true_eq]; omega
              clear hW hmk htl hrh hr0 hd ht hrl h32 hts
              go_wp2_with fail
              (try rw [← HT.out])
              refine (H0.out _).mono ?_
              rintro e w1 ⟨rfl, hw1⟩
              subst hw1
              go_wp2_with fail
              refine bodyPost_ret (v := cutW 0 [] 0 3) ?_ rfl ⟨by rw [HV.out], ?_⟩
              · refine lx_result3 rfl _ _ _ (a := ⟨w.heap.size, 0, none⟩) (by rfl) ?_ (by rfl) (by rfl)
                go_simp
              · exact tk_set4 HO.out.below (Nat.le_refl _) _ _ _ _
            · rw [if_neg h32] at hW
              have u3 : decide ((32 : Int) < (n : Int)) = false := by rw [decide_eq_false_iff_not]; omega
              have hli : (t.toList == [95]) = lineB t := by rw [line_list, cs_tl]
              cases hnm : nameB t <;> cases hlb : lineB t
              all_goals
                rw [hnm] at HNm
                rw [hlb] at hli
                rw [hnm, hlb] at hW
              case' false.false => have HV : Hid (FV = .tuple #[.agg #[.int .i64 2, .string t, .int .i64 0, .int .i64 0], .int .i64 (n : Nat), .int .i64 0]) := Lib.hid (by rw [HFV.out, HF.out, hW, ← HMk.out]; rfl)
              case' false.true => have HV : Hid (FV = .tuple #[.agg #[.int .i64 1, .string t, .int .i64 0, .int .i64 0], .int .i64 (n : Nat), .int .i64 0]) := Lib.hid (by rw [HFV.out, HF.out, hW, ← HMk.out]; rfl)
              case' true.false => have HV : Hid (FV = .tuple #[.agg #[.int .i64 1, .string t, .int .i64 0, .int .i64 0], .int .i64 (n : Nat), .int .i64 0]) := Lib.hid (by rw [HFV.out, HF.out, hW, ← HMk.out]; rfl)
              case' true.true => have HV : Hid (FV = .tuple #[.agg #[.int .i64 1, .string t, .int .i64 0, .int .i64 0], .int .i64 (n : Nat), .int .i64 0]) := Lib.hid (by rw [HFV.out, HF.out, hW, ← HMk.out]; rfl)
              all_goals
                clear hW hmk htl hrh hr0 hd ht hrl h32 hts hnm hlb
                go_wp2_with fail
                (try rw [← HT.out])
                refine (H0.out _).mono ?_
                rintro e w1 ⟨rfl, hw1⟩
                subst hw1
                go_wp2_with fail
                refine (HNm.out _).mono ?_
                rintro e w3 ⟨rfl, k3⟩
                have hO3 := HO.out.step k3
                have HO3 := Lib.hid hO3
                have hlt3 := hO3.lt
                obtain ⟨⟨p0, p1, p2, p3⟩, q0, q1, q2, q3⟩ := hO3.cells
                clear k3 hO3 HO HNm c0 c1 c2 c3 f0 f1 f2 f3
                go_wp2_with fail
                refine bodyPost_ret (v := FV) ?_ rfl ⟨rfl, ?_⟩
                · rw [HV.out]
                  refine lx_result3 rfl _ _ _ (a := ⟨w.heap.size, 0, none⟩) (by rfl) ?_ (by rfl) (by rfl)
                  go_simp
                · exact tk_set4 HO3.out.below (Nat.le_refl _) _ _ _ _
end Go.Proofs.YtbojhcfofgdoeaaDoor
