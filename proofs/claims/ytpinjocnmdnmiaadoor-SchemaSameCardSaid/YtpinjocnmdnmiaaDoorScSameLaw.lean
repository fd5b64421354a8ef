/- What the law's same does with two lists of declarations. -/
import Derived.Test.YtpinjocnmdnmiaaDoorScHelp
import Derived.Test.YtpinjocnmdnmiaaDoorScRefText
import Derived.Test.YtpinjocnmdnmiaaDoorScSame
namespace Go.Proofs.YtpinjocnmdnmiaaDoor
open Go.RowKit
set_option linter.unusedVariables false

theorem textT_ne {x y : ByteArray} {V U : List Int} (h : textT x V ≠ textT y U) : ¬ (x = y ∧ V = U) := by
  rintro ⟨rfl, rfl⟩; exact h rfl
theorem textT_same {x y : ByteArray} {V : List Int} (h : textT x V = textT y V) : x = y := by
  refine text_same (V := V) ?_
  have := congrArg (fun s => s.data.toList) h
  exact this
theorem cells4 {w w' : World} {g o g' o' : Nat} {u v u' v' : Value} (h : (w.cell? ⟨g, o, none⟩ = some u ∧ w.cell? ⟨g, o + 1, none⟩ = some v) ∧ w.cell? ⟨g', o', none⟩ = some u' ∧ w.cell? ⟨g', o' + 1, none⟩ = some v') (hb : Below w.heap.size w w') :
    (w'.cell? ⟨g, o, none⟩ = some u ∧ w'.cell? ⟨g, o + 1, none⟩ = some v) ∧ w'.cell? ⟨g', o', none⟩ = some u' ∧ w'.cell? ⟨g', o' + 1, none⟩ = some v' :=
  ⟨⟨cell_below h.1.1 hb, cell_below h.1.2 hb⟩, cell_below h.2.1 hb, cell_below h.2.2 hb⟩

set_option maxHeartbeats 8000000 in
set_option maxRecDepth 100000 in
theorem lawSame_calls (a : Option Addr) (len cap : Nat) (L : List Dc) (a' : Option Addr) (len' cap' : Nat) (M : List Dc) (w : World) (hs : DIn w a len L) (hs' : DIn w a' len' M) (hf : fewB L = true) (hf' : fewB M = true) :
    Calls Tryd.prog 21 #[.slice a len cap, .slice a' len' cap'] w fun e w' => e = .returned (.bool (decide (L = M))) ∧ Below w.heap.size w w' := by
  have H := Lib.hid hs
  have H' := Lib.hid hs'
  have HL := Lib.hid hs.leng
  have HL' := Lib.hid hs'.leng
  have hl40 : len ≤ 40 := by have := few_len hf; rw [hs.leng] at this; exact this
  have hl40' : len' ≤ 40 := by have := few_len hf'; rw [hs'.leng] at this; exact this
  have HFA := Lib.hid (fun n (hn : n < L.length) => few_at hf hn)
  have HFA' := Lib.hid (fun n (hn : n < M.length) => few_at hf' hn)
  clear hs hs' hf hf'
  by_cases hll : len = len'
  case neg =>
    have t0 : ((len : Int) != (len' : Int)) = true := by rw [bne_iff_ne]; omega
    have HX : Hid (decide (L = M) = false) := Lib.hid (decide_eq_false (fun e => hll (by rw [← HL.out, ← HL'.out, e])))
    go_enter Tryd.func21, Tryd.ntmps21
    go_wp2_with fail
    go_ret
    exact ⟨by rw [HX.out]; rfl, Below.refl _ _⟩
  subst hll
  have t0 : ((len : Int) != (len : Int)) = false := by simp
  go_enter Tryd.func21, Tryd.ntmps21
  go_wp2_with fail
  go_loopw [5] (fun i wr => ∃ (n : Nat), n ≤ len ∧ i = .int .i64 n ∧ Hid (L.take n = M.take n) ∧ Hid (Below w.heap.size w wr)) (fun i _ => len - (intOf i).toNat)
  case atStart => exact ⟨0, Nat.zero_le _, rfl, Lib.hid rfl, Lib.hid (Below.refl _ _)⟩
  case round =>
    obtain ⟨n, hn, rfl, HTk, HB⟩ := hrel
    by_cases hlt : n < len
    case neg =>
      have HX : Hid (decide (L = M) = true) := Lib.hid (decide_eq_true (by
        have := HTk.out
        rwa [List.take_of_length_le (by rw [HL.out]; omega), List.take_of_length_le (by rw [HL'.out]; omega)] at this))
      go_wp2_with fail
      go_ret
      exact ⟨by rw [HX.out]; rfl, HB.out⟩
    case pos =>
      obtain ⟨g, off, b, c, rfl, hg, h1, h2, h3, h4⟩ := (H.out.below HB.out).at' n hlt
      obtain ⟨g', off', b', c', rfl, hg', h1', h2', h3', h4'⟩ := (H'.out.below HB.out).at' n hlt
      obtain ⟨hy, hk⟩ := HFA.out n (by rw [HL.out]; exact hlt)
      obtain ⟨hy', hk'⟩ := HFA'.out n (by rw [HL'.out]; exact hlt)
      have HE := Lib.hid (fun e e2 => take_sameD (L := L) (M := M) (n := n) (by rw [HL.out]; exact hlt) (by rw [HL'.out]; exact hlt) e e2 HTk.out)
      have HN : Hid (¬ (nmAt L n = nmAt M n ∧ ksAt L n = ksAt M n) → decide (L = M) = false) := Lib.hid (fun e => decide_eq_false (fun e2 => e (by rw [e2]; exact ⟨rfl, rfl⟩)))
      generalize nmAt L n = x at h1 h4 HE HN hy
      generalize nmAt M n = y at h1' h4' HE HN hy'
      generalize ksAt L n = V at h2 h3 HE HN hk
      generalize ksAt M n = U at h2' h3' HE HN hk'
      have HT1 := Lib.hid (fun w1 (hb : Below wr.heap.size wr w1) => refText_calls x b V.length c V w1 (h3.below hb) (by omega) (by omega))
      have HT2 := Lib.hid (fun w1 (hb : Below wr.heap.size wr w1) => refText_calls y b' U.length c' U w1 (h3'.below hb) (by omega) (by omega))
      have HK := Lib.hid h3
      have HK' := Lib.hid h3'
      have HD0 := Lib.hid ((Below.refl wr.heap.size wr).drew)
      have HS := Lib.hid (show (wr.cell? ⟨g, off + n * 2, none⟩ = some (.string x) ∧ wr.cell? ⟨g, off + n * 2 + 1, none⟩ = some (.slice b V.length c)) ∧ wr.cell? ⟨g', off' + n * 2, none⟩ = some (.string y) ∧ wr.cell? ⟨g', off' + n * 2 + 1, none⟩ = some (.slice b' U.length c') from ⟨⟨h1, h2⟩, h1', h2'⟩)
      have HTN : Hid (textT x V ≠ textT y U → decide (L = M) = false) := Lib.hid (fun e => HN.out (textT_ne e))
      have HLN : Hid (V.length ≠ U.length → decide (L = M) = false) := Lib.hid (fun e => HN.out (fun e2 => e (by rw [e2.2])))
      have HVN : Hid (V ≠ U → decide (L = M) = false) := Lib.hid (fun e => HN.out (fun e2 => e e2.2))
      have HOk : Hid (textT x V = textT y U → V = U → L.take (n + 1) = M.take (n + 1)) := Lib.hid (fun e e2 => HE.out (by subst e2; exact textT_same e) e2)
      clear h3 h3' h4 h4' hy hy' hk hk' HE HN
      generalize textT x V = T at HT1 HTN HOk
      generalize textT y U = T' at HT2 HTN HOk
      generalize hm : V.length = m at h2 HT1 HK HS HLN
      generalize hm' : U.length = m' at h2' HT2 HK' HS HLN
      have HVm := Lib.hid hm
      have HUm := Lib.hid hm'
      clear hm hm'
      have hsm := HK.out.small
      have hsm' := HK'.out.small
      by_cases ht : T = T'
      case neg =>
        have HX := Lib.hid (HTN.out ht)
        have t1 : (T.toList == T'.toList) = false := Bool.eq_false_iff.2 (fun e => ht (isT_iff.1 e))
        clear ht
        go_wp2_with fail
        refine wp_region_held_drew (S := (fun w3 => (w3.cell? ⟨g, off + n * 2, none⟩ = some (.string x) ∧ w3.cell? ⟨g, off + n * 2 + 1, none⟩ = some (.slice b m c)) ∧ w3.cell? ⟨g', off' + n * 2, none⟩ = some (.string y) ∧ w3.cell? ⟨g', off' + n * 2 + 1, none⟩ = some (.slice b' m' c'))) (by kernel_rfl) (HS.out) (fun hH0 => ?_)
        refine wpAnyH_take (i := 0) (v := .slice (some ⟨g, off, none⟩) len cap) rfl (by kernel_rfl) (by kernel_rfl) (by kernel_rfl) (fun _ _ _ h => h) (Or.inl ⟨by kernel_rfl, fun wS hSw => by (try dsimp only at hSw); go_simp⟩) hH0 ?_
        refine wpAnyH_take (i := 1) (v := .int .i64 n) rfl (by kernel_rfl) (by kernel_rfl) (by kernel_rfl) (fun _ _ _ h => h) (Or.inl ⟨by kernel_rfl, fun wS hSw => by (try dsimp only at hSw); go_simp⟩) hH0 ?_
        refine wpAnyH_take (i := 2) (v := .pointer (some ⟨g, off + n * 2, none⟩)) rfl (by kernel_rfl) (by kernel_rfl) (by kernel_rfl) (fun _ _ _ h => h) (Or.inl ⟨by kernel_rfl, fun wS hSw => by (try dsimp only at hSw); go_simp⟩) hH0 ?_
        refine wpAnyH_take (i := 3) (v := .agg #[.string x, .slice b m c]) rfl (by kernel_rfl) (by kernel_rfl) (by kernel_rfl) (fun _ _ _ h => h) (Or.inl ⟨by kernel_rfl, fun wS hSw => by (try dsimp only at hSw); go_simp⟩) hH0 ?_
        refine wpAnyH_take (i := 5) (v := .slice (some ⟨g', off', none⟩) len cap') rfl (by kernel_rfl) (by kernel_rfl) (by kernel_rfl) (fun _ _ _ h => h) (Or.inl ⟨by kernel_rfl, fun wS hSw => by (try dsimp only at hSw); go_simp⟩) hH0 ?_
        refine wpAnyH_take (i := 6) (v := .int .i64 n) rfl (by kernel_rfl) (by kernel_rfl) (by kernel_rfl) (fun _ _ _ h => h) (Or.inl ⟨by kernel_rfl, fun wS hSw => by (try dsimp only at hSw); go_simp⟩) hH0 ?_
        refine wpAnyH_take (i := 7) (v := .pointer (some ⟨g', off' + n * 2, none⟩)) rfl (by kernel_rfl) (by kernel_rfl) (by kernel_rfl) (fun _ _ _ h => h) (Or.inl ⟨by kernel_rfl, fun wS hSw => by (try dsimp only at hSw); go_simp⟩) hH0 ?_
        refine wpAnyH_take (i := 8) (v := .agg #[.string y, .slice b' m' c']) rfl (by kernel_rfl) (by kernel_rfl) (by kernel_rfl) (fun _ _ _ h => h) (Or.inl ⟨by kernel_rfl, fun wS hSw => by (try dsimp only at hSw); go_simp⟩) hH0 ?_
        refine wpAnyH_ready (rs := [4]) (by kernel_rfl) (by simp) ?_
        refine AllReadyH.cons rfl (fun K hK => ?_) AllReadyH.nil
        rw [if_pos (by kernel_rfl)]
        go_simp
        refine (HT1.out _ HD0.out).mono ?_
        rintro e w4 ⟨rfl, k4⟩
        have HK4 := Lib.hid (HD0.out.trans (k4.mono HD0.out.size))
        clear k4
        refine hK.out _ _ (cells4 HS.out HK4.out) (fun hH1 => ?_)
        clear hK K
        refine wpAnyH_ready (rs := [9]) (by kernel_rfl) (by simp) ?_
        refine AllReadyH.cons rfl (fun K hK => ?_) AllReadyH.nil
        rw [if_pos (by kernel_rfl)]
        go_simp
        refine (HT2.out _ HK4.out).mono ?_
        rintro e w5 ⟨rfl, k5⟩
        have HK5 := Lib.hid (HK4.out.trans (k5.mono HK4.out.size))
        clear k5
        refine hK.out _ _ (cells4 HS.out HK5.out) (fun hH2 => ?_)
        clear hK K
        refine wpAnyH_take (i := 10) (v := .bool true) rfl (by kernel_rfl) (by kernel_rfl) (by kernel_rfl) (fun _ _ _ h => h) (Or.inl ⟨by kernel_rfl, fun wS hSw => by (try dsimp only at hSw); go_simp⟩) hH2 ?_
        refine wpAnyH_take (i := 11) (v := .bool true) rfl (by kernel_rfl) (by kernel_rfl) (by kernel_rfl) (fun _ _ _ h => h) (Or.inl ⟨by kernel_rfl, fun wS hSw => by (try dsimp only at hSw); go_simp⟩) hH2 ?_
        refine wpAnyH_take (i := 12) (v := undef) rfl (by kernel_rfl) (by kernel_rfl) (by kernel_rfl) (fun _ _ _ h => h) (Or.inr ⟨by kernel_rfl, rfl⟩) hH2 ?_
        refine wpAnyH_take (i := 13) (v := undef) rfl (by kernel_rfl) (by kernel_rfl) (by kernel_rfl) (fun _ _ _ h => h) (Or.inr ⟨by kernel_rfl, rfl⟩) hH2 ?_
        refine wpAnyH_take (i := 14) (v := undef) rfl (by kernel_rfl) (by kernel_rfl) (by kernel_rfl) (fun _ _ _ h => h) (Or.inr ⟨by kernel_rfl, rfl⟩) hH2 ?_
        refine wpAnyH_take (i := 15) (v := undef) rfl (by kernel_rfl) (by kernel_rfl) (by kernel_rfl) (fun _ _ _ h => h) (Or.inr ⟨by kernel_rfl, rfl⟩) hH2 ?_
        refine wpAnyH_take (i := 16) (v := undef) rfl (by kernel_rfl) (by kernel_rfl) (by kernel_rfl) (fun _ _ _ h => h) (Or.inr ⟨by kernel_rfl, rfl⟩) hH2 ?_
        refine wpAnyH_take (i := 17) (v := undef) rfl (by kernel_rfl) (by kernel_rfl) (by kernel_rfl) (fun _ _ _ h => h) (Or.inr ⟨by kernel_rfl, rfl⟩) hH2 ?_
        refine wpAnyH_take (i := 18) (v := undef) rfl (by kernel_rfl) (by kernel_rfl) (by kernel_rfl) (fun _ _ _ h => h) (Or.inr ⟨by kernel_rfl, rfl⟩) hH2 ?_
        refine wpAnyH_take (i := 19) (v := undef) rfl (by kernel_rfl) (by kernel_rfl) (by kernel_rfl) (fun _ _ _ h => h) (Or.inr ⟨by kernel_rfl, rfl⟩) hH2 ?_
        refine wpAnyH_take (i := 20) (v := undef) rfl (by kernel_rfl) (by kernel_rfl) (by kernel_rfl) (fun _ _ _ h => h) (Or.inr ⟨by kernel_rfl, rfl⟩) hH2 ?_
        refine wpAnyH_take (i := 21) (v := undef) rfl (by kernel_rfl) (by kernel_rfl) (by kernel_rfl) (fun _ _ _ h => h) (Or.inr ⟨by kernel_rfl, rfl⟩) hH2 ?_
        refine wpAnyH_take (i := 22) (v := undef) rfl (by kernel_rfl) (by kernel_rfl) (by kernel_rfl) (fun _ _ _ h => h) (Or.inr ⟨by kernel_rfl, rfl⟩) hH2 ?_
        refine wpAnyH_take (i := 23) (v := undef) rfl (by kernel_rfl) (by kernel_rfl) (by kernel_rfl) (fun _ _ _ h => h) (Or.inr ⟨by kernel_rfl, rfl⟩) hH2 ?_
        refine wpAnyH_take (i := 24) (v := undef) rfl (by kernel_rfl) (by kernel_rfl) (by kernel_rfl) (fun _ _ _ h => h) (Or.inr ⟨by kernel_rfl, rfl⟩) hH2 ?_
        refine wpAnyH_take (i := 25) (v := .bool true) rfl (by kernel_rfl) (by kernel_rfl) (by kernel_rfl) (fun _ _ _ h => h) (Or.inl ⟨by kernel_rfl, fun wS hSw => by (try dsimp only at hSw); go_simp⟩) hH2 ?_
        refine wpAnyH_done (by kernel_rfl) ?_ _
        go_simp
        go_wp2_with fail
        go_ret
        exact ⟨by rw [HX.out]; rfl, HB.out.trans (HK5.out.mono HB.out.size)⟩
      case pos =>
        subst ht
        have HOk2 := Lib.hid (HOk.out rfl)
        clear HOk
        have t1 : (T.toList == T.toList) = true := by simp
        by_cases hml : m = m'
        case neg =>
          have HX := Lib.hid (HLN.out hml)
          have t2 : ((m : Int) != (m' : Int)) = true := by rw [bne_iff_ne]; omega
          have t3 : ((m : Int) == (m' : Int)) = false := by rw [beq_eq_false_iff_ne]; omega
          clear hml
          go_wp2_with fail
          refine wp_region_held_drew (S := (fun w3 => (w3.cell? ⟨g, off + n * 2, none⟩ = some (.string x) ∧ w3.cell? ⟨g, off + n * 2 + 1, none⟩ = some (.slice b m c)) ∧ w3.cell? ⟨g', off' + n * 2, none⟩ = some (.string y) ∧ w3.cell? ⟨g', off' + n * 2 + 1, none⟩ = some (.slice b' m' c'))) (by kernel_rfl) (HS.out) (fun hH0 => ?_)
          refine wpAnyH_take (i := 0) (v := .slice (some ⟨g, off, none⟩) len cap) rfl (by kernel_rfl) (by kernel_rfl) (by kernel_rfl) (fun _ _ _ h => h) (Or.inl ⟨by kernel_rfl, fun wS hSw => by (try dsimp only at hSw); go_simp⟩) hH0 ?_
          refine wpAnyH_take (i := 1) (v := .int .i64 n) rfl (by kernel_rfl) (by kernel_rfl) (by kernel_rfl) (fun _ _ _ h => h) (Or.inl ⟨by kernel_rfl, fun wS hSw => by (try dsimp only at hSw); go_simp⟩) hH0 ?_
          refine wpAnyH_take (i := 2) (v := .pointer (some ⟨g, off + n * 2, none⟩)) rfl (by kernel_rfl) (by kernel_rfl) (by kernel_rfl) (fun _ _ _ h => h) (Or.inl ⟨by kernel_rfl, fun wS hSw => by (try dsimp only at hSw); go_simp⟩) hH0 ?_
          refine wpAnyH_take (i := 3) (v := .agg #[.string x, .slice b m c]) rfl (by kernel_rfl) (by kernel_rfl) (by kernel_rfl) (fun _ _ _ h => h) (Or.inl ⟨by kernel_rfl, fun wS hSw => by (try dsimp only at hSw); go_simp⟩) hH0 ?_
          refine wpAnyH_take (i := 5) (v := .slice (some ⟨g', off', none⟩) len cap') rfl (by kernel_rfl) (by kernel_rfl) (by kernel_rfl) (fun _ _ _ h => h) (Or.inl ⟨by kernel_rfl, fun wS hSw => by (try dsimp only at hSw); go_simp⟩) hH0 ?_
          refine wpAnyH_take (i := 6) (v := .int .i64 n) rfl (by kernel_rfl) (by kernel_rfl) (by kernel_rfl) (fun _ _ _ h => h) (Or.inl ⟨by kernel_rfl, fun wS hSw => by (try dsimp only at hSw); go_simp⟩) hH0 ?_
          refine wpAnyH_take (i := 7) (v := .pointer (some ⟨g', off' + n * 2, none⟩)) rfl (by kernel_rfl) (by kernel_rfl) (by kernel_rfl) (fun _ _ _ h => h) (Or.inl ⟨by kernel_rfl, fun wS hSw => by (try dsimp only at hSw); go_simp⟩) hH0 ?_
          refine wpAnyH_take (i := 8) (v := .agg #[.string y, .slice b' m' c']) rfl (by kernel_rfl) (by kernel_rfl) (by kernel_rfl) (fun _ _ _ h => h) (Or.inl ⟨by kernel_rfl, fun wS hSw => by (try dsimp only at hSw); go_simp⟩) hH0 ?_
          refine wpAnyH_ready (rs := [4]) (by kernel_rfl) (by simp) ?_
          refine AllReadyH.cons rfl (fun K hK => ?_) AllReadyH.nil
          rw [if_pos (by kernel_rfl)]
          go_simp
          refine (HT1.out _ HD0.out).mono ?_
          rintro e w4 ⟨rfl, k4⟩
          have HK4 := Lib.hid (HD0.out.trans (k4.mono HD0.out.size))
          clear k4
          refine hK.out _ _ (cells4 HS.out HK4.out) (fun hH1 => ?_)
          clear hK K
          refine wpAnyH_ready (rs := [9]) (by kernel_rfl) (by simp) ?_
          refine AllReadyH.cons rfl (fun K hK => ?_) AllReadyH.nil
          rw [if_pos (by kernel_rfl)]
          go_simp
          refine (HT2.out _ HK4.out).mono ?_
          rintro e w5 ⟨rfl, k5⟩
          have HK5 := Lib.hid (HK4.out.trans (k5.mono HK4.out.size))
          clear k5
          refine hK.out _ _ (cells4 HS.out HK5.out) (fun hH2 => ?_)
          clear hK K
          refine wpAnyH_take (i := 10) (v := .bool false) rfl (by kernel_rfl) (by kernel_rfl) (by kernel_rfl) (fun _ _ _ h => h) (Or.inl ⟨by kernel_rfl, fun wS hSw => by (try dsimp only at hSw); go_simp⟩) hH2 ?_
          refine wpAnyH_take (i := 11) (v := .bool false) rfl (by kernel_rfl) (by kernel_rfl) (by kernel_rfl) (fun _ _ _ h => h) (Or.inl ⟨by kernel_rfl, fun wS hSw => by (try dsimp only at hSw); go_simp⟩) hH2 ?_
          refine wpAnyH_take (i := 12) (v := .slice (some ⟨g, off, none⟩) len cap) rfl (by kernel_rfl) (by kernel_rfl) (by kernel_rfl) (fun _ _ _ h => h) (Or.inl ⟨by kernel_rfl, fun wS hSw => by (try dsimp only at hSw); go_simp⟩) hH2 ?_
          refine wpAnyH_take (i := 13) (v := .int .i64 n) rfl (by kernel_rfl) (by kernel_rfl) (by kernel_rfl) (fun _ _ _ h => h) (Or.inl ⟨by kernel_rfl, fun wS hSw => by (try dsimp only at hSw); go_simp⟩) hH2 ?_
          refine wpAnyH_take (i := 14) (v := .pointer (some ⟨g, off + n * 2, none⟩)) rfl (by kernel_rfl) (by kernel_rfl) (by kernel_rfl) (fun _ _ _ h => h) (Or.inl ⟨by kernel_rfl, fun wS hSw => by (try dsimp only at hSw); go_simp⟩) hH2 ?_
          refine wpAnyH_take (i := 15) (v := .pointer (some ⟨g, off + n * 2 + 1, none⟩)) rfl (by kernel_rfl) (by kernel_rfl) (by kernel_rfl) (fun _ _ _ h => h) (Or.inl ⟨by kernel_rfl, fun wS hSw => by (try dsimp only at hSw); go_simp⟩) hH2 ?_
          refine wpAnyH_take (i := 16) (v := .slice b m c) rfl (by kernel_rfl) (by kernel_rfl) (by kernel_rfl) (fun _ _ _ h => h) (Or.inl ⟨by kernel_rfl, fun wS hSw => by (try dsimp only at hSw); go_simp⟩) hH2 ?_
          refine wpAnyH_take (i := 17) (v := .int .i64 m) rfl (by kernel_rfl) (by kernel_rfl) (by kernel_rfl) (fun _ _ _ h => h) (Or.inl ⟨by kernel_rfl, fun wS hSw => by (try dsimp only at hSw); go_simp⟩) hH2 ?_
          refine wpAnyH_take (i := 18) (v := .slice (some ⟨g', off', none⟩) len cap') rfl (by kernel_rfl) (by kernel_rfl) (by kernel_rfl) (fun _ _ _ h => h) (Or.inl ⟨by kernel_rfl, fun wS hSw => by (try dsimp only at hSw); go_simp⟩) hH2 ?_
          refine wpAnyH_take (i := 19) (v := .int .i64 n) rfl (by kernel_rfl) (by kernel_rfl) (by kernel_rfl) (fun _ _ _ h => h) (Or.inl ⟨by kernel_rfl, fun wS hSw => by (try dsimp only at hSw); go_simp⟩) hH2 ?_
          refine wpAnyH_take (i := 20) (v := .pointer (some ⟨g', off' + n * 2, none⟩)) rfl (by kernel_rfl) (by kernel_rfl) (by kernel_rfl) (fun _ _ _ h => h) (Or.inl ⟨by kernel_rfl, fun wS hSw => by (try dsimp only at hSw); go_simp⟩) hH2 ?_
          refine wpAnyH_take (i := 21) (v := .pointer (some ⟨g', off' + n * 2 + 1, none⟩)) rfl (by kernel_rfl) (by kernel_rfl) (by kernel_rfl) (fun _ _ _ h => h) (Or.inl ⟨by kernel_rfl, fun wS hSw => by (try dsimp only at hSw); go_simp⟩) hH2 ?_
          refine wpAnyH_take (i := 22) (v := .slice b' m' c') rfl (by kernel_rfl) (by kernel_rfl) (by kernel_rfl) (fun _ _ _ h => h) (Or.inl ⟨by kernel_rfl, fun wS hSw => by (try dsimp only at hSw); go_simp⟩) hH2 ?_
          refine wpAnyH_take (i := 23) (v := .int .i64 m') rfl (by kernel_rfl) (by kernel_rfl) (by kernel_rfl) (fun _ _ _ h => h) (Or.inl ⟨by kernel_rfl, fun wS hSw => by (try dsimp only at hSw); go_simp⟩) hH2 ?_
          refine wpAnyH_take (i := 24) (v := .bool true) rfl (by kernel_rfl) (by kernel_rfl) (by kernel_rfl) (fun _ _ _ h => h) (Or.inl ⟨by kernel_rfl, fun wS hSw => by (try dsimp only at hSw); go_simp⟩) hH2 ?_
          refine wpAnyH_take (i := 25) (v := .bool true) rfl (by kernel_rfl) (by kernel_rfl) (by kernel_rfl) (fun _ _ _ h => h) (Or.inl ⟨by kernel_rfl, fun wS hSw => by (try dsimp only at hSw); go_simp⟩) hH2 ?_
          refine wpAnyH_done (by kernel_rfl) ?_ _
          go_simp
          go_wp2_with fail
          go_ret
          exact ⟨by rw [HX.out]; rfl, HB.out.trans (HK5.out.mono HB.out.size)⟩
        case pos =>
          subst hml
          have t2 : ((m : Int) != (m : Int)) = false := by simp
          have t3 : ((m : Int) == (m : Int)) = true := by simp
          go_wp2_with fail
          refine wp_region_held_drew (S := (fun w3 => (w3.cell? ⟨g, off + n * 2, none⟩ = some (.string x) ∧ w3.cell? ⟨g, off + n * 2 + 1, none⟩ = some (.slice b m c)) ∧ w3.cell? ⟨g', off' + n * 2, none⟩ = some (.string y) ∧ w3.cell? ⟨g', off' + n * 2 + 1, none⟩ = some (.slice b' m c'))) (by kernel_rfl) (HS.out) (fun hH0 => ?_)
          refine wpAnyH_take (i := 0) (v := .slice (some ⟨g, off, none⟩) len cap) rfl (by kernel_rfl) (by kernel_rfl) (by kernel_rfl) (fun _ _ _ h => h) (Or.inl ⟨by kernel_rfl, fun wS hSw => by (try dsimp only at hSw); go_simp⟩) hH0 ?_
          refine wpAnyH_take (i := 1) (v := .int .i64 n) rfl (by kernel_rfl) (by kernel_rfl) (by kernel_rfl) (fun _ _ _ h => h) (Or.inl ⟨by kernel_rfl, fun wS hSw => by (try dsimp only at hSw); go_simp⟩) hH0 ?_
          refine wpAnyH_take (i := 2) (v := .pointer (some ⟨g, off + n * 2, none⟩)) rfl (by kernel_rfl) (by kernel_rfl) (by kernel_rfl) (fun _ _ _ h => h) (Or.inl ⟨by kernel_rfl, fun wS hSw => by (try dsimp only at hSw); go_simp⟩) hH0 ?_
          refine wpAnyH_take (i := 3) (v := .agg #[.string x, .slice b m c]) rfl (by kernel_rfl) (by kernel_rfl) (by kernel_rfl) (fun _ _ _ h => h) (Or.inl ⟨by kernel_rfl, fun wS hSw => by (try dsimp only at hSw); go_simp⟩) hH0 ?_
          refine wpAnyH_take (i := 5) (v := .slice (some ⟨g', off', none⟩) len cap') rfl (by kernel_rfl) (by kernel_rfl) (by kernel_rfl) (fun _ _ _ h => h) (Or.inl ⟨by kernel_rfl, fun wS hSw => by (try dsimp only at hSw); go_simp⟩) hH0 ?_
          refine wpAnyH_take (i := 6) (v := .int .i64 n) rfl (by kernel_rfl) (by kernel_rfl) (by kernel_rfl) (fun _ _ _ h => h) (Or.inl ⟨by kernel_rfl, fun wS hSw => by (try dsimp only at hSw); go_simp⟩) hH0 ?_
          refine wpAnyH_take (i := 7) (v := .pointer (some ⟨g', off' + n * 2, none⟩)) rfl (by kernel_rfl) (by kernel_rfl) (by kernel_rfl) (fun _ _ _ h => h) (Or.inl ⟨by kernel_rfl, fun wS hSw => by (try dsimp only at hSw); go_simp⟩) hH0 ?_
          refine wpAnyH_take (i := 8) (v := .agg #[.string y, .slice b' m c']) rfl (by kernel_rfl) (by kernel_rfl) (by kernel_rfl) (fun _ _ _ h => h) (Or.inl ⟨by kernel_rfl, fun wS hSw => by (try dsimp only at hSw); go_simp⟩) hH0 ?_
          refine wpAnyH_ready (rs := [4]) (by kernel_rfl) (by simp) ?_
          refine AllReadyH.cons rfl (fun K hK => ?_) AllReadyH.nil
          rw [if_pos (by kernel_rfl)]
          go_simp
          refine (HT1.out _ HD0.out).mono ?_
          rintro e w4 ⟨rfl, k4⟩
          have HK4 := Lib.hid (HD0.out.trans (k4.mono HD0.out.size))
          clear k4
          refine hK.out _ _ (cells4 HS.out HK4.out) (fun hH1 => ?_)
          clear hK K
          refine wpAnyH_ready (rs := [9]) (by kernel_rfl) (by simp) ?_
          refine AllReadyH.cons rfl (fun K hK => ?_) AllReadyH.nil
          rw [if_pos (by kernel_rfl)]
          go_simp
          refine (HT2.out _ HK4.out).mono ?_
          rintro e w5 ⟨rfl, k5⟩
          have HK5 := Lib.hid (HK4.out.trans (k5.mono HK4.out.size))
          clear k5
          refine hK.out _ _ (cells4 HS.out HK5.out) (fun hH2 => ?_)
          clear hK K
          refine wpAnyH_take (i := 10) (v := .bool false) rfl (by kernel_rfl) (by kernel_rfl) (by kernel_rfl) (fun _ _ _ h => h) (Or.inl ⟨by kernel_rfl, fun wS hSw => by (try dsimp only at hSw); go_simp⟩) hH2 ?_
          refine wpAnyH_take (i := 11) (v := .bool false) rfl (by kernel_rfl) (by kernel_rfl) (by kernel_rfl) (fun _ _ _ h => h) (Or.inl ⟨by kernel_rfl, fun wS hSw => by (try dsimp only at hSw); go_simp⟩) hH2 ?_
          refine wpAnyH_take (i := 12) (v := .slice (some ⟨g, off, none⟩) len cap) rfl (by kernel_rfl) (by kernel_rfl) (by kernel_rfl) (fun _ _ _ h => h) (Or.inl ⟨by kernel_rfl, fun wS hSw => by (try dsimp only at hSw); go_simp⟩) hH2 ?_
          refine wpAnyH_take (i := 13) (v := .int .i64 n) rfl (by kernel_rfl) (by kernel_rfl) (by kernel_rfl) (fun _ _ _ h => h) (Or.inl ⟨by kernel_rfl, fun wS hSw => by (try dsimp only at hSw); go_simp⟩) hH2 ?_
          refine wpAnyH_take (i := 14) (v := .pointer (some ⟨g, off + n * 2, none⟩)) rfl (by kernel_rfl) (by kernel_rfl) (by kernel_rfl) (fun _ _ _ h => h) (Or.inl ⟨by kernel_rfl, fun wS hSw => by (try dsimp only at hSw); go_simp⟩) hH2 ?_
          refine wpAnyH_take (i := 15) (v := .pointer (some ⟨g, off + n * 2 + 1, none⟩)) rfl (by kernel_rfl) (by kernel_rfl) (by kernel_rfl) (fun _ _ _ h => h) (Or.inl ⟨by kernel_rfl, fun wS hSw => by (try dsimp only at hSw); go_simp⟩) hH2 ?_
          refine wpAnyH_take (i := 16) (v := .slice b m c) rfl (by kernel_rfl) (by kernel_rfl) (by kernel_rfl) (fun _ _ _ h => h) (Or.inl ⟨by kernel_rfl, fun wS hSw => by (try dsimp only at hSw); go_simp⟩) hH2 ?_
          refine wpAnyH_take (i := 17) (v := .int .i64 m) rfl (by kernel_rfl) (by kernel_rfl) (by kernel_rfl) (fun _ _ _ h => h) (Or.inl ⟨by kernel_rfl, fun wS hSw => by (try dsimp only at hSw); go_simp⟩) hH2 ?_
          refine wpAnyH_take (i := 18) (v := .slice (some ⟨g', off', none⟩) len cap') rfl (by kernel_rfl) (by kernel_rfl) (by kernel_rfl) (fun _ _ _ h => h) (Or.inl ⟨by kernel_rfl, fun wS hSw => by (try dsimp only at hSw); go_simp⟩) hH2 ?_
          refine wpAnyH_take (i := 19) (v := .int .i64 n) rfl (by kernel_rfl) (by kernel_rfl) (by kernel_rfl) (fun _ _ _ h => h) (Or.inl ⟨by kernel_rfl, fun wS hSw => by (try dsimp only at hSw); go_simp⟩) hH2 ?_
          refine wpAnyH_take (i := 20) (v := .pointer (some ⟨g', off' + n * 2, none⟩)) rfl (by kernel_rfl) (by kernel_rfl) (by kernel_rfl) (fun _ _ _ h => h) (Or.inl ⟨by kernel_rfl, fun wS hSw => by (try dsimp only at hSw); go_simp⟩) hH2 ?_
          refine wpAnyH_take (i := 21) (v := .pointer (some ⟨g', off' + n * 2 + 1, none⟩)) rfl (by kernel_rfl) (by kernel_rfl) (by kernel_rfl) (fun _ _ _ h => h) (Or.inl ⟨by kernel_rfl, fun wS hSw => by (try dsimp only at hSw); go_simp⟩) hH2 ?_
          refine wpAnyH_take (i := 22) (v := .slice b' m c') rfl (by kernel_rfl) (by kernel_rfl) (by kernel_rfl) (fun _ _ _ h => h) (Or.inl ⟨by kernel_rfl, fun wS hSw => by (try dsimp only at hSw); go_simp⟩) hH2 ?_
          refine wpAnyH_take (i := 23) (v := .int .i64 m) rfl (by kernel_rfl) (by kernel_rfl) (by kernel_rfl) (fun _ _ _ h => h) (Or.inl ⟨by kernel_rfl, fun wS hSw => by (try dsimp only at hSw); go_simp⟩) hH2 ?_
          refine wpAnyH_take (i := 24) (v := .bool false) rfl (by kernel_rfl) (by kernel_rfl) (by kernel_rfl) (fun _ _ _ h => h) (Or.inl ⟨by kernel_rfl, fun wS hSw => by (try dsimp only at hSw); go_simp⟩) hH2 ?_
          refine wpAnyH_take (i := 25) (v := .bool false) rfl (by kernel_rfl) (by kernel_rfl) (by kernel_rfl) (fun _ _ _ h => h) (Or.inl ⟨by kernel_rfl, fun wS hSw => by (try dsimp only at hSw); go_simp⟩) hH2 ?_
          refine wpAnyH_done (by kernel_rfl) ?_ _
          go_simp
          have HB5 := Lib.hid (HB.out.trans (HK5.out.mono HB.out.size))
          have HS5 := Lib.hid (cells4 HS.out HK5.out)
          have HK1 := Lib.hid (HK.out.below HK5.out)
          have HK2 := Lib.hid (HK'.out.below HK5.out)
          clear HS HK HK' HB HK4 HK5 HT1 HT2 HTN HLN HD0 t1
          go_wp2_with fail
          go_loopw [6] (fun j wq => ∃ (k : Nat), k ≤ m ∧ j = .int .i64 k ∧ Hid (V.take k = U.take k) ∧ Hid (Below w5.heap.size w5 wq)) (fun j _ => m - (intOf j).toNat)
          case atStart => exact ⟨0, Nat.zero_le _, rfl, Lib.hid rfl, Lib.hid (Below.refl _ _)⟩
          case round =>
            obtain ⟨k, hk, rfl, HP, HQ⟩ := hrel
            obtain ⟨⟨c1, c2⟩, c3, c4⟩ := cells4 HS5.out HQ.out
            by_cases hkm : k < m
            case neg =>
              have HX2 := Lib.hid (HOk2.out (by
                have := HP.out
                rwa [List.take_of_length_le (by rw [HVm.out]; omega), List.take_of_length_le (by rw [HUm.out]; omega)] at this))
              have HB6 := Lib.hid (HB5.out.trans (HQ.out.mono HB5.out.size))
              go_wp2_with fail
              go_roundw
              case rel => exact ⟨n + 1, hlt, by go_num, HX2, HB6⟩
              case measure => simp [intOf]; omega
            case pos =>
              obtain ⟨g2, off2, rfl, hg2, hc⟩ := (HK1.out.below HQ.out).at' k hkm
              obtain ⟨g3, off3, rfl, hg3, hc'⟩ := (HK2.out.below HQ.out).at' k hkm
              have HE := Lib.hid (fun e => take_sameI (L := V) (M := U) (n := k) (by rw [HVm.out]; exact hkm) (by rw [HUm.out]; exact hkm) e HP.out)
              have HN : Hid (V.getD k 0 ≠ U.getD k 0 → V ≠ U) := Lib.hid (fun e e2 => e (by rw [e2]))
              generalize V.getD k 0 = z at hc HE HN
              generalize U.getD k 0 = q at hc' HE HN
              by_cases hz : z = q
              · have HX := Lib.hid (HE.out hz)
                have t4 : (z != q) = false := by simp [hz]
                clear hz
                go_wp2_with fail
                go_quiet (fail)
                go_wp2_with fail
                go_roundw
                case rel => exact ⟨k + 1, hkm, by go_num, HX, Lib.hid (below_drewN HQ.out _)⟩
                case measure => simp [intOf]; omega
              · have HX := Lib.hid (HVN.out (HN.out hz))
                have HB6 := Lib.hid (HB5.out.trans (HQ.out.mono HB5.out.size))
                have t4 : (z != q) = true := by simp [hz]
                clear hz
                go_wp2_with fail
                go_quiet (fail)
                go_wp2_with fail
                go_ret
                exact ⟨by rw [HX.out]; rfl, below_drewN HB6.out _⟩
end Go.Proofs.YtpinjocnmdnmiaaDoor
