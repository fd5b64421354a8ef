/- What slices.Concat makes of lists of slots. -/
import Derived.Test.YtjohiehlnbgdaaaDoorLayGrow
import Derived.Test.YtjohiehlnbgdaaaDoorSlotPut
namespace Go.Proofs.YtjohiehlnbgdaaaDoor
open Go.RowKit
set_option linter.unusedVariables false

theorem flat_step {LL : List (List Sd)} {n : Nat} (h : n < LL.length) : (LL.take (n + 1)).flatten = (LL.take n).flatten ++ LL.getD n [] := by
  rw [List.take_succ_eq_append_getElem h, List.flatten_append]
  simp [List.getD, h]
theorem flat_le (LL : List (List Sd)) (n : Nat) : (LL.take n).flatten.length ≤ LL.flatten.length := by
  conv => rhs; rw [← List.take_append_drop n LL, List.flatten_append, List.length_append]
  omega
/-- The binding at a place, and that its slice is among the values. -/
theorem LIn.at2 {w w' : World} {a : Option Addr} {len : Nat} {LL : List (List Sd)} {vs : List Value} (h : LIn w a len LL vs) (hb : Below w.heap.size w w') {n : Nat} (hn : n < len) :
    ∃ g off b c, a = some ⟨g, off, none⟩ ∧ w'.cell? ⟨g, off + n, none⟩ = some (.slice b (LL.getD n []).length c) ∧ SIn w' b (LL.getD n []).length (LL.getD n []) ∧ Value.slice b (LL.getD n []).length c ∈ vs := by
  have h' := h.below hb
  obtain ⟨g, off, e, hg, hr⟩ := h'.row (by omega)
  obtain ⟨b, c, e1, hs⟩ := h'.vals.at' n (by rw [h'.leng]; exact hn)
  exact ⟨g, off, b, c, e, hr n _ e1, hs, List.mem_of_getElem? e1⟩
theorem sin_add {w : World} {g off len : Nat} {L : List Sd} (h : SIn w (some ⟨g, off, none⟩) len L) : ∀ j u, (cellsS L)[j]? = some u → w.cell? ((⟨g, off, none⟩ : Addr).add j) = some u := by
  intro j u hj
  rw [show (⟨g, off, none⟩ : Addr).add j = ⟨g, off + j, none⟩ by unfold Addr.add; split <;> simp_all]
  exact h.cells j u hj

set_option maxHeartbeats 2000000 in
set_option maxRecDepth 100000 in
theorem concat_calls (a : Option Addr) (len cap : Nat) (LL : List (List Sd)) (vs : List Value) (w : World) (hl : LIn w a len LL vs) (hlen : len ≤ 100) (htot : LL.flatten.length ≤ 1000) (hsome : ∀ u ∈ vs, ∃ ad m c, u = .slice (some ad) m c) :
    Calls Tryd.prog 40 #[.slice a len cap] w fun e w' => ∃ o, e = .returned o ∧ w'.ownsRow w.heap.size 36 5 o LL.flatten.length (cellsS LL.flatten) ∧ Below w.heap.size w w' := by
  have H := Lib.hid hl
  have HL := Lib.hid hl.leng
  have HSo := Lib.hid hsome
  obtain ⟨i0, hi, hz0, hz1, hz2⟩ := info_parts infoS
  have HI := Lib.hid hi
  have HZ0 := Lib.hid hz0
  have HZ1 := Lib.hid hz1
  have HZ2 := Lib.hid hz2
  obtain ⟨T, hT⟩ : ∃ T, LL.flatten.length = T := ⟨_, rfl⟩
  have HTT := Lib.hid hT
  have HG := Lib.hid (growNil_calls T w (by omega))
  clear hT
  clear hl hi hz0 hz1 hz2 hsome
  go_enter Tryd.func40, Tryd.ntmps40
  go_wp2_with fail
  go_loopw [3, 11] (fun s i wr => ∃ (n : Nat), n ≤ len ∧ i = .int .i64 n ∧ s = .int .i64 ((LL.take n).flatten.length : Nat) ∧ wr = w) (fun _ i _ => len - (intOf i).toNat)
  case atStart => exact ⟨0, Nat.zero_le _, rfl, by simp, rfl⟩
  case round =>
    obtain ⟨n, hn, rfl, rfl, hw⟩ := hrel
    obtain rfl : w = wr := hw.symm
    by_cases h : n < len
    case pos =>
      obtain ⟨g, off, b, c, rfl, hc, hx⟩ := H.out.at' (Below.refl _ _) h
      have hs := flat_step (LL := LL) (n := n) (by rw [HL.out]; exact h)
      have hle := flat_le LL (n + 1)
      have hs2 : (LL.take (n + 1)).flatten.length = (LL.take n).flatten.length + (LL.getD n []).length := by rw [hs, List.length_append]
      have HS := Lib.hid hs2
      rw [hs2] at hle
      clear hs hs2 hx
      generalize (LL.take n).flatten.length = m at hle HS
      generalize (LL.getD n []).length = k at hc hle HS
      go_wp2_with fail
      go_roundw
      case rel => exact ⟨n + 1, by omega, by go_num, by rw [HS.out]; go_num, trivial⟩
      case measure => simp [intOf]; omega
    case neg =>
      obtain rfl : len = n := by omega
      have HT : Hid ((LL.take len).flatten.length = LL.flatten.length) := Lib.hid (by rw [List.take_of_length_le (by rw [HL.out]; exact Nat.le_refl _)])
      rw [HT.out, HTT.out]
      go_wp2_with fail
      refine HG.out.mono ?_
      rintro e w1 ⟨o, rfl, ho, k1⟩
      obtain ⟨oa, oc, rfl⟩ := own_slice ho
      have HO := Lib.hid ho
      have HB := Lib.hid k1
      clear ho k1
      go_wp2_with fail
      go_loopw [6, 27] (fun o i wr => ∃ (n : Nat), n ≤ len ∧ i = .int .i64 n ∧ Hid (wr.ownsRow w.heap.size 36 5 o (LL.take n).flatten.length (cellsS (LL.take n).flatten)) ∧ Hid (Below w.heap.size w wr)) (fun _ i _ => len - (intOf i).toNat)
      case atStart => exact ⟨0, Nat.zero_le _, rfl, HO, HB⟩
      case round =>
        obtain ⟨n, hn, rfl, HO, HB⟩ := hrel
        obtain ⟨oa, oc, rfl⟩ := own_slice HO.out
        by_cases h : n < len
        case neg =>
          obtain rfl : len = n := by omega
          have HT2 : Hid (LL.take len = LL) := Lib.hid (List.take_of_length_le (by rw [HL.out]; exact Nat.le_refl _))
          rw [HT2.out] at HO
          obtain ⟨T2, hT2⟩ : ∃ T2, (LL.take len).flatten.length = T2 := ⟨_, rfl⟩
          have HX : Hid (LL.flatten.length = T2) := Lib.hid (by rw [← hT2, HT2.out])
          rw [hT2]
          clear hT2
          go_wp2_with fail
          go_ret
          exact ⟨_, rfl, by rw [← HX.out]; exact HO.out, HB.out⟩
        case pos =>
          obtain ⟨g, off, b, c, rfl, hc, hx, hvs⟩ := H.out.at2 HB.out h
          have hs := flat_step (LL := LL) (n := n) (by rw [HL.out]; exact h)
          have hle := flat_le LL (n + 1)
          rw [hs, List.length_append] at hle
          have HS := Lib.hid hs
          clear hs
          generalize (LL.take n).flatten = M at hle HS HO
          generalize LL.getD n [] = X at hc hle HS hx hvs
          have HXX := Lib.hid hx
          clear hx
          obtain ⟨ad, rfl⟩ : ∃ ad, b = some ad := by
            obtain ⟨ad, m, c', e⟩ := HSo.out _ hvs
            cases e
            exact ⟨ad, rfl⟩
          clear hvs
          have HN : Hid (∀ j u, (cellsS X)[j]? = some u → wr.cell? (ad.add j) = some u) := Lib.hid (by
            intro j u hj
            have hj1 := (List.getElem?_eq_some_iff.1 hj).1
            rw [cellsS_len] at hj1
            obtain ⟨g', off', e, _, _⟩ := HXX.out.row (by omega)
            cases e
            exact sin_add HXX.out j u hj)
          go_wp2_with (at_builtin; refine wpList_append_own _ rfl _ _ 22 rfl w.heap.size 36 i0 _ 5 48 Tryd.underlying22 HI.out HZ0.out HZ1.out HZ2.out rfl (by decide) _ _ _ rfl HO.out ad X.length c (cellsS X) rfl (cellsS_len X) HN.out (cellsS_one X) (by unfold maxLen; omega) (by omega) HB.out.size ?_; intro v4 w4 ho4 hg4 _)
          have HB4 := Lib.hid (HB.out.grown hg4 HB.out.size (fun k hk => (HO.out.lt k hk).1))
          have HO4 : Hid (w4.ownsRow w.heap.size 36 5 v4 (LL.take (n + 1)).flatten.length (cellsS (LL.take (n + 1)).flatten)) := Lib.hid (by rw [HS.out, List.length_append, cellsS_app]; exact ho4)
          clear ho4 hg4
          go_wp2_with fail
          go_roundw
          case rel => exact ⟨n + 1, by omega, by go_num, HO4, HB4⟩
          case measure => simp [intOf]; omega
end Go.Proofs.YtjohiehlnbgdaaaDoor
