/- What binding.Of does with any slots. -/
import Derived.Test.YtjohiehlnbgdaaaLaySort
import Derived.Test.YtjohiehlnbgdaaaSlotCompact
import Derived.Test.YtjohiehlnbgdaaaSlotOrder
import Derived.Test.YtjohiehlnbgdaaaSlotRefUnion
namespace Go.Proofs.Ytjohiehlnbgdaaa
open Go.RowKit Go.Sort Go.Lib
set_option linter.unusedVariables false

set_option maxRecDepth 100000 in
set_option maxHeartbeats 1000000 in
theorem clone_calls (a : Option Addr) (len cap : Nat) (L : List Sd) (w : World) (hs : SIn w a len L) (hlen : len ≤ 1000000) :
    Calls Try.prog 21 #[.slice a len cap] w fun e w' => ∃ o, e = .returned o ∧ w'.ownsRow w.heap.size 32 5 o len (cellsS L) ∧ Below w.heap.size w w' := by
  obtain ⟨i0, hi, hz0, hz1, hz2⟩ := info_parts infoS
  have q22 : ∀ (w : World) (a : Option Addr) (n c n' c' : Nat), (binOp .eql 22 (.slice a n c) (.slice none n' c')).run Try.prog w = .ok (.bool a.isNone) w := fun w a n c n' c' => Lib.run_eql_slice_nil w _ _ a n c n' c' Try.underlying22
  cases a with
  | none =>
    have h0 : len = 0 := by
      rcases Nat.eq_zero_or_pos len with h | h
      · exact h
      · obtain ⟨g, off, e, _⟩ := hs.row h
        cases e
    subst h0
    have HL : Hid (L = []) := Lib.hid (List.length_eq_zero_iff.1 hs.leng)
    clear hs
    go_enter Try.func21, Try.ntmps21
    go_wp2_with fail
    go_ret
    exact ⟨_, rfl, by rw [HL.out]; exact World.ownsRow_nil _ _ _ _, Below.refl _ _⟩
  | some ad =>
    have hc : ∀ j u, (cellsS L)[j]? = some u → w.cell? (ad.add j) = some u := by
      intro j u hj
      have hl : 0 < len := by
        have := (List.getElem?_eq_some_iff.1 hj).1
        rw [cellsS_len, hs.leng] at this
        omega
      obtain ⟨g, off, e, _⟩ := hs.row hl
      cases e
      rw [show (⟨g, off, none⟩ : Addr).add j = ⟨g, off + j, none⟩ by unfold Addr.add; split <;> simp_all]
      exact hs.cells j u hj
    have HC := Lib.hid hc
    have HL := Lib.hid hs.leng
    clear hc hs
    go_enter Try.func21, Try.ntmps21
    go_wp2_with (at_builtin; refine wpList_append_own _ rfl _ _ 22 rfl w.heap.size 32 i0 _ 5 48 Try.underlying22 hi hz0 hz1 hz2 rfl (by decide) _ _ _ rfl (World.ownsRow_made w #[] 0 (Nat.le_refl _) (Nat.zero_le _) (by simp)) ad len cap (cellsS L) rfl ?c0 ?c1 (cellsS_one L) ?c2 ?c3 ?c4 ?_)
    case c0 => rw [cellsS_len, HL.out]
    case c1 => intro j u hj; exact Lib.cell?_alloc_some _ (HC.out j u hj)
    case c2 => unfold maxLen; omega
    case c3 => omega
    case c4 => simp
    intro v' w1 hown hgrow hnil
    go_wp2_with fail
    go_ret
    exact ⟨v', rfl, by simpa using hown, ((Below.refl _ w).alloc (Nat.le_refl _) _).grown hgrow (by simp) (by intro k hk; simp [Value.ownBlock] at hk; omega)⟩

theorem own_row {B : Nat} {o : Value} {L : List Sd} {n : Nat} {w : World} (h : w.ownsRow B 32 5 o n (cellsS L)) (hn : 0 < n) : ∃ g cap, o = .slice (some ⟨g, 0, none⟩) n cap ∧ L.length = n ∧ n ≤ cap ∧ cap ≤ maxLen ∧ B ≤ g ∧ g < w.heap.size ∧ RowS w g 0 L.toArray := by
  obtain ⟨hl, hown⟩ := h
  rw [cellsS_len] at hl
  rcases hown with ⟨rfl, h0⟩ | ⟨g, cap, cur, rfl, h1, hg, hcap, hm, hsz, htk⟩
  · omega
  · refine ⟨g, cap, rfl, by omega, hcap, hm, h1, (Array.getElem?_eq_some_iff.1 hg).1, fun j hj => ?_⟩
    rw [size_flatK, List.size_toArray] at hj
    constructor
    · rw [get_flatK _ _ _ _ (by simpa using hj), Nat.zero_add, cell_of_row w g j cur _ (0, 0) hg, toArr_at]
      have h5 := cellsS_at L (j / 5) (j % 5) (by omega) (by omega)
      rw [show j / 5 * 5 + j % 5 = j by omega, ← htk, List.getElem?_take, if_pos (by omega)] at h5
      have h6 : (encS (L.getD (j / 5) default))[j % 5]? = some (encS (L.getD (j / 5) default))[j % 5]! := by
        have : j % 5 < (encS (L.getD (j / 5) default)).length := by rw [encS_len]; omega
        rw [List.getElem?_eq_getElem this, List.getElem!_eq_getElem?_getD, List.getElem?_eq_getElem this]; rfl
      rw [h6] at h5
      simpa using h5
    · simp [World.frozen?, hg]

theorem cmp_lays (g off size : Nat) (w : World) : CmpLays Try.prog 23 #[] encS 5 cmpS g off size w := fun m os dk _ x y =>
  (cmpS_calls x y _).mono fun e w' ⟨he, os', hw⟩ => ⟨he, 0, os', hw⟩
theorem ltOf_cmpS : ltOf cmpS = ltS := by
  funext a b
  exact cmpS_lt a b
/-- Slots stand in their order. -/
def SortedS (D : List Sd) : Prop := ∀ i j, i < j → j < D.length → ltS (D.getD j default) (D.getD i default) = false
theorem below_sort {w : World} {blk off n : Nat} {d : Array Sd} {os : Array Obj} {B : Nat} (hblk : blk < w.heap.size) (hB : B ≤ blk) : RowKit.Below B w (sortWorldK encS 5 w blk off n d os) := by
  have ha : (Go.Sort.ahead w n).heap = w.heap := rfl
  refine ⟨rfl, rfl, rfl, ?_, fun k hk => ?_⟩
  · simp only [sortWorldK, size_grow, putRowK, size_putRow, ha]
    omega
  · rw [sortWorldK, heap_grow_old _ _ (by simp only [putRowK, size_putRow, ha]; omega)]
    simp only [putRowK, putRow, mapBlock, ha]
    rw [Array.getElem?_modify, if_neg (by omega)]
set_option maxHeartbeats 400000 in
theorem sortS_calls (g off cap : Nat) (D : List Sd) (w : World) (hr : RowS w g off D.toArray) (hg : g < w.heap.size) (hl : D.length ≤ 1000000) :
    Calls Try.prog 22 #[.slice (some ⟨g, off, none⟩) D.length cap, .func (.func 23) #[] #[]] w fun e w' => e = .returned (.tuple #[]) ∧ ∃ D' : List Sd, D'.Perm D ∧ SortedS D' ∧ RowS w' g off D'.toArray ∧ ∀ B, B ≤ g → RowKit.Below B w w' := by
  have h := AnyQ.slices_SortFunc Try.laySortS 5 Try.isAgg32 Try.sizeOf32 encS encS_len encS_one cmpS (by rw [ltOf_cmpS]; exact ltS_swo) 23 #[] g off cap D.toArray w (enters_of Try.func23 (by kernel_rfl) rfl) (cmp_lays g off _ w) hr hg (by simp; omega)
  rw [List.size_toArray] at h
  refine Calls.mono h ?_
  rintro e w' ⟨rfl, d', n, os, hp, hs, rfl⟩
  have hsz : d'.size = D.length := by have := hp.1; simpa using this
  refine ⟨rfl, d'.toList, ?_, fun i j hij hj => ?_, ?_, fun B hB => below_sort hg hB⟩
  · have := hp.2.2
    rwa [← hsz, Array.extract_size, hsz, show D.toArray.extract 0 D.length = D.toArray by rw [← List.size_toArray, Array.extract_size], List.toList_toArray] at this
  · have := hs i j (by omega) hij (by simpa [hsz] using hj)
    rw [ltOf_cmpS] at this
    have e : ∀ q, d'.toList.getD q default = d'[q]! := fun q => by rw [← toArr_at]
    rw [e, e]
    exact this
  · exact holdsK_sortWorldK encS 5 w g off n D.toArray d' os hg hr (by simp [hsz])
set_option maxHeartbeats 400000 in
theorem compact0 (a : Option Addr) (cap : Nat) (w : World) :
    Calls Try.prog 24 #[.slice a 0 cap] w fun e w' => e = .returned (.slice a 0 cap) ∧ w' = w := by
  go_enter Try.func24, Try.ntmps24
  go_wp2_with fail
  go_ret
  exact ⟨rfl, rfl⟩

/-- What is told of Of's answer: the slots in their order, each once, if that may be. -/
def OfPost (L : List Sd) (w : World) (e : Ending) (w' : World) : Prop :=
  ∃ D : List Sd, D.Perm L ∧ SortedS D ∧ RowKit.Below w.heap.size w w' ∧ ((rightL (Lib.compact D) = true ∧ ∃ a cap, e = .returned (.tuple #[.slice a (Lib.compact D).length cap, .bool true]) ∧ SIn w' a (Lib.compact D).length (Lib.compact D)) ∨ (rightL (Lib.compact D) = false ∧ e = .returned (.tuple #[.slice none 0 0, .bool false])))
theorem compact_mem {D : List Sd} {z : Sd} (h : z ∈ Lib.compact D) : z ∈ D := by
  unfold Lib.compact Lib.compactUpTo at h
  simp only [List.mem_map, List.mem_filter, List.mem_range] at h
  obtain ⟨j, ⟨hj, _⟩, rfl⟩ := h
  rw [toArr_at]
  exact getD_mem hj

set_option maxHeartbeats 1000000 in
theorem of_calls (a : Option Addr) (len cap : Nat) (L : List Sd) (w : World) (hs : SIn w a len L) (hlen : len ≤ 1000000) :
    Calls Try.prog 6 #[.slice a len cap] w (OfPost L w) := by
  have HC := Lib.hid (clone_calls a len cap L w hs hlen)
  have HL := Lib.hid hs.leng
  have HF := Lib.hid hs.fits
  clear hs
  by_cases h0 : 0 < len
  case neg =>
    obtain rfl : len = 0 := by omega
    have HN : Hid (L = []) := Lib.hid (List.length_eq_zero_iff.1 HL.out)
    have HS := Lib.hid (fun p c w1 => AnyF.slices_SortFunc_none Try.laySortS p c (.func (.func 23) #[] #[]) w1)
    change Hid (∀ p c w1, Calls Try.prog 22 _ _ _) at HS
    have HK := Lib.hid (fun p c w1 => compact0 p c w1)
    have HR := Lib.hid (fun p c w1 => bRight_calls p 0 c [] w1 SIn.none')
    change Hid (∀ p c w1, Calls Try.prog 7 _ _ fun e w' => e = .returned (.bool true) ∧ _) at HR
    go_enter Try.func6, Try.ntmps6
    go_wp2_with fail
    refine HC.out.mono ?_
    rintro e w1 ⟨o, rfl, ho, k1⟩
    obtain ⟨oa, oc, rfl⟩ := own_slice ho
    have HB1 := Lib.hid k1
    clear ho k1
    go_wp2_with fail
    refine (HS.out _ _ _).mono ?_
    rintro e w2 ⟨rfl, rfl⟩
    go_wp2_with fail
    refine (HK.out _ _ _).mono ?_
    rintro e w3 ⟨rfl, rfl⟩
    go_wp2_with fail
    refine (HR.out _ _ _).mono ?_
    rintro e w4 ⟨rfl, k4⟩
    have HB4 := Lib.hid (HB1.out.trans (k4.mono HB1.out.size))
    clear k4
    go_wp2_with fail
    go_ret2
    refine ⟨[], by rw [HN.out], fun i j hij hj => by simp at hj, HB4.out, .inl ⟨rfl, oa, oc, rfl, SIn.none'⟩⟩
  case pos =>
    have HS := Lib.hid (fun g cap D w1 (hr : RowS w1 g 0 D.toArray) (hg : g < w1.heap.size) (hl : D.length ≤ 1000000) => sortS_calls g 0 cap D w1 hr hg hl)
    have HK := Lib.hid (fun g cap D w1 (hr : RowS w1 g 0 D.toArray) (hc : D.length ≤ cap) (hm : cap ≤ 9223372036854775807) (hg : g < w1.heap.size) => compact_calls g 0 cap D w1 hr hc hm hg)
    have HR := Lib.hid (fun p n c M w1 (h : SIn w1 p n M) => bRight_calls p n c M w1 h)
    go_enter Try.func6, Try.ntmps6
    go_wp2_with fail
    refine HC.out.mono ?_
    rintro e w1 ⟨o, rfl, ho, k1⟩
    obtain ⟨g, oc, rfl, hLl, hoc, hocm, hgb, hg, hrow⟩ := own_row ho h0
    have HB1 := Lib.hid k1
    have H1 := Lib.hid (HS.out g oc L w1 hrow hg (by omega))
    rw [hLl] at H1
    clear ho k1 hrow
    go_wp2_with fail
    refine H1.out.mono ?_
    rintro e w2 ⟨rfl, D, hp, hsd, hr2, hb2⟩
    have hDl : D.length = len := by rw [hp.length_eq, hLl]
    have hg2 : g < w2.heap.size := Nat.lt_of_lt_of_le hg (hb2 g (Nat.le_refl _)).size
    have H2 := Lib.hid (HK.out g oc D w2 hr2 (by omega) (by unfold maxLen at hocm; omega) hg2)
    rw [hDl] at H2
    have HB2 := Lib.hid (HB1.out.trans (hb2 _ hgb))
    have HP := Lib.hid hp
    have HSD := Lib.hid hsd
    have HDL := Lib.hid hDl
    clear hp hsd hr2 hb2 H1 hDl
    go_wp2_with fail
    refine H2.out.mono ?_
    rintro e w3 ⟨rfl, hM, hsz, hb3⟩
    have hMl : (Lib.compact D).length ≤ len := by
      rw [← HDL.out]
      unfold Lib.compact Lib.compactUpTo
      rw [List.length_map]
      exact Nat.le_trans (List.length_filter_le _ _) (by simp)
    have hsin : SIn w3 (some ⟨g, 0, none⟩) (Lib.compact D).length (Lib.compact D) := ⟨rfl, by omega, fun _ => ⟨g, 0, rfl, by omega, hM⟩, fun z hz => HF.out z (HP.out.subset (compact_mem hz))⟩
    have HSI := Lib.hid hsin
    have HB3 := Lib.hid (HB2.out.trans (hb3 _ hgb))
    have H3 := Lib.hid (HR.out (some ⟨g, 0, none⟩) (Lib.compact D).length oc (Lib.compact D) w3 hsin)
    clear hsin hM hb3 H2
    generalize hMM : Lib.compact D = M at H3 HSI
    have HMM := Lib.hid hMM
    clear hMM hMl
    cases hrm : rightL M
    · rw [hrm] at H3
      have HRM := Lib.hid hrm
      clear hrm
      go_wp2_with fail
      refine H3.out.mono ?_
      rintro e w4 ⟨rfl, k4⟩
      have HB4 := Lib.hid (HB3.out.trans (k4.mono HB3.out.size))
      clear k4
      go_wp2_with fail
      go_ret2
      exact ⟨D, HP.out, HSD.out, HB4.out, .inr ⟨by rw [HMM.out, HRM.out], rfl⟩⟩
    · rw [hrm] at H3
      have HRM := Lib.hid hrm
      clear hrm
      go_wp2_with fail
      refine H3.out.mono ?_
      rintro e w4 ⟨rfl, k4⟩
      have HB4 := Lib.hid (HB3.out.trans (k4.mono HB3.out.size))
      have HSI4 := Lib.hid (HSI.out.below k4)
      clear k4
      go_wp2_with fail
      go_ret2
      exact ⟨D, HP.out, HSD.out, HB4.out, .inl ⟨by rw [HMM.out, HRM.out], some ⟨g, 0, none⟩, oc, by rw [HMM.out]; rfl, by rw [HMM.out]; exact HSI4.out⟩⟩
end Go.Proofs.Ytjohiehlnbgdaaa
