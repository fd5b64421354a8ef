/- Lists of bindings in memory; and what the reference's Has does with them. -/
import Derived.Test.YtjohiehlnbgdaaaDoorSlotRight
import Derived.Test.YtjohiehlnbgdaaaDoorSlotRefUnion
import Derived.Deep.RegionHeld3
namespace Go.Proofs.YtjohiehlnbgdaaaDoor
open Go.RowKit
set_option linter.unusedVariables false

/-- The bindings that slices stand for. -/
structure Vs (w : World) (vs : List Value) (LL : List (List Sd)) : Prop where
  leng : vs.length = LL.length
  at' : ∀ n, n < LL.length → ∃ a c, vs[n]? = some (.slice a (LL.getD n []).length c) ∧ SIn w a (LL.getD n []).length (LL.getD n [])
theorem Vs.below {w w' : World} {vs : List Value} {LL : List (List Sd)} (h : Vs w vs LL) (hb : Below w.heap.size w w') : Vs w' vs LL :=
  ⟨h.leng, fun n hn => by
    obtain ⟨a, c, e, hs⟩ := h.at' n hn
    exact ⟨a, c, e, hs.below hb⟩⟩
theorem Vs.nil (w : World) : Vs w [] [] := ⟨rfl, fun n hn => by simp at hn⟩
theorem Vs.one {w : World} {a : Option Addr} {c : Nat} {L : List Sd} (h : SIn w a L.length L) : Vs w [.slice a L.length c] [L] :=
  ⟨rfl, fun n hn => by
    obtain rfl : n = 0 := by simpa using hn
    exact ⟨a, c, rfl, h⟩⟩
theorem Vs.append {w : World} {vs us : List Value} {LL MM : List (List Sd)} (h : Vs w vs LL) (k : Vs w us MM) : Vs w (vs ++ us) (LL ++ MM) :=
  ⟨by simp [h.leng, k.leng], fun n hn => by
    by_cases e : n < LL.length
    · obtain ⟨a, c, e1, hs⟩ := h.at' n e
      have e2 : (LL ++ MM).getD n [] = LL.getD n [] := by simp [List.getD, List.getElem?_append_left e]
      rw [e2]
      exact ⟨a, c, by rw [List.getElem?_append_left (by rw [h.leng]; exact e)]; exact e1, hs⟩
    · obtain ⟨a, c, e1, hs⟩ := k.at' (n - LL.length) (by rw [List.length_append] at hn; omega)
      have e2 : (LL ++ MM).getD n [] = MM.getD (n - LL.length) [] := by simp [List.getD, List.getElem?_append_right (Nat.le_of_not_lt e)]
      rw [e2]
      exact ⟨a, c, by rw [List.getElem?_append_right (by rw [h.leng]; omega), h.leng]; exact e1, hs⟩⟩
theorem Vs.take {w : World} {vs : List Value} {LL : List (List Sd)} (h : Vs w vs LL) (m : Nat) : Vs w (vs.take m) (LL.take m) :=
  ⟨by simp [h.leng], fun n hn => by
    rw [List.length_take] at hn
    obtain ⟨a, c, e1, hs⟩ := h.at' n (by omega)
    have e2 : (LL.take m).getD n [] = LL.getD n [] := by simp [List.getD, show n < m by omega]
    rw [e2]
    exact ⟨a, c, by rw [List.getElem?_take, if_pos (by omega)]; exact e1, hs⟩⟩
theorem Vs.drop {w : World} {vs : List Value} {LL : List (List Sd)} (h : Vs w vs LL) (m : Nat) : Vs w (vs.drop m) (LL.drop m) :=
  ⟨by simp [h.leng], fun n hn => by
    rw [List.length_drop] at hn
    obtain ⟨a, c, e1, hs⟩ := h.at' (m + n) (by omega)
    have e2 : (LL.drop m).getD n [] = LL.getD (m + n) [] := by simp [List.getD, List.getElem?_drop]
    rw [e2]
    exact ⟨a, c, by rw [List.getElem?_drop]; exact e1, hs⟩⟩
theorem Vs.one' {w : World} {vs : List Value} {LL : List (List Sd)} (h : Vs w vs LL) : ∀ u ∈ vs, u.oneCell' = true := by
  intro u hu
  obtain ⟨j, hj, rfl⟩ := List.getElem_of_mem hu
  obtain ⟨a, c, e, _⟩ := h.at' j (by rw [← h.leng]; exact hj)
  rw [List.getElem?_eq_getElem hj] at e
  rw [Option.some.inj e]
  rfl
/-- A list of bindings in memory. -/
structure LIn (w : World) (a : Option Addr) (len : Nat) (LL : List (List Sd)) (vs : List Value) : Prop where
  vals : Vs w vs LL
  leng : LL.length = len
  small : len ≤ 9223372036854775807
  row : 0 < len → ∃ g off, a = some ⟨g, off, none⟩ ∧ g < w.heap.size ∧ ∀ j u, vs[j]? = some u → w.cell? ⟨g, off + j, none⟩ = some u
theorem LIn.below {w w' : World} {a : Option Addr} {len : Nat} {LL : List (List Sd)} {vs : List Value} (h : LIn w a len LL vs) (hb : Below w.heap.size w w') : LIn w' a len LL vs :=
  ⟨h.vals.below hb, h.leng, h.small, fun h0 => by
    obtain ⟨g, off, e, hg, hr⟩ := h.row h0
    exact ⟨g, off, e, Nat.lt_of_lt_of_le hg hb.size, fun j u hj => (hb.cell (p := ⟨g, off + j, none⟩) hg).trans (hr j u hj)⟩⟩
theorem LIn.none' {w : World} {a : Option Addr} : LIn w a 0 [] [] := ⟨Vs.nil w, rfl, by omega, fun h => by omega⟩
/-- The binding at a place. -/
theorem LIn.at' {w w' : World} {a : Option Addr} {len : Nat} {LL : List (List Sd)} {vs : List Value} (h : LIn w a len LL vs) (hb : Below w.heap.size w w') {n : Nat} (hn : n < len) :
    ∃ g off b c, a = some ⟨g, off, none⟩ ∧ w'.cell? ⟨g, off + n, none⟩ = some (.slice b (LL.getD n []).length c) ∧ SIn w' b (LL.getD n []).length (LL.getD n []) := by
  have h' := h.below hb
  obtain ⟨g, off, e, hg, hr⟩ := h'.row (by omega)
  obtain ⟨b, c, e1, hs⟩ := h'.vals.at' n (by rw [h'.leng]; exact hn)
  exact ⟨g, off, b, c, e, hr n _ e1, hs⟩
/-- A row of slices that a call has gathered. -/
theorem own_lin {B : Nat} {o : Value} {LL : List (List Sd)} {vs : List Value} {w : World} (h : w.ownsRow B 22 1 o LL.length vs) (hv : Vs w vs LL) : ∃ a cap, o = .slice a LL.length cap ∧ LIn w a LL.length LL vs := by
  obtain ⟨hl, hown⟩ := h
  rcases hown with ⟨rfl, h0⟩ | ⟨g, cap, cur, rfl, h1, hg, hcap, hm, hsz, htk⟩
  · exact ⟨none, 0, by rw [h0], ⟨hv, rfl, by omega, fun h => by omega⟩⟩
  · refine ⟨_, cap, rfl, ⟨hv, rfl, by unfold maxLen at hm; omega, fun _ => ⟨g, 0, rfl, (Array.getElem?_eq_some_iff.1 hg).1, fun j u hj => ?_⟩⟩⟩
    have hjl : j < LL.length := by rw [← hv.leng]; exact (List.getElem?_eq_some_iff.1 hj).1
    rw [Nat.zero_add, cell_of_row w g j cur _ (0, 0) hg]
    rw [← htk, List.getElem?_take, if_pos (by omega)] at hj
    simpa using hj
theorem infoL : (Tryd.prog.info? 22).map (fun i => (i.zero, i.size, i.bytes)) = some (some (.slice none 0 0), 1, 24) := by kernel_rfl
theorem dropL_at (LL : List (List Sd)) (n : Nat) (h : n < LL.length) : LL.drop n = LL.getD n [] :: LL.drop (n + 1) := by
  rw [List.drop_eq_getElem_cons h]
  simp [List.getD, h]

set_option maxHeartbeats 1000000 in
theorem refHas_calls (a : Option Addr) (len cap : Nat) (LL : List (List Sd)) (vs : List Value) (b : Option Addr) (lb cb : Nat) (B : List Sd) (w : World) (hl : LIn w a len LL vs) (hb : SIn w b lb B) :
    Calls Tryd.prog 37 #[.slice a len cap, .slice b lb cb] w fun e w' => e = .returned (.bool (decide (B ∈ LL))) ∧ Below w.heap.size w w' := by
  have H := Lib.hid hl
  have HL := Lib.hid hl.leng
  have hsm := hl.small
  have HC := Lib.hid (fun (x : Option Addr) (lx cx : Nat) (X : List Sd) w1 (hx : SIn w1 x lx X) (k : Below w.heap.size w w1) => refSame_calls x lx cx X b lb cb B w1 hx (hb.below k))
  clear hl hb
  go_enter Tryd.func37, Tryd.ntmps37
  go_wp2_with fail
  go_loopw [5] (fun i wr => ∃ (n : Nat), n ≤ len ∧ i = .int .i64 n ∧ Hid (B ∈ LL ↔ B ∈ LL.drop n) ∧ Hid (Below w.heap.size w wr)) (fun i _ => len - (intOf i).toNat)
  case atStart => exact ⟨0, Nat.zero_le _, rfl, Lib.hid Iff.rfl, Lib.hid (Below.refl _ _)⟩
  case round =>
    obtain ⟨n, hn, rfl, HX, HB⟩ := hrel
    by_cases h : n < len
    case neg =>
      obtain rfl : n = len := by omega
      have HE : Hid (decide (B ∈ LL) = false) := Lib.hid (decide_eq_false (by rw [HX.out, List.drop_eq_nil_iff.2 (by rw [HL.out]; exact Nat.le_refl _)]; simp))
      go_wp2_with fail
      go_ret
      exact ⟨by rw [HE.out]; rfl, HB.out⟩
    case pos =>
      obtain ⟨g, off, xa, xc, rfl, hc, hx⟩ := H.out.at' HB.out h
      have HD := Lib.hid (dropL_at LL n (by rw [HL.out]; exact h))
      generalize LL.getD n [] = X at hc hx HD
      have H1 := Lib.hid (HC.out xa X.length xc X _ hx HB.out)
      clear hx
      by_cases e : X = B
      · have HE : Hid (decide (B ∈ LL) = true) := Lib.hid (decide_eq_true (by rw [HX.out, HD.out, e]; simp))
        rw [decide_eq_true e] at H1
        clear e
        go_wp2_with fail
        refine H1.out.mono ?_
        rintro e w1 ⟨rfl, k1⟩
        have HB1 := Lib.hid (HB.out.trans (k1.mono HB.out.size))
        clear k1
        go_wp2_with fail
        go_ret
        exact ⟨by rw [HE.out]; rfl, HB1.out⟩
      · have HX2 : Hid (B ∈ LL ↔ B ∈ LL.drop (n + 1)) := Lib.hid (by rw [HX.out, HD.out, List.mem_cons]; exact ⟨fun h => h.elim (fun h => absurd h.symm e) id, .inr⟩)
        rw [decide_eq_false e] at H1
        clear e
        go_wp2_with fail
        refine H1.out.mono ?_
        rintro e w1 ⟨rfl, k1⟩
        have HB1 := Lib.hid (HB.out.trans (k1.mono HB.out.size))
        clear k1
        go_wp2_with fail
        go_roundw
        case rel => exact ⟨n + 1, by omega, by go_num, HX2, HB1⟩
        case measure => simp [intOf]; omega
end Go.Proofs.YtjohiehlnbgdaaaDoor
