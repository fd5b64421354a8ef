/- What the reference's Get and Same do with any slots. -/
import Derived.Test.YtjohiehlnbgdaaaDoorSlot
namespace Go.Proofs.YtjohiehlnbgdaaaDoor
open Go.RowKit
set_option linter.unusedVariables false

/-- What slots have for a variable. -/
def getL (L : List Sd) (v : Int) : Option Vd := (L.find? (fun z => z.x == v)).map Sd.v
def getV (L : List Sd) (v : Int) : Vd := (getL L v).getD default
def getB (L : List Sd) (v : Int) : Bool := (getL L v).isSome
theorem drop_at (L : List Sd) (n : Nat) (h : n < L.length) : L.drop n = L.getD n default :: L.drop (n + 1) := by
  rw [List.drop_eq_getElem_cons h]
  simp [List.getD, h]
theorem get_cons (z : Sd) (L : List Sd) (v : Int) : getL (z :: L) v = if z.x = v then some z.v else getL L v := by
  unfold getL
  rw [List.find?_cons]
  by_cases h : z.x = v
  · rw [if_pos h, show (z.x == v) = true by simpa using h]; rfl
  · rw [if_neg h, show (z.x == v) = false by simpa using h]
theorem get_hit {L : List Sd} {n : Nat} {v : Int} (h : n < L.length) (e : (L.getD n default).x = v) (H : getL L v = getL (L.drop n) v) : getL L v = some (L.getD n default).v := by
  rw [H, drop_at L n h, get_cons, if_pos e]
theorem get_miss {L : List Sd} {n : Nat} {v : Int} (h : n < L.length) (e : (L.getD n default).x ≠ v) (H : getL L v = getL (L.drop n) v) : getL L v = getL (L.drop (n + 1)) v := by
  rw [H, drop_at L n h, get_cons, if_neg e]
theorem getV_none {L : List Sd} {v : Int} (h : getL L v = none) : getV L v = default := by unfold getV; rw [h]; rfl
theorem getB_none {L : List Sd} {v : Int} (h : getL L v = none) : getB L v = false := by unfold getB; rw [h]; rfl
theorem getV_some {L : List Sd} {v : Int} {r : Vd} (h : getL L v = some r) : getV L v = r := by unfold getV; rw [h]; rfl
theorem getB_some {L : List Sd} {v : Int} {r : Vd} (h : getL L v = some r) : getB L v = true := by unfold getB; rw [h]; rfl
theorem SIn.at' {w w' : World} {a : Option Addr} {len : Nat} {L : List Sd} (h : SIn w a len L) (hb : Below w.heap.size w w') {n : Nat} (hn : n < len) : ∃ g off, a = some ⟨g, off, none⟩ ∧ g < w.heap.size ∧ LiesS g (off + n * 5) (L.getD n default) w' := by
  obtain ⟨g, off, e, hg, hr⟩ := h.row (by omega)
  exact ⟨g, off, e, hg, (hr n hn).below hb hg⟩

set_option maxHeartbeats 1000000 in
theorem refGet_calls (a : Option Addr) (len cap : Nat) (L : List Sd) (v : Int) (w : World) (hs : SIn w a len L) :
    Calls Tryd.prog 25 #[.slice a len cap, .int .i64 v] w fun e w' => e = .returned (.tuple #[.agg #[.int .i64 (getV L v).k, .int .i64 (getV L v).i, .string (getV L v).s, .bool (getV L v).b], .bool (getB L v)]) ∧ Below w.heap.size w w' := by
  have H := Lib.hid hs
  have HL := Lib.hid hs.leng
  have HA := Lib.hid ((Below.refl w.heap.size w).alloc (Nat.le_refl _) (.cells #[.int .i64 0, .int .i64 0, .string ⟨#[]⟩, .bool false] 34))
  have hsm := hs.small
  clear hs
  go_enter Tryd.func25, Tryd.ntmps25
  go_wp2_with fail
  go_loopw [6] (fun i wr => ∃ (n : Nat), n ≤ len ∧ i = .int .i64 n ∧ Hid (getL L v = getL (L.drop n) v) ∧ wr = w.alloc (.cells #[.int .i64 0, .int .i64 0, .string ⟨#[]⟩, .bool false] 34)) (fun i _ => len - (intOf i).toNat)
  case atStart => exact ⟨0, Nat.zero_le _, rfl, Lib.hid rfl, rfl⟩
  case round =>
    obtain ⟨n, hn, rfl, HG, rfl⟩ := hrel
    by_cases h : n < len
    case neg =>
      obtain rfl : n = len := by omega
      have HX : Hid (getL L v = none) := Lib.hid (by rw [HG.out, List.drop_eq_nil_iff.2 (by rw [HL.out]; exact Nat.le_refl _)]; rfl)
      go_wp2_with fail
      refine bodyPost_ret (v := .tuple #[.agg #[.int .i64 0, .int .i64 0, .string ⟨#[]⟩, .bool false], .bool false]) ?_ rfl ⟨by rw [getV_none HX.out, getB_none HX.out]; rfl, ?_⟩
      · rw [results_cell_tmp rfl]
        go_simp
      · exact (Below.refl _ w).alloc (Nat.le_refl _) _
    case pos =>
      obtain ⟨g, off, rfl, hg, hc⟩ := H.out.at' HA.out h
      have hlt : n < L.length := by rw [HL.out]; exact h
      have HH := Lib.hid (fun e => get_hit (n := n) hlt e HG.out)
      have HM := Lib.hid (fun e => get_miss (n := n) hlt e HG.out)
      generalize L.getD n default = z at hc HH HM
      obtain ⟨c0, c1, c2, c3, c4⟩ := hc
      by_cases hz : z.x = v
      · have HX := Lib.hid (HH.out hz)
        have t1 : (z.x == v) = true := by simpa using hz
        clear hz
        go_wp2_with fail
        refine bodyPost_ret (v := .tuple #[.agg #[.int .i64 z.v.k, .int .i64 z.v.i, .string z.v.s, .bool z.v.b], .bool true]) ?_ rfl ⟨by rw [getV_some HX.out, getB_some HX.out], ?_⟩
        · rw [results_cell_tmp rfl]
          go_simp
        · exact (Below.refl _ w).alloc (Nat.le_refl _) _
      · have HX := Lib.hid (HM.out hz)
        have t1 : (z.x == v) = false := by simpa using hz
        clear hz
        go_wp2_with fail
        go_roundw
        case rel => exact ⟨n + 1, by omega, by go_num, HX, by simp⟩
        case measure => simp [intOf]; omega

theorem same_take {L M : List Sd} {n : Nat} (h1 : n < L.length) (h2 : n < M.length) (h : L.take n = M.take n) (e : L.getD n default = M.getD n default) : L.take (n + 1) = M.take (n + 1) := by
  rw [List.take_succ_eq_append_getElem h1, List.take_succ_eq_append_getElem h2, h]
  simp [List.getD, h1, h2] at e
  rw [e]
theorem neq_at {L M : List Sd} {n : Nat} (e : L.getD n default ≠ M.getD n default) : L ≠ M := fun h => e (by rw [h])

set_option maxHeartbeats 1000000 in
theorem refSame_calls (a : Option Addr) (len cap : Nat) (L : List Sd) (a' : Option Addr) (len' cap' : Nat) (M : List Sd) (w : World) (hs : SIn w a len L) (hs' : SIn w a' len' M) :
    Calls Tryd.prog 13 #[.slice a len cap, .slice a' len' cap'] w fun e w' => e = .returned (.bool (decide (L = M))) ∧ Below w.heap.size w w' := by
  have H := Lib.hid hs
  have H' := Lib.hid hs'
  have HL := Lib.hid hs.leng
  have HL' := Lib.hid hs'.leng
  have hsm := hs.small
  have hsm' := hs'.small
  clear hs hs'
  by_cases hll : len = len'
  case neg =>
    have t0 : ((len : Int) != (len' : Int)) = true := by rw [bne_iff_ne]; omega
    have HX : Hid (decide (L = M) = false) := Lib.hid (decide_eq_false (fun e => hll (by rw [← HL.out, ← HL'.out, e])))
    go_enter Tryd.func13, Tryd.ntmps13
    go_wp2_with fail
    go_ret
    exact ⟨by rw [HX.out]; rfl, Below.refl _ _⟩
  subst hll
  have t0 : ((len : Int) != (len : Int)) = false := by simp
  go_enter Tryd.func13, Tryd.ntmps13
  go_wp2_with fail
  go_loopw [5] (fun i wr => ∃ (n : Nat), n ≤ len ∧ i = .int .i64 n ∧ Hid (L.take n = M.take n) ∧ Hid (Below w.heap.size w wr)) (fun i _ => len - (intOf i).toNat)
  case atStart => exact ⟨0, Nat.zero_le _, rfl, Lib.hid rfl, Lib.hid (Below.refl _ _)⟩
  case round =>
    obtain ⟨n, hn, rfl, HT, HB⟩ := hrel
    by_cases h : n < len
    case neg =>
      obtain rfl : n = len := by omega
      have HX : Hid (decide (L = M) = true) := Lib.hid (decide_eq_true (by have := HT.out; rwa [List.take_of_length_le (by rw [HL.out]; exact Nat.le_refl _), List.take_of_length_le (by rw [HL'.out]; exact Nat.le_refl _)] at this))
      go_wp2_with fail
      go_ret
      exact ⟨by rw [HX.out]; rfl, HB.out⟩
    case pos =>
      obtain ⟨g, off, rfl, hg, hc⟩ := H.out.at' HB.out h
      obtain ⟨g', off', rfl, hg', hc'⟩ := H'.out.at' HB.out h
      have HE := Lib.hid (same_take (n := n) (by rw [HL.out]; exact h) (by rw [HL'.out]; exact h) HT.out)
      have HN := Lib.hid (neq_at (L := L) (M := M) (n := n))
      generalize L.getD n default = z at hc HE HN
      generalize M.getD n default = y at hc' HE HN
      obtain ⟨c0, c1, c2, c3, c4⟩ := hc
      obtain ⟨d0, d1, d2, d3, d4⟩ := hc'
      have q1 := eqInS z y
      have q2 := guardS
      by_cases hz : z = y
      · have HX := Lib.hid (HE.out hz)
        rw [decide_eq_true hz] at q1
        clear hz
        go_wp2_with fail
        go_quiet (fail)
        go_wp2_with fail
        go_roundw
        case rel => exact ⟨n + 1, by omega, by go_num, HX, Lib.hid (below_drewN _ HB.out)⟩
        case measure => simp [intOf]; omega
      · have HX : Hid (decide (L = M) = false) := Lib.hid (decide_eq_false (HN.out hz))
        rw [decide_eq_false hz] at q1
        clear hz
        go_wp2_with fail
        go_quiet (fail)
        go_wp2_with fail
        go_ret
        exact ⟨by rw [HX.out]; rfl, below_drewN _ HB.out⟩
end Go.Proofs.YtjohiehlnbgdaaaDoor
