/- What slices.Equal does with any two lists of a tree's parts. -/
import Derived.Test.YtojabkhfkbfeaaaGreatDoorTreeEqIn
import Derived.BigQuiet
namespace Go.Proofs.YtojabkhfkbfeaaaGreatDoor
open Go.RowKit
set_option linter.unusedVariables false


set_option maxHeartbeats 1000000 in
set_option maxRecDepth 100000 in
theorem equalAg_calls {T T' : TypeId} {O O' : Prop} (a : Option Addr) (len cap : Nat) (L : List Ag) (a' : Option Addr) (len' cap' : Nat) (M : List Ag) (w : World) (hs : GIn rAg T O 8 w a len L) (hs' : GIn rAg T' O' 8 w a' len' M) :
    Calls Tryz.prog 104 #[.slice a len cap, .slice a' len' cap'] w fun e w' => e = .returned (.bool (decide (L = M))) ∧ Below w.heap.size w w' := by
  have H := Lib.hid hs
  have H' := Lib.hid hs'
  have HL := Lib.hid hs.leng
  have HL' := Lib.hid hs'.leng
  have hsm := hs.small
  have hsm' := hs'.small
  clear hs hs'
  by_cases hll : len = len'
  case neg =>
    have t0 : ((len : Int) != (len' : Int)) = true := by rw [bne_iff_ne]; omega
    have HX : Hid (decide (L = M) = false) := Lib.hid (decide_eq_false (fun e => hll (by rw [← HL.out, ← HL'.out, e])))
    go_enter Tryz.func104, Tryz.ntmps104
    go_wp2_with fail
    go_ret
    exact ⟨by rw [HX.out]; rfl, Below.refl _ _⟩
  subst hll
  have t0 : ((len : Int) != (len : Int)) = false := by simp
  go_enter Tryz.func104, Tryz.ntmps104
  go_wp2_with fail
  go_loopw [13] (fun i wr => ∃ (n : Nat), n ≤ len ∧ i = .int .i64 n ∧ Hid (L.take n = M.take n) ∧ Hid (Below w.heap.size w wr)) (fun i _ => len - (intOf i).toNat)
  case atStart => exact ⟨0, Nat.zero_le _, rfl, Lib.hid rfl, Lib.hid (Below.refl _ _)⟩
  case round =>
    obtain ⟨n, hn, rfl, HT, HB⟩ := hrel
    by_cases h : n < len
    case neg =>
      obtain rfl : n = len := by omega
      have HX : Hid (decide (L = M) = true) := Lib.hid (decide_eq_true (by have := HT.out; rwa [List.take_of_length_le (by rw [HL.out]; exact Nat.le_refl _), List.take_of_length_le (by rw [HL'.out]; exact Nat.le_refl _)] at this))
      go_wp2_with fail
      go_ret
      exact ⟨by rw [HX.out]; rfl, HB.out⟩
    case pos =>
      obtain ⟨x, hx⟩ := at_some HL.out h
      obtain ⟨y, hy⟩ := at_some HL'.out h
      obtain ⟨g, off, rfl, hg, hc, _⟩ := (H.out.belowF HB.out).flat hx
      obtain ⟨g', off', rfl, hg', hd, _⟩ := (H'.out.belowF HB.out).flat hy
      have HE := Lib.hid (take_sameG hx hy HT.out)
      have HN := Lib.hid (ne_atG hx hy)
      have c0 : wr.cell? ⟨g, off + n * 8, none⟩ = some (.int .i64 x.k) := hc 0 _ rfl
      have c1 : wr.cell? ⟨g, off + n * 8 + 1, none⟩ = some (.string x.n) := hc 1 _ rfl
      have c2 : wr.cell? ⟨g, off + n * 8 + 2, none⟩ = some (.int .i64 x.v.k) := hc 2 _ rfl
      have c3 : wr.cell? ⟨g, off + n * 8 + 3, none⟩ = some (.int .i64 x.v.i) := hc 3 _ rfl
      have c4 : wr.cell? ⟨g, off + n * 8 + 4, none⟩ = some (.string x.v.s) := hc 4 _ rfl
      have c5 : wr.cell? ⟨g, off + n * 8 + 5, none⟩ = some (.bool x.v.b) := hc 5 _ rfl
      have c6 : wr.cell? ⟨g, off + n * 8 + 6, none⟩ = some (.int .i64 x.l) := hc 6 _ rfl
      have c7 : wr.cell? ⟨g, off + n * 8 + 7, none⟩ = some (.int .i64 x.c) := hc 7 _ rfl
      have d0 : wr.cell? ⟨g', off' + n * 8, none⟩ = some (.int .i64 y.k) := hd 0 _ rfl
      have d1 : wr.cell? ⟨g', off' + n * 8 + 1, none⟩ = some (.string y.n) := hd 1 _ rfl
      have d2 : wr.cell? ⟨g', off' + n * 8 + 2, none⟩ = some (.int .i64 y.v.k) := hd 2 _ rfl
      have d3 : wr.cell? ⟨g', off' + n * 8 + 3, none⟩ = some (.int .i64 y.v.i) := hd 3 _ rfl
      have d4 : wr.cell? ⟨g', off' + n * 8 + 4, none⟩ = some (.string y.v.s) := hd 4 _ rfl
      have d5 : wr.cell? ⟨g', off' + n * 8 + 5, none⟩ = some (.bool y.v.b) := hd 5 _ rfl
      have d6 : wr.cell? ⟨g', off' + n * 8 + 6, none⟩ = some (.int .i64 y.l) := hd 6 _ rfl
      have d7 : wr.cell? ⟨g', off' + n * 8 + 7, none⟩ = some (.int .i64 y.c) := hd 7 _ rfl
      clear hc hd hx hy
      have q1 := eqInAg x y
      have q2 := guardAg
      by_cases hz : x = y
      · have HX := Lib.hid (HE.out hz)
        rw [decide_eq_true hz] at q1
        clear hz
        go_wp2_with fail
        go_quiet (fail)
        go_wp2_with fail
        go_roundw
        case rel => exact ⟨n + 1, by omega, by go_num, HX, Lib.hid (below_drewN _ HB.out)⟩
        case measure => simp [intOf]; omega
      · have HX : Hid (decide (L = M) = false) := Lib.hid (decide_eq_false (HN.out hz))
        rw [decide_eq_false hz] at q1
        clear hz
        go_wp2_with fail
        go_quiet (fail)
        go_wp2_with fail
        go_ret
        exact ⟨by rw [HX.out]; rfl, below_drewN _ HB.out⟩

set_option maxHeartbeats 1000000 in
set_option maxRecDepth 100000 in
theorem equalEx_calls {T T' : TypeId} {O O' : Prop} (a : Option Addr) (len cap : Nat) (L : List Ex) (a' : Option Addr) (len' cap' : Nat) (M : List Ex) (w : World) (hs : GIn rEx T O 10 w a len L) (hs' : GIn rEx T' O' 10 w a' len' M) :
    Calls Tryz.prog 105 #[.slice a len cap, .slice a' len' cap'] w fun e w' => e = .returned (.bool (decide (L = M))) ∧ Below w.heap.size w w' := by
  have H := Lib.hid hs
  have H' := Lib.hid hs'
  have HL := Lib.hid hs.leng
  have HL' := Lib.hid hs'.leng
  have hsm := hs.small
  have hsm' := hs'.small
  clear hs hs'
  by_cases hll : len = len'
  case neg =>
    have t0 : ((len : Int) != (len' : Int)) = true := by rw [bne_iff_ne]; omega
    have HX : Hid (decide (L = M) = false) := Lib.hid (decide_eq_false (fun e => hll (by rw [← HL.out, ← HL'.out, e])))
    go_enter Tryz.func105, Tryz.ntmps105
    go_wp2_with fail
    go_ret
    exact ⟨by rw [HX.out]; rfl, Below.refl _ _⟩
  subst hll
  have t0 : ((len : Int) != (len : Int)) = false := by simp
  go_enter Tryz.func105, Tryz.ntmps105
  go_wp2_with fail
  go_loopw [13] (fun i wr => ∃ (n : Nat), n ≤ len ∧ i = .int .i64 n ∧ Hid (L.take n = M.take n) ∧ Hid (Below w.heap.size w wr)) (fun i _ => len - (intOf i).toNat)
  case atStart => exact ⟨0, Nat.zero_le _, rfl, Lib.hid rfl, Lib.hid (Below.refl _ _)⟩
  case round =>
    obtain ⟨n, hn, rfl, HT, HB⟩ := hrel
    by_cases h : n < len
    case neg =>
      obtain rfl : n = len := by omega
      have HX : Hid (decide (L = M) = true) := Lib.hid (decide_eq_true (by have := HT.out; rwa [List.take_of_length_le (by rw [HL.out]; exact Nat.le_refl _), List.take_of_length_le (by rw [HL'.out]; exact Nat.le_refl _)] at this))
      go_wp2_with fail
      go_ret
      exact ⟨by rw [HX.out]; rfl, HB.out⟩
    case pos =>
      obtain ⟨x, hx⟩ := at_some HL.out h
      obtain ⟨y, hy⟩ := at_some HL'.out h
      obtain ⟨g, off, rfl, hg, hc, _⟩ := (H.out.belowF HB.out).flat hx
      obtain ⟨g', off', rfl, hg', hd, _⟩ := (H'.out.belowF HB.out).flat hy
      have HE := Lib.hid (take_sameG hx hy HT.out)
      have HN := Lib.hid (ne_atG hx hy)
      have c0 : wr.cell? ⟨g, off + n * 10, none⟩ = some (.int .i64 x.op) := hc 0 _ rfl
      have c1 : wr.cell? ⟨g, off + n * 10 + 1, none⟩ = some (.int .i64 x.a) := hc 1 _ rfl
      have c2 : wr.cell? ⟨g, off + n * 10 + 2, none⟩ = some (.int .i64 x.b) := hc 2 _ rfl
      have c3 : wr.cell? ⟨g, off + n * 10 + 3, none⟩ = some (.string x.n) := hc 3 _ rfl
      have c4 : wr.cell? ⟨g, off + n * 10 + 4, none⟩ = some (.int .i64 x.v.k) := hc 4 _ rfl
      have c5 : wr.cell? ⟨g, off + n * 10 + 5, none⟩ = some (.int .i64 x.v.i) := hc 5 _ rfl
      have c6 : wr.cell? ⟨g, off + n * 10 + 6, none⟩ = some (.string x.v.s) := hc 6 _ rfl
      have c7 : wr.cell? ⟨g, off + n * 10 + 7, none⟩ = some (.bool x.v.b) := hc 7 _ rfl
      have c8 : wr.cell? ⟨g, off + n * 10 + 8, none⟩ = some (.int .i64 x.l) := hc 8 _ rfl
      have c9 : wr.cell? ⟨g, off + n * 10 + 9, none⟩ = some (.int .i64 x.c) := hc 9 _ rfl
      have d0 : wr.cell? ⟨g', off' + n * 10, none⟩ = some (.int .i64 y.op) := hd 0 _ rfl
      have d1 : wr.cell? ⟨g', off' + n * 10 + 1, none⟩ = some (.int .i64 y.a) := hd 1 _ rfl
      have d2 : wr.cell? ⟨g', off' + n * 10 + 2, none⟩ = some (.int .i64 y.b) := hd 2 _ rfl
      have d3 : wr.cell? ⟨g', off' + n * 10 + 3, none⟩ = some (.string y.n) := hd 3 _ rfl
      have d4 : wr.cell? ⟨g', off' + n * 10 + 4, none⟩ = some (.int .i64 y.v.k) := hd 4 _ rfl
      have d5 : wr.cell? ⟨g', off' + n * 10 + 5, none⟩ = some (.int .i64 y.v.i) := hd 5 _ rfl
      have d6 : wr.cell? ⟨g', off' + n * 10 + 6, none⟩ = some (.string y.v.s) := hd 6 _ rfl
      have d7 : wr.cell? ⟨g', off' + n * 10 + 7, none⟩ = some (.bool y.v.b) := hd 7 _ rfl
      have d8 : wr.cell? ⟨g', off' + n * 10 + 8, none⟩ = some (.int .i64 y.l) := hd 8 _ rfl
      have d9 : wr.cell? ⟨g', off' + n * 10 + 9, none⟩ = some (.int .i64 y.c) := hd 9 _ rfl
      clear hc hd hx hy
      have q1 := eqInEx x y
      have q2 := guardEx
      by_cases hz : x = y
      · have HX := Lib.hid (HE.out hz)
        rw [decide_eq_true hz] at q1
        clear hz
        go_wp2_with fail
        go_quiet (fail)
        go_wp2_with fail
        go_roundw
        case rel => exact ⟨n + 1, by omega, by go_num, HX, Lib.hid (below_drewN _ HB.out)⟩
        case measure => simp [intOf]; omega
      · have HX : Hid (decide (L = M) = false) := Lib.hid (decide_eq_false (HN.out hz))
        rw [decide_eq_false hz] at q1
        clear hz
        go_wp2_with fail
        go_quiet (fail)
        go_wp2_with fail
        go_ret
        exact ⟨by rw [HX.out]; rfl, below_drewN _ HB.out⟩

set_option maxHeartbeats 1000000 in
set_option maxRecDepth 100000 in
theorem equalSe_calls {T T' : TypeId} {O O' : Prop} (a : Option Addr) (len cap : Nat) (L : List Se) (a' : Option Addr) (len' cap' : Nat) (M : List Se) (w : World) (hs : GIn rSe T O 4 w a len L) (hs' : GIn rSe T' O' 4 w a' len' M) :
    Calls Tryz.prog 106 #[.slice a len cap, .slice a' len' cap'] w fun e w' => e = .returned (.bool (decide (L = M))) ∧ Below w.heap.size w w' := by
  have H := Lib.hid hs
  have H' := Lib.hid hs'
  have HL := Lib.hid hs.leng
  have HL' := Lib.hid hs'.leng
  have hsm := hs.small
  have hsm' := hs'.small
  clear hs hs'
  by_cases hll : len = len'
  case neg =>
    have t0 : ((len : Int) != (len' : Int)) = true := by rw [bne_iff_ne]; omega
    have HX : Hid (decide (L = M) = false) := Lib.hid (decide_eq_false (fun e => hll (by rw [← HL.out, ← HL'.out, e])))
    go_enter Tryz.func106, Tryz.ntmps106
    go_wp2_with fail
    go_ret
    exact ⟨by rw [HX.out]; rfl, Below.refl _ _⟩
  subst hll
  have t0 : ((len : Int) != (len : Int)) = false := by simp
  go_enter Tryz.func106, Tryz.ntmps106
  go_wp2_with fail
  go_loopw [13] (fun i wr => ∃ (n : Nat), n ≤ len ∧ i = .int .i64 n ∧ Hid (L.take n = M.take n) ∧ Hid (Below w.heap.size w wr)) (fun i _ => len - (intOf i).toNat)
  case atStart => exact ⟨0, Nat.zero_le _, rfl, Lib.hid rfl, Lib.hid (Below.refl _ _)⟩
  case round =>
    obtain ⟨n, hn, rfl, HT, HB⟩ := hrel
    by_cases h : n < len
    case neg =>
      obtain rfl : n = len := by omega
      have HX : Hid (decide (L = M) = true) := Lib.hid (decide_eq_true (by have := HT.out; rwa [List.take_of_length_le (by rw [HL.out]; exact Nat.le_refl _), List.take_of_length_le (by rw [HL'.out]; exact Nat.le_refl _)] at this))
      go_wp2_with fail
      go_ret
      exact ⟨by rw [HX.out]; rfl, HB.out⟩
    case pos =>
      obtain ⟨x, hx⟩ := at_some HL.out h
      obtain ⟨y, hy⟩ := at_some HL'.out h
      obtain ⟨g, off, rfl, hg, hc, _⟩ := (H.out.belowF HB.out).flat hx
      obtain ⟨g', off', rfl, hg', hd, _⟩ := (H'.out.belowF HB.out).flat hy
      have HE := Lib.hid (take_sameG hx hy HT.out)
      have HN := Lib.hid (ne_atG hx hy)
      have c0 : wr.cell? ⟨g, off + n * 4, none⟩ = some (.string x.n.t) := hc 0 _ rfl
      have c1 : wr.cell? ⟨g, off + n * 4 + 1, none⟩ = some (.int .i64 x.n.l) := hc 1 _ rfl
      have c2 : wr.cell? ⟨g, off + n * 4 + 2, none⟩ = some (.int .i64 x.n.c) := hc 2 _ rfl
      have c3 : wr.cell? ⟨g, off + n * 4 + 3, none⟩ = some (.int .i64 x.e) := hc 3 _ rfl
      have d0 : wr.cell? ⟨g', off' + n * 4, none⟩ = some (.string y.n.t) := hd 0 _ rfl
      have d1 : wr.cell? ⟨g', off' + n * 4 + 1, none⟩ = some (.int .i64 y.n.l) := hd 1 _ rfl
      have d2 : wr.cell? ⟨g', off' + n * 4 + 2, none⟩ = some (.int .i64 y.n.c) := hd 2 _ rfl
      have d3 : wr.cell? ⟨g', off' + n * 4 + 3, none⟩ = some (.int .i64 y.e) := hd 3 _ rfl
      clear hc hd hx hy
      have q1 := eqInSe x y
      have q2 := guardSe
      by_cases hz : x = y
      · have HX := Lib.hid (HE.out hz)
        rw [decide_eq_true hz] at q1
        clear hz
        go_wp2_with fail
        go_quiet (fail)
        go_wp2_with fail
        go_roundw
        case rel => exact ⟨n + 1, by omega, by go_num, HX, Lib.hid (below_drewN _ HB.out)⟩
        case measure => simp [intOf]; omega
      · have HX : Hid (decide (L = M) = false) := Lib.hid (decide_eq_false (HN.out hz))
        rw [decide_eq_false hz] at q1
        clear hz
        go_wp2_with fail
        go_quiet (fail)
        go_wp2_with fail
        go_ret
        exact ⟨by rw [HX.out]; rfl, below_drewN _ HB.out⟩
end Go.Proofs.YtojabkhfkbfeaaaGreatDoor
