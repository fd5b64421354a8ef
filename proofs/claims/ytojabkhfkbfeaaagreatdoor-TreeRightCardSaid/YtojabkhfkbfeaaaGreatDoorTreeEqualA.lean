/- What slices.Equal does with any two lists of a tree's parts. -/
import Derived.Test.YtojabkhfkbfeaaaGreatDoorTreeEqIn
import Derived.BigQuiet
namespace Go.Proofs.YtojabkhfkbfeaaaGreatDoor
open Go.RowKit
set_option linter.unusedVariables false


set_option maxHeartbeats 1000000 in
set_option maxRecDepth 100000 in
theorem equalInt_calls {T T' : TypeId} {O O' : Prop} (a : Option Addr) (len cap : Nat) (L : List Int) (a' : Option Addr) (len' cap' : Nat) (M : List Int) (w : World) (hs : GIn rInt T O 1 w a len L) (hs' : GIn rInt T' O' 1 w a' len' M) :
    Calls Tryz.prog 103 #[.slice a len cap, .slice a' len' cap'] w fun e w' => e = .returned (.bool (decide (L = M))) ∧ Below w.heap.size w w' := by
  have H := Lib.hid hs
  have H' := Lib.hid hs'
  have HL := Lib.hid hs.leng
  have HL' := Lib.hid hs'.leng
  have hsm := hs.small
  have hsm' := hs'.small
  clear hs hs'
  by_cases hll : len = len'
  case neg =>
    have t0 : ((len : Int) != (len' : Int)) = true := by rw [bne_iff_ne]; omega
    have HX : Hid (decide (L = M) = false) := Lib.hid (decide_eq_false (fun e => hll (by rw [← HL.out, ← HL'.out, e])))
    go_enter Tryz.func103, Tryz.ntmps103
    go_wp2_with fail
    go_ret
    exact ⟨by rw [HX.out]; rfl, Below.refl _ _⟩
  subst hll
  have t0 : ((len : Int) != (len : Int)) = false := by simp
  go_enter Tryz.func103, Tryz.ntmps103
  go_wp2_with fail
  go_loopw [13] (fun i wr => ∃ (n : Nat), n ≤ len ∧ i = .int .i64 n ∧ Hid (L.take n = M.take n) ∧ Hid (Below w.heap.size w wr)) (fun i _ => len - (intOf i).toNat)
  case atStart => exact ⟨0, Nat.zero_le _, rfl, Lib.hid rfl, Lib.hid (Below.refl _ _)⟩
  case round =>
    obtain ⟨n, hn, rfl, HT, HB⟩ := hrel
    by_cases h : n < len
    case neg =>
      obtain rfl : n = len := by omega
      have HX : Hid (decide (L = M) = true) := Lib.hid (decide_eq_true (by have := HT.out; rwa [List.take_of_length_le (by rw [HL.out]; exact Nat.le_refl _), List.take_of_length_le (by rw [HL'.out]; exact Nat.le_refl _)] at this))
      go_wp2_with fail
      go_ret
      exact ⟨by rw [HX.out]; rfl, HB.out⟩
    case pos =>
      obtain ⟨x, hx⟩ := at_some HL.out h
      obtain ⟨y, hy⟩ := at_some HL'.out h
      obtain ⟨g, off, rfl, hg, hc, _⟩ := (H.out.belowF HB.out).flat hx
      obtain ⟨g', off', rfl, hg', hd, _⟩ := (H'.out.belowF HB.out).flat hy
      have HE := Lib.hid (take_sameG hx hy HT.out)
      have HN := Lib.hid (ne_atG hx hy)
      have c0 : wr.cell? ⟨g, off + n, none⟩ = some (.int .i64 x) := by have := hc 0 _ rfl; rwa [Nat.mul_one, Nat.add_zero] at this
      have d0 : wr.cell? ⟨g', off' + n, none⟩ = some (.int .i64 y) := by have := hd 0 _ rfl; rwa [Nat.mul_one, Nat.add_zero] at this
      clear hc hd hx hy
      have t1 : (x != y) = !decide (x = y) := by by_cases e : x = y <;> simp [e]
      by_cases hz : x = y
      · have HX := Lib.hid (HE.out hz)
        rw [decide_eq_true hz, Bool.not_true] at t1
        clear hz
        go_wp2_with fail
        go_quiet (fail)
        go_wp2_with fail
        go_roundw
        case rel => exact ⟨n + 1, by omega, by go_num, HX, Lib.hid (below_drewN _ HB.out)⟩
        case measure => simp [intOf]; omega
      · have HX : Hid (decide (L = M) = false) := Lib.hid (decide_eq_false (HN.out hz))
        rw [decide_eq_false hz, Bool.not_false] at t1
        clear hz
        go_wp2_with fail
        go_quiet (fail)
        go_wp2_with fail
        go_ret
        exact ⟨by rw [HX.out]; rfl, below_drewN _ HB.out⟩

set_option maxHeartbeats 1000000 in
set_option maxRecDepth 100000 in
theorem equalQu_calls {T T' : TypeId} {O O' : Prop} (a : Option Addr) (len cap : Nat) (L : List Qu) (a' : Option Addr) (len' cap' : Nat) (M : List Qu) (w : World) (hs : GIn rQu T O 5 w a len L) (hs' : GIn rQu T' O' 5 w a' len' M) :
    Calls Tryz.prog 56 #[.slice a len cap, .slice a' len' cap'] w fun e w' => e = .returned (.bool (decide (L = M))) ∧ Below w.heap.size w w' := by
  have H := Lib.hid hs
  have H' := Lib.hid hs'
  have HL := Lib.hid hs.leng
  have HL' := Lib.hid hs'.leng
  have hsm := hs.small
  have hsm' := hs'.small
  clear hs hs'
  by_cases hll : len = len'
  case neg =>
    have t0 : ((len : Int) != (len' : Int)) = true := by rw [bne_iff_ne]; omega
    have HX : Hid (decide (L = M) = false) := Lib.hid (decide_eq_false (fun e => hll (by rw [← HL.out, ← HL'.out, e])))
    go_enter Tryz.func56, Tryz.ntmps56
    go_wp2_with fail
    go_ret
    exact ⟨by rw [HX.out]; rfl, Below.refl _ _⟩
  subst hll
  have t0 : ((len : Int) != (len : Int)) = false := by simp
  go_enter Tryz.func56, Tryz.ntmps56
  go_wp2_with fail
  go_loopw [13] (fun i wr => ∃ (n : Nat), n ≤ len ∧ i = .int .i64 n ∧ Hid (L.take n = M.take n) ∧ Hid (Below w.heap.size w wr)) (fun i _ => len - (intOf i).toNat)
  case atStart => exact ⟨0, Nat.zero_le _, rfl, Lib.hid rfl, Lib.hid (Below.refl _ _)⟩
  case round =>
    obtain ⟨n, hn, rfl, HT, HB⟩ := hrel
    by_cases h : n < len
    case neg =>
      obtain rfl : n = len := by omega
      have HX : Hid (decide (L = M) = true) := Lib.hid (decide_eq_true (by have := HT.out; rwa [List.take_of_length_le (by rw [HL.out]; exact Nat.le_refl _), List.take_of_length_le (by rw [HL'.out]; exact Nat.le_refl _)] at this))
      go_wp2_with fail
      go_ret
      exact ⟨by rw [HX.out]; rfl, HB.out⟩
    case pos =>
      obtain ⟨x, hx⟩ := at_some HL.out h
      obtain ⟨y, hy⟩ := at_some HL'.out h
      obtain ⟨g, off, rfl, hg, hc, _⟩ := (H.out.belowF HB.out).flat hx
      obtain ⟨g', off', rfl, hg', hd, _⟩ := (H'.out.belowF HB.out).flat hy
      have HE := Lib.hid (take_sameG hx hy HT.out)
      have HN := Lib.hid (ne_atG hx hy)
      have c0 : wr.cell? ⟨g, off + n * 5, none⟩ = some (.bool x.all) := hc 0 _ rfl
      have c1 : wr.cell? ⟨g, off + n * 5 + 1, none⟩ = some (.string x.n.t) := hc 1 _ rfl
      have c2 : wr.cell? ⟨g, off + n * 5 + 2, none⟩ = some (.int .i64 x.n.l) := hc 2 _ rfl
      have c3 : wr.cell? ⟨g, off + n * 5 + 3, none⟩ = some (.int .i64 x.n.c) := hc 3 _ rfl
      have c4 : wr.cell? ⟨g, off + n * 5 + 4, none⟩ = some (.int .i64 x.t) := hc 4 _ rfl
      have d0 : wr.cell? ⟨g', off' + n * 5, none⟩ = some (.bool y.all) := hd 0 _ rfl
      have d1 : wr.cell? ⟨g', off' + n * 5 + 1, none⟩ = some (.string y.n.t) := hd 1 _ rfl
      have d2 : wr.cell? ⟨g', off' + n * 5 + 2, none⟩ = some (.int .i64 y.n.l) := hd 2 _ rfl
      have d3 : wr.cell? ⟨g', off' + n * 5 + 3, none⟩ = some (.int .i64 y.n.c) := hd 3 _ rfl
      have d4 : wr.cell? ⟨g', off' + n * 5 + 4, none⟩ = some (.int .i64 y.t) := hd 4 _ rfl
      clear hc hd hx hy
      have q1 := eqInQu x y
      have q2 := guardQu
      by_cases hz : x = y
      · have HX := Lib.hid (HE.out hz)
        rw [decide_eq_true hz] at q1
        clear hz
        go_wp2_with fail
        go_quiet (fail)
        go_wp2_with fail
        go_roundw
        case rel => exact ⟨n + 1, by omega, by go_num, HX, Lib.hid (below_drewN _ HB.out)⟩
        case measure => simp [intOf]; omega
      · have HX : Hid (decide (L = M) = false) := Lib.hid (decide_eq_false (HN.out hz))
        rw [decide_eq_false hz] at q1
        clear hz
        go_wp2_with fail
        go_quiet (fail)
        go_wp2_with fail
        go_ret
        exact ⟨by rw [HX.out]; rfl, below_drewN _ HB.out⟩

set_option maxHeartbeats 1000000 in
set_option maxRecDepth 100000 in
theorem equalFr_calls {T T' : TypeId} {O O' : Prop} (a : Option Addr) (len cap : Nat) (L : List Fr) (a' : Option Addr) (len' cap' : Nat) (M : List Fr) (w : World) (hs : GIn rFr T O 7 w a len L) (hs' : GIn rFr T' O' 7 w a' len' M) :
    Calls Tryz.prog 57 #[.slice a len cap, .slice a' len' cap'] w fun e w' => e = .returned (.bool (decide (L = M))) ∧ Below w.heap.size w w' := by
  have H := Lib.hid hs
  have H' := Lib.hid hs'
  have HL := Lib.hid hs.leng
  have HL' := Lib.hid hs'.leng
  have hsm := hs.small
  have hsm' := hs'.small
  clear hs hs'
  by_cases hll : len = len'
  case neg =>
    have t0 : ((len : Int) != (len' : Int)) = true := by rw [bne_iff_ne]; omega
    have HX : Hid (decide (L = M) = false) := Lib.hid (decide_eq_false (fun e => hll (by rw [← HL.out, ← HL'.out, e])))
    go_enter Tryz.func57, Tryz.ntmps57
    go_wp2_with fail
    go_ret
    exact ⟨by rw [HX.out]; rfl, Below.refl _ _⟩
  subst hll
  have t0 : ((len : Int) != (len : Int)) = false := by simp
  go_enter Tryz.func57, Tryz.ntmps57
  go_wp2_with fail
  go_loopw [13] (fun i wr => ∃ (n : Nat), n ≤ len ∧ i = .int .i64 n ∧ Hid (L.take n = M.take n) ∧ Hid (Below w.heap.size w wr)) (fun i _ => len - (intOf i).toNat)
  case atStart => exact ⟨0, Nat.zero_le _, rfl, Lib.hid rfl, Lib.hid (Below.refl _ _)⟩
  case round =>
    obtain ⟨n, hn, rfl, HT, HB⟩ := hrel
    by_cases h : n < len
    case neg =>
      obtain rfl : n = len := by omega
      have HX : Hid (decide (L = M) = true) := Lib.hid (decide_eq_true (by have := HT.out; rwa [List.take_of_length_le (by rw [HL.out]; exact Nat.le_refl _), List.take_of_length_le (by rw [HL'.out]; exact Nat.le_refl _)] at this))
      go_wp2_with fail
      go_ret
      exact ⟨by rw [HX.out]; rfl, HB.out⟩
    case pos =>
      obtain ⟨x, hx⟩ := at_some HL.out h
      obtain ⟨y, hy⟩ := at_some HL'.out h
      obtain ⟨g, off, rfl, hg, hc, _⟩ := (H.out.belowF HB.out).flat hx
      obtain ⟨g', off', rfl, hg', hd, _⟩ := (H'.out.belowF HB.out).flat hy
      have HE := Lib.hid (take_sameG hx hy HT.out)
      have HN := Lib.hid (ne_atG hx hy)
      have c0 : wr.cell? ⟨g, off + n * 7, none⟩ = some (.string x.n.t) := hc 0 _ rfl
      have c1 : wr.cell? ⟨g, off + n * 7 + 1, none⟩ = some (.int .i64 x.n.l) := hc 1 _ rfl
      have c2 : wr.cell? ⟨g, off + n * 7 + 2, none⟩ = some (.int .i64 x.n.c) := hc 2 _ rfl
      have c3 : wr.cell? ⟨g, off + n * 7 + 3, none⟩ = some (.int .i64 x.v.k) := hc 3 _ rfl
      have c4 : wr.cell? ⟨g, off + n * 7 + 4, none⟩ = some (.int .i64 x.v.i) := hc 4 _ rfl
      have c5 : wr.cell? ⟨g, off + n * 7 + 5, none⟩ = some (.string x.v.s) := hc 5 _ rfl
      have c6 : wr.cell? ⟨g, off + n * 7 + 6, none⟩ = some (.bool x.v.b) := hc 6 _ rfl
      have d0 : wr.cell? ⟨g', off' + n * 7, none⟩ = some (.string y.n.t) := hd 0 _ rfl
      have d1 : wr.cell? ⟨g', off' + n * 7 + 1, none⟩ = some (.int .i64 y.n.l) := hd 1 _ rfl
      have d2 : wr.cell? ⟨g', off' + n * 7 + 2, none⟩ = some (.int .i64 y.n.c) := hd 2 _ rfl
      have d3 : wr.cell? ⟨g', off' + n * 7 + 3, none⟩ = some (.int .i64 y.v.k) := hd 3 _ rfl
      have d4 : wr.cell? ⟨g', off' + n * 7 + 4, none⟩ = some (.int .i64 y.v.i) := hd 4 _ rfl
      have d5 : wr.cell? ⟨g', off' + n * 7 + 5, none⟩ = some (.string y.v.s) := hd 5 _ rfl
      have d6 : wr.cell? ⟨g', off' + n * 7 + 6, none⟩ = some (.bool y.v.b) := hd 6 _ rfl
      clear hc hd hx hy
      have q1 := eqInFr x y
      have q2 := guardFr
      by_cases hz : x = y
      · have HX := Lib.hid (HE.out hz)
        rw [decide_eq_true hz] at q1
        clear hz
        go_wp2_with fail
        go_quiet (fail)
        go_wp2_with fail
        go_roundw
        case rel => exact ⟨n + 1, by omega, by go_num, HX, Lib.hid (below_drewN _ HB.out)⟩
        case measure => simp [intOf]; omega
      · have HX : Hid (decide (L = M) = false) := Lib.hid (decide_eq_false (HN.out hz))
        rw [decide_eq_false hz] at q1
        clear hz
        go_wp2_with fail
        go_quiet (fail)
        go_wp2_with fail
        go_ret
        exact ⟨by rw [HX.out]; rfl, below_drewN _ HB.out⟩

set_option maxHeartbeats 1000000 in
set_option maxRecDepth 100000 in
theorem equalSta_calls {T T' : TypeId} {O O' : Prop} (a : Option Addr) (len cap : Nat) (L : List Sta) (a' : Option Addr) (len' cap' : Nat) (M : List Sta) (w : World) (hs : GIn rSta T O 5 w a len L) (hs' : GIn rSta T' O' 5 w a' len' M) :
    Calls Tryz.prog 58 #[.slice a len cap, .slice a' len' cap'] w fun e w' => e = .returned (.bool (decide (L = M))) ∧ Below w.heap.size w w' := by
  have H := Lib.hid hs
  have H' := Lib.hid hs'
  have HL := Lib.hid hs.leng
  have HL' := Lib.hid hs'.leng
  have hsm := hs.small
  have hsm' := hs'.small
  clear hs hs'
  by_cases hll : len = len'
  case neg =>
    have t0 : ((len : Int) != (len' : Int)) = true := by rw [bne_iff_ne]; omega
    have HX : Hid (decide (L = M) = false) := Lib.hid (decide_eq_false (fun e => hll (by rw [← HL.out, ← HL'.out, e])))
    go_enter Tryz.func58, Tryz.ntmps58
    go_wp2_with fail
    go_ret
    exact ⟨by rw [HX.out]; rfl, Below.refl _ _⟩
  subst hll
  have t0 : ((len : Int) != (len : Int)) = false := by simp
  go_enter Tryz.func58, Tryz.ntmps58
  go_wp2_with fail
  go_loopw [13] (fun i wr => ∃ (n : Nat), n ≤ len ∧ i = .int .i64 n ∧ Hid (L.take n = M.take n) ∧ Hid (Below w.heap.size w wr)) (fun i _ => len - (intOf i).toNat)
  case atStart => exact ⟨0, Nat.zero_le _, rfl, Lib.hid rfl, Lib.hid (Below.refl _ _)⟩
  case round =>
    obtain ⟨n, hn, rfl, HT, HB⟩ := hrel
    by_cases h : n < len
    case neg =>
      obtain rfl : n = len := by omega
      have HX : Hid (decide (L = M) = true) := Lib.hid (decide_eq_true (by have := HT.out; rwa [List.take_of_length_le (by rw [HL.out]; exact Nat.le_refl _), List.take_of_length_le (by rw [HL'.out]; exact Nat.le_refl _)] at this))
      go_wp2_with fail
      go_ret
      exact ⟨by rw [HX.out]; rfl, HB.out⟩
    case pos =>
      obtain ⟨x, hx⟩ := at_some HL.out h
      obtain ⟨y, hy⟩ := at_some HL'.out h
      obtain ⟨g, off, rfl, hg, hc, _⟩ := (H.out.belowF HB.out).flat hx
      obtain ⟨g', off', rfl, hg', hd, _⟩ := (H'.out.belowF HB.out).flat hy
      have HE := Lib.hid (take_sameG hx hy HT.out)
      have HN := Lib.hid (ne_atG hx hy)
      have c0 : wr.cell? ⟨g, off + n * 5, none⟩ = some (.string x.n.t) := hc 0 _ rfl
      have c1 : wr.cell? ⟨g, off + n * 5 + 1, none⟩ = some (.int .i64 x.n.l) := hc 1 _ rfl
      have c2 : wr.cell? ⟨g, off + n * 5 + 2, none⟩ = some (.int .i64 x.n.c) := hc 2 _ rfl
      have c3 : wr.cell? ⟨g, off + n * 5 + 3, none⟩ = some (.bool x.nx) := hc 3 _ rfl
      have c4 : wr.cell? ⟨g, off + n * 5 + 4, none⟩ = some (.bool x.ac) := hc 4 _ rfl
      have d0 : wr.cell? ⟨g', off' + n * 5, none⟩ = some (.string y.n.t) := hd 0 _ rfl
      have d1 : wr.cell? ⟨g', off' + n * 5 + 1, none⟩ = some (.int .i64 y.n.l) := hd 1 _ rfl
      have d2 : wr.cell? ⟨g', off' + n * 5 + 2, none⟩ = some (.int .i64 y.n.c) := hd 2 _ rfl
      have d3 : wr.cell? ⟨g', off' + n * 5 + 3, none⟩ = some (.bool y.nx) := hd 3 _ rfl
      have d4 : wr.cell? ⟨g', off' + n * 5 + 4, none⟩ = some (.bool y.ac) := hd 4 _ rfl
      clear hc hd hx hy
      have q1 := eqInSta x y
      have q2 := guardSta
      by_cases hz : x = y
      · have HX := Lib.hid (HE.out hz)
        rw [decide_eq_true hz] at q1
        clear hz
        go_wp2_with fail
        go_quiet (fail)
        go_wp2_with fail
        go_roundw
        case rel => exact ⟨n + 1, by omega, by go_num, HX, Lib.hid (below_drewN _ HB.out)⟩
        case measure => simp [intOf]; omega
      · have HX : Hid (decide (L = M) = false) := Lib.hid (decide_eq_false (HN.out hz))
        rw [decide_eq_false hz] at q1
        clear hz
        go_wp2_with fail
        go_quiet (fail)
        go_wp2_with fail
        go_ret
        exact ⟨by rw [HX.out]; rfl, below_drewN _ HB.out⟩
end Go.Proofs.YtojabkhfkbfeaaaGreatDoor
