/- What slices.EqualFunc does with any two lists of declarations, symbols or transitions. -/
import Derived.Test.YtojabkhfkbfeaaaGreatDoorTreeSameA
import Derived.Laws.EntriesVeiled
import Derived.Shelf.Abstract
namespace Go.Proofs.YtojabkhfkbfeaaaGreatDoor
open Go.RowKit
set_option linter.unusedVariables false


set_option maxHeartbeats 4000000 in
set_option maxRecDepth 100000 in
theorem equalDe_calls {Y Y' : TyT} {O O' : Prop} {T T' : TypeId} (a0 : Option Addr) (len cap : Nat) (L : List De) (a0' : Option Addr) (len' cap' : Nat) (M : List De) (w : World) (hs : GIn (rDe Y O) T O 4 w a0 len L) (hs' : GIn (rDe Y' O') T' O' 4 w a0' len' M) :
    Calls Tryz.prog 54 #[.slice a0 len cap, .slice a0' len' cap', .func (.func 55) #[] #[]] w fun e w' => e = .returned (.bool (decide (L = M))) ∧ Below w.heap.size w w' := by
  have H := Lib.hid hs
  have H' := Lib.hid hs'
  have HL := Lib.hid hs.leng
  have HL' := Lib.hid hs'.leng
  have hsm := hs.small
  have hsm' := hs'.small
  have eg : ∀ args w, (callFunc 55 args).run Tryz.prog w = .ok (.enter 55 args) w := enters_of Tryz.func55 (by kernel_rfl) rfl
  clear hs hs'
  by_cases hll : len = len'
  case neg =>
    have t0 : ((len : Int) != (len' : Int)) = true := by rw [bne_iff_ne]; omega
    have HX : Hid (decide (L = M) = false) := Lib.hid (decide_eq_false (fun e => hll (by rw [← HL.out, ← HL'.out, e])))
    go_enter Tryz.func54, Tryz.ntmps54
    go_wp2_with fail
    go_ret
    exact ⟨by rw [HX.out]; rfl, Below.refl _ _⟩
  subst hll
  have t0 : ((len : Int) != (len : Int)) = false := by simp
  go_enter Tryz.func54, Tryz.ntmps54
  go_wp2_with fail
  go_loopw [17] (fun i wr => ∃ (n : Nat), n ≤ len ∧ i = .int .i64 n ∧ Hid (L.take n = M.take n) ∧ Hid (Below w.heap.size w wr)) (fun i _ => len - (intOf i).toNat)
  case atStart => exact ⟨0, Nat.zero_le _, rfl, Lib.hid rfl, Lib.hid (Below.refl _ _)⟩
  case round =>
    obtain ⟨n, hn, rfl, HT, HB⟩ := hrel
    by_cases h : n < len
    case neg =>
      obtain rfl : n = len := by omega
      have HX : Hid (decide (L = M) = true) := Lib.hid (decide_eq_true (by have := HT.out; rwa [List.take_of_length_le (by rw [HL.out]; exact Nat.le_refl _), List.take_of_length_le (by rw [HL'.out]; exact Nat.le_refl _)] at this))
      go_wp2_with fail
      go_ret
      exact ⟨by rw [HX.out]; rfl, HB.out⟩
    case pos =>
      obtain ⟨x, hx⟩ := at_some HL.out h
      obtain ⟨y, hy⟩ := at_some HL'.out h
      obtain ⟨g, off, csx, rfl, hg, _, hc, hrx, _⟩ := (H.out.below HB.out (fun _ _ _ h => rDe_below h HB.out)).at' n x hx
      obtain ⟨g', off', csy, rfl, hg', _, hd, hry, _⟩ := (H'.out.below HB.out (fun _ _ _ h => rDe_below h HB.out)).at' n y hy
      have HE := Lib.hid (take_sameG hx hy HT.out)
      have HN := Lib.hid (ne_atG hx hy)
      have HRX := Lib.hid hrx
      have HRY := Lib.hid hry
      obtain ⟨a, c, rfl, g1, _⟩ := hrx
      obtain ⟨a', c', rfl, g1', _⟩ := hry
      have c0 : wr.cell? ⟨g, off + n * 4, none⟩ = some (.string x.n.t) := hc 0 _ rfl
      have c1 : wr.cell? ⟨g, off + n * 4 + 1, none⟩ = some (.int .i64 x.n.l) := hc 1 _ rfl
      have c2 : wr.cell? ⟨g, off + n * 4 + 2, none⟩ = some (.int .i64 x.n.c) := hc 2 _ rfl
      have c3 : wr.cell? ⟨g, off + n * 4 + 3, none⟩ = some (.slice a x.ks.length c) := hc 3 _ rfl
      have d0 : wr.cell? ⟨g', off' + n * 4, none⟩ = some (.string y.n.t) := hd 0 _ rfl
      have d1 : wr.cell? ⟨g', off' + n * 4 + 1, none⟩ = some (.int .i64 y.n.l) := hd 1 _ rfl
      have d2 : wr.cell? ⟨g', off' + n * 4 + 2, none⟩ = some (.int .i64 y.n.c) := hd 2 _ rfl
      have d3 : wr.cell? ⟨g', off' + n * 4 + 3, none⟩ = some (.slice a' y.ks.length c') := hd 3 _ rfl
      clear hc hd hx hy g1 g1'
      have HB2 : Hid (Below wr.heap.size wr ((wr.alloc (.cells #[.string x.n.t, .int .i64 x.n.l, .int .i64 x.n.c, .slice a x.ks.length c] 39)).alloc (.cells #[.string y.n.t, .int .i64 y.n.l, .int .i64 y.n.c, .slice a' y.ks.length c'] 39))) := Lib.hid (((Below.refl wr.heap.size wr).alloc (Nat.le_refl _) _).alloc (by simp) _)
      have H1 := Lib.hid (sameDe_calls x y _ _ _ (rDe_below HRX.out HB2.out) (rDe_below HRY.out HB2.out))
      clear HRX HRY
      cases e : decide (x = y)
      · have HX : Hid (decide (L = M) = false) := Lib.hid (decide_eq_false (HN.out (of_decide_eq_false e)))
        rw [e] at H1
        clear e
        go_wp2_with fail
        refine H1.out.mono ?_
        rintro e w1 ⟨rfl, k1⟩
        have HB3 := Lib.hid ((HB.out.trans (HB2.out.mono HB.out.size)).trans (k1.mono (by have := HB.out.size; simp; omega)))
        clear k1
        go_wp2_with fail
        go_ret
        exact ⟨by rw [HX.out]; rfl, HB3.out⟩
      · have HX := Lib.hid (HE.out (of_decide_eq_true e))
        rw [e] at H1
        clear e
        go_wp2_with fail
        refine H1.out.mono ?_
        rintro e w1 ⟨rfl, k1⟩
        have HB3 := Lib.hid ((HB.out.trans (HB2.out.mono HB.out.size)).trans (k1.mono (by have := HB.out.size; simp; omega)))
        clear k1
        go_wp2_with fail
        go_roundw
        case rel => exact ⟨n + 1, h, by go_num, HX, HB3⟩
        case measure => simp [intOf]; omega

set_option maxHeartbeats 4000000 in
set_option maxRecDepth 100000 in
theorem equalSy_calls {Y Y' : TyT} {O O' : Prop} {T T' : TypeId} (a0 : Option Addr) (len cap : Nat) (L : List Sy) (a0' : Option Addr) (len' cap' : Nat) (M : List Sy) (w : World) (hs : GIn (rSy Y O) T O 4 w a0 len L) (hs' : GIn (rSy Y' O') T' O' 4 w a0' len' M) :
    Calls Tryz.prog 59 #[.slice a0 len cap, .slice a0' len' cap', .func (.func 60) #[] #[]] w fun e w' => e = .returned (.bool (decide (L = M))) ∧ Below w.heap.size w w' := by
  have H := Lib.hid hs
  have H' := Lib.hid hs'
  have HL := Lib.hid hs.leng
  have HL' := Lib.hid hs'.leng
  have hsm := hs.small
  have hsm' := hs'.small
  have eg : ∀ args w, (callFunc 60 args).run Tryz.prog w = .ok (.enter 60 args) w := enters_of Tryz.func60 (by kernel_rfl) rfl
  clear hs hs'
  by_cases hll : len = len'
  case neg =>
    have t0 : ((len : Int) != (len' : Int)) = true := by rw [bne_iff_ne]; omega
    have HX : Hid (decide (L = M) = false) := Lib.hid (decide_eq_false (fun e => hll (by rw [← HL.out, ← HL'.out, e])))
    go_enter Tryz.func59, Tryz.ntmps59
    go_wp2_with fail
    go_ret
    exact ⟨by rw [HX.out]; rfl, Below.refl _ _⟩
  subst hll
  have t0 : ((len : Int) != (len : Int)) = false := by simp
  go_enter Tryz.func59, Tryz.ntmps59
  go_wp2_with fail
  go_loopw [17] (fun i wr => ∃ (n : Nat), n ≤ len ∧ i = .int .i64 n ∧ Hid (L.take n = M.take n) ∧ Hid (Below w.heap.size w wr)) (fun i _ => len - (intOf i).toNat)
  case atStart => exact ⟨0, Nat.zero_le _, rfl, Lib.hid rfl, Lib.hid (Below.refl _ _)⟩
  case round =>
    obtain ⟨n, hn, rfl, HT, HB⟩ := hrel
    by_cases h : n < len
    case neg =>
      obtain rfl : n = len := by omega
      have HX : Hid (decide (L = M) = true) := Lib.hid (decide_eq_true (by have := HT.out; rwa [List.take_of_length_le (by rw [HL.out]; exact Nat.le_refl _), List.take_of_length_le (by rw [HL'.out]; exact Nat.le_refl _)] at this))
      go_wp2_with fail
      go_ret
      exact ⟨by rw [HX.out]; rfl, HB.out⟩
    case pos =>
      obtain ⟨x, hx⟩ := at_some HL.out h
      obtain ⟨y, hy⟩ := at_some HL'.out h
      obtain ⟨g, off, csx, rfl, hg, _, hc, hrx, _⟩ := (H.out.below HB.out (fun _ _ _ h => rSy_below h HB.out)).at' n x hx
      obtain ⟨g', off', csy, rfl, hg', _, hd, hry, _⟩ := (H'.out.below HB.out (fun _ _ _ h => rSy_below h HB.out)).at' n y hy
      have HE := Lib.hid (take_sameG hx hy HT.out)
      have HN := Lib.hid (ne_atG hx hy)
      have HRX := Lib.hid hrx
      have HRY := Lib.hid hry
      obtain ⟨a, c, rfl, g1, _⟩ := hrx
      obtain ⟨a', c', rfl, g1', _⟩ := hry
      have c0 : wr.cell? ⟨g, off + n * 4, none⟩ = some (.string x.n) := hc 0 _ rfl
      have c1 : wr.cell? ⟨g, off + n * 4 + 1, none⟩ = some (.slice a x.ar.length c) := hc 1 _ rfl
      have c2 : wr.cell? ⟨g, off + n * 4 + 2, none⟩ = some (.int .i64 x.l) := hc 2 _ rfl
      have c3 : wr.cell? ⟨g, off + n * 4 + 3, none⟩ = some (.int .i64 x.c) := hc 3 _ rfl
      have d0 : wr.cell? ⟨g', off' + n * 4, none⟩ = some (.string y.n) := hd 0 _ rfl
      have d1 : wr.cell? ⟨g', off' + n * 4 + 1, none⟩ = some (.slice a' y.ar.length c') := hd 1 _ rfl
      have d2 : wr.cell? ⟨g', off' + n * 4 + 2, none⟩ = some (.int .i64 y.l) := hd 2 _ rfl
      have d3 : wr.cell? ⟨g', off' + n * 4 + 3, none⟩ = some (.int .i64 y.c) := hd 3 _ rfl
      clear hc hd hx hy g1 g1'
      have HB2 : Hid (Below wr.heap.size wr ((wr.alloc (.cells #[.string x.n, .slice a x.ar.length c, .int .i64 x.l, .int .i64 x.c] 47)).alloc (.cells #[.string y.n, .slice a' y.ar.length c', .int .i64 y.l, .int .i64 y.c] 47))) := Lib.hid (((Below.refl wr.heap.size wr).alloc (Nat.le_refl _) _).alloc (by simp) _)
      have H1 := Lib.hid (sameSy_calls x y _ _ _ (rSy_below HRX.out HB2.out) (rSy_below HRY.out HB2.out))
      clear HRX HRY
      cases e : decide (x = y)
      · have HX : Hid (decide (L = M) = false) := Lib.hid (decide_eq_false (HN.out (of_decide_eq_false e)))
        rw [e] at H1
        clear e
        go_wp2_with fail
        refine H1.out.mono ?_
        rintro e w1 ⟨rfl, k1⟩
        have HB3 := Lib.hid ((HB.out.trans (HB2.out.mono HB.out.size)).trans (k1.mono (by have := HB.out.size; simp; omega)))
        clear k1
        go_wp2_with fail
        go_ret
        exact ⟨by rw [HX.out]; rfl, HB3.out⟩
      · have HX := Lib.hid (HE.out (of_decide_eq_true e))
        rw [e] at H1
        clear e
        go_wp2_with fail
        refine H1.out.mono ?_
        rintro e w1 ⟨rfl, k1⟩
        have HB3 := Lib.hid ((HB.out.trans (HB2.out.mono HB.out.size)).trans (k1.mono (by have := HB.out.size; simp; omega)))
        clear k1
        go_wp2_with fail
        go_roundw
        case rel => exact ⟨n + 1, h, by go_num, HX, HB3⟩
        case measure => simp [intOf]; omega

set_option maxHeartbeats 4000000 in
set_option maxRecDepth 100000 in
theorem equalTs_calls {Y Y' : TyT} {O O' : Prop} {T T' : TypeId} (a0 : Option Addr) (len cap : Nat) (L : List Ts) (a0' : Option Addr) (len' cap' : Nat) (M : List Ts) (w : World) (hs : GIn (rTs Y O) T O 13 w a0 len L) (hs' : GIn (rTs Y' O') T' O' 13 w a0' len' M) :
    Calls Tryz.prog 61 #[.slice a0 len cap, .slice a0' len' cap', .func (.func 62) #[] #[]] w fun e w' => e = .returned (.bool (decide (L = M))) ∧ Below w.heap.size w w' := by
  have H := Lib.hid hs
  have H' := Lib.hid hs'
  have HL := Lib.hid hs.leng
  have HL' := Lib.hid hs'.leng
  have hsm := hs.small
  have hsm' := hs'.small
  have eg : ∀ args w, (callFunc 62 args).run Tryz.prog w = .ok (.enter 62 args) w := enters_of Tryz.func62 (by kernel_rfl) rfl
  clear hs hs'
  by_cases hll : len = len'
  case neg =>
    have t0 : ((len : Int) != (len' : Int)) = true := by rw [bne_iff_ne]; omega
    have HX : Hid (decide (L = M) = false) := Lib.hid (decide_eq_false (fun e => hll (by rw [← HL.out, ← HL'.out, e])))
    go_enter Tryz.func61, Tryz.ntmps61
    go_wp2_with fail
    go_ret
    exact ⟨by rw [HX.out]; rfl, Below.refl _ _⟩
  subst hll
  have t0 : ((len : Int) != (len : Int)) = false := by simp
  go_enter Tryz.func61, Tryz.ntmps61
  go_wp2_with fail
  go_loopw [17] (fun i wr => ∃ (n : Nat), n ≤ len ∧ i = .int .i64 n ∧ Hid (L.take n = M.take n) ∧ Hid (Below w.heap.size w wr)) (fun i _ => len - (intOf i).toNat)
  case atStart => exact ⟨0, Nat.zero_le _, rfl, Lib.hid rfl, Lib.hid (Below.refl _ _)⟩
  case round =>
    obtain ⟨n, hn, rfl, HT, HB⟩ := hrel
    by_cases h : n < len
    case neg =>
      obtain rfl : n = len := by omega
      have HX : Hid (decide (L = M) = true) := Lib.hid (decide_eq_true (by have := HT.out; rwa [List.take_of_length_le (by rw [HL.out]; exact Nat.le_refl _), List.take_of_length_le (by rw [HL'.out]; exact Nat.le_refl _)] at this))
      go_wp2_with fail
      go_ret
      exact ⟨by rw [HX.out]; rfl, HB.out⟩
    case pos =>
      obtain ⟨x, hx⟩ := at_some HL.out h
      obtain ⟨y, hy⟩ := at_some HL'.out h
      obtain ⟨g, off, csx, rfl, hg, _, hc, hrx, _⟩ := (H.out.below HB.out (fun _ _ _ h => rTs_below h HB.out)).at' n x hx
      obtain ⟨g', off', csy, rfl, hg', _, hd, hry, _⟩ := (H'.out.below HB.out (fun _ _ _ h => rTs_below h HB.out)).at' n y hy
      have HE := Lib.hid (take_sameG hx hy HT.out)
      have HN := Lib.hid (ne_atG hx hy)
      have HRX := Lib.hid hrx
      have HRY := Lib.hid hry
      obtain ⟨oa, oc, na, nc, sa, sc, rfl, g1, g2, g3, g4⟩ := hrx
      obtain ⟨oa', oc', na', nc', sa', sc', rfl, g1', g2', g3', g4'⟩ := hry
      have c0 : wr.cell? ⟨g, off + n * 13, none⟩ = some (.string x.f.t) := hc 0 _ rfl
      have c1 : wr.cell? ⟨g, off + n * 13 + 1, none⟩ = some (.int .i64 x.f.l) := hc 1 _ rfl
      have c2 : wr.cell? ⟨g, off + n * 13 + 2, none⟩ = some (.int .i64 x.f.c) := hc 2 _ rfl
      have c3 : wr.cell? ⟨g, off + n * 13 + 3, none⟩ = some (.string x.t.t) := hc 3 _ rfl
      have c4 : wr.cell? ⟨g, off + n * 13 + 4, none⟩ = some (.int .i64 x.t.l) := hc 4 _ rfl
      have c5 : wr.cell? ⟨g, off + n * 13 + 5, none⟩ = some (.int .i64 x.t.c) := hc 5 _ rfl
      have c6 : wr.cell? ⟨g, off + n * 13 + 6, none⟩ = some (.string x.on.n) := hc 6 _ rfl
      have c7 : wr.cell? ⟨g, off + n * 13 + 7, none⟩ = some (.slice oa x.on.ar.length oc) := hc 7 _ rfl
      have c8 : wr.cell? ⟨g, off + n * 13 + 8, none⟩ = some (.int .i64 x.on.l) := hc 8 _ rfl
      have c9 : wr.cell? ⟨g, off + n * 13 + 9, none⟩ = some (.int .i64 x.on.c) := hc 9 _ rfl
      have c10 : wr.cell? ⟨g, off + n * 13 + 10, none⟩ = some (.slice na x.ns.length nc) := hc 10 _ rfl
      have c11 : wr.cell? ⟨g, off + n * 13 + 11, none⟩ = some (.int .i64 x.g) := hc 11 _ rfl
      have c12 : wr.cell? ⟨g, off + n * 13 + 12, none⟩ = some (.slice sa x.ss.length sc) := hc 12 _ rfl
      have d0 : wr.cell? ⟨g', off' + n * 13, none⟩ = some (.string y.f.t) := hd 0 _ rfl
      have d1 : wr.cell? ⟨g', off' + n * 13 + 1, none⟩ = some (.int .i64 y.f.l) := hd 1 _ rfl
      have d2 : wr.cell? ⟨g', off' + n * 13 + 2, none⟩ = some (.int .i64 y.f.c) := hd 2 _ rfl
      have d3 : wr.cell? ⟨g', off' + n * 13 + 3, none⟩ = some (.string y.t.t) := hd 3 _ rfl
      have d4 : wr.cell? ⟨g', off' + n * 13 + 4, none⟩ = some (.int .i64 y.t.l) := hd 4 _ rfl
      have d5 : wr.cell? ⟨g', off' + n * 13 + 5, none⟩ = some (.int .i64 y.t.c) := hd 5 _ rfl
      have d6 : wr.cell? ⟨g', off' + n * 13 + 6, none⟩ = some (.string y.on.n) := hd 6 _ rfl
      have d7 : wr.cell? ⟨g', off' + n * 13 + 7, none⟩ = some (.slice oa' y.on.ar.length oc') := hd 7 _ rfl
      have d8 : wr.cell? ⟨g', off' + n * 13 + 8, none⟩ = some (.int .i64 y.on.l) := hd 8 _ rfl
      have d9 : wr.cell? ⟨g', off' + n * 13 + 9, none⟩ = some (.int .i64 y.on.c) := hd 9 _ rfl
      have d10 : wr.cell? ⟨g', off' + n * 13 + 10, none⟩ = some (.slice na' y.ns.length nc') := hd 10 _ rfl
      have d11 : wr.cell? ⟨g', off' + n * 13 + 11, none⟩ = some (.int .i64 y.g) := hd 11 _ rfl
      have d12 : wr.cell? ⟨g', off' + n * 13 + 12, none⟩ = some (.slice sa' y.ss.length sc') := hd 12 _ rfl
      clear hc hd hx hy g1 g1' g2 g2' g3 g3'
      have HB2 : Hid (Below wr.heap.size wr ((wr.alloc (.cells #[.string x.f.t, .int .i64 x.f.l, .int .i64 x.f.c, .string x.t.t, .int .i64 x.t.l, .int .i64 x.t.c, .string x.on.n, .slice oa x.on.ar.length oc, .int .i64 x.on.l, .int .i64 x.on.c, .slice na x.ns.length nc, .int .i64 x.g, .slice sa x.ss.length sc] 51)).alloc (.cells #[.string y.f.t, .int .i64 y.f.l, .int .i64 y.f.c, .string y.t.t, .int .i64 y.t.l, .int .i64 y.t.c, .string y.on.n, .slice oa' y.on.ar.length oc', .int .i64 y.on.l, .int .i64 y.on.c, .slice na' y.ns.length nc', .int .i64 y.g, .slice sa' y.ss.length sc'] 51))) := Lib.hid (((Below.refl wr.heap.size wr).alloc (Nat.le_refl _) _).alloc (by simp) _)
      have H1 := Lib.hid (sameTs_calls x y _ _ _ (rTs_below HRX.out HB2.out) (rTs_below HRY.out HB2.out))
      clear HRX HRY
      cases e : decide (x = y)
      · have HX : Hid (decide (L = M) = false) := Lib.hid (decide_eq_false (HN.out (of_decide_eq_false e)))
        rw [e] at H1
        clear e
        go_wp2_with fail
        refine H1.out.mono ?_
        rintro e w1 ⟨rfl, k1⟩
        have HB3 := Lib.hid ((HB.out.trans (HB2.out.mono HB.out.size)).trans (k1.mono (by have := HB.out.size; simp; omega)))
        clear k1
        go_wp2_with fail
        go_ret
        exact ⟨by rw [HX.out]; rfl, HB3.out⟩
      · have HX := Lib.hid (HE.out (of_decide_eq_true e))
        rw [e] at H1
        clear e
        go_wp2_with fail
        refine H1.out.mono ?_
        rintro e w1 ⟨rfl, k1⟩
        have HB3 := Lib.hid ((HB.out.trans (HB2.out.mono HB.out.size)).trans (k1.mono (by have := HB.out.size; simp; omega)))
        clear k1
        go_wp2_with fail
        go_roundw
        case rel => exact ⟨n + 1, h, by go_num, HX, HB3⟩
        case measure => simp [intOf]; omega
end Go.Proofs.YtojabkhfkbfeaaaGreatDoor
