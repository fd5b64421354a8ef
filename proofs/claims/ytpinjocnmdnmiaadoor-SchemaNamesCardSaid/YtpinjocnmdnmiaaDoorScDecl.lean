/- Declarations in memory; where a name is: schema.Find and the reference's Find; kinds. -/
import Derived.Test.YtpinjocnmdnmiaaDoorScRefNames
import Derived.BigQuiet
import Derived.Shelf.Abstract
namespace Go.Proofs.YtpinjocnmdnmiaaDoor
open Go.RowKit
set_option linter.unusedVariables false

/-- Kinds in memory. -/
structure KIn (w : World) (a : Option Addr) (len : Nat) (V : List Int) : Prop where
  leng : V.length = len
  small : len ≤ 9223372036854775807
  at' : ∀ n, n < len → ∃ g off, a = some ⟨g, off, none⟩ ∧ g < w.heap.size ∧ w.cell? ⟨g, off + n, none⟩ = some (.int .i64 (V.getD n 0))
theorem KIn.below {w w' : World} {a : Option Addr} {len : Nat} {V : List Int} (h : KIn w a len V) (hb : Below w.heap.size w w') : KIn w' a len V :=
  ⟨h.leng, h.small, fun n hn => by
    obtain ⟨g, off, e, hg, hr⟩ := h.at' n hn
    exact ⟨g, off, e, Nat.lt_of_lt_of_le hg hb.size, (hb.cell (p := ⟨g, off + n, none⟩) hg).trans hr⟩⟩
theorem KIn.drop_at (V : List Int) (n : Nat) (h : n < V.length) : V.drop n = V.getD n 0 :: V.drop (n + 1) := by
  rw [List.drop_eq_getElem_cons h]
  simp [List.getD, h]
/-- Declarations in memory. -/
structure DIn (w : World) (a : Option Addr) (len : Nat) (L : List Dc) : Prop where
  leng : L.length = len
  small : len ≤ 9223372036854775807
  at' : ∀ n, n < len → ∃ g off b c, a = some ⟨g, off, none⟩ ∧ g < w.heap.size ∧ w.cell? ⟨g, off + n * 2, none⟩ = some (.string (nmAt L n)) ∧ w.cell? ⟨g, off + n * 2 + 1, none⟩ = some (.slice b (ksAt L n).length c) ∧ KIn w b (ksAt L n).length (ksAt L n) ∧ (nmAt L n).size ≤ 9223372036854775807
theorem DIn.below {w w' : World} {a : Option Addr} {len : Nat} {L : List Dc} (h : DIn w a len L) (hb : Below w.heap.size w w') : DIn w' a len L :=
  ⟨h.leng, h.small, fun n hn => by
    obtain ⟨g, off, b, c, e, hg, h1, h2, h3, h4⟩ := h.at' n hn
    exact ⟨g, off, b, c, e, Nat.lt_of_lt_of_le hg hb.size, (hb.cell (p := ⟨g, off + n * 2, none⟩) hg).trans h1, (hb.cell (p := ⟨g, off + n * 2 + 1, none⟩) hg).trans h2, h3.below hb, h4⟩⟩
theorem ksAt_take {L : List Dc} {n j : Nat} (h : j < n) : ksAt (L.take n) j = ksAt L j := by
  simp [ksAt, List.getD, h]
theorem DIn.take {w : World} {a : Option Addr} {len : Nat} {L : List Dc} (h : DIn w a len L) {n : Nat} (hn : n ≤ len) : DIn w a n (L.take n) :=
  ⟨by rw [List.length_take, h.leng]; omega, by have := h.small; omega, fun j hj => by
    obtain ⟨g, off, b, c, e, hg, h1, h2, h3, h4⟩ := h.at' j (by omega)
    rw [nmAt_take hj, ksAt_take hj]
    exact ⟨g, off, b, c, e, hg, h1, h2, h3, h4⟩⟩

set_option maxHeartbeats 1000000 in
theorem scFind_calls (a : Option Addr) (len cap : Nat) (L : List Dc) (x : ByteArray) (w : World) (h : DIn w a len L) :
    Calls Tryd.prog 18 #[.slice a len cap, .string x] w fun e w' => e = .returned (.tuple #[.int .i64 (findI L x), .bool (findB L x)]) ∧ w = w' := by
  have H := Lib.hid h
  have HL := Lib.hid h.leng
  have hsm := h.small
  have H0 := Lib.hid (noneTo_zero (fun n => isT (nmAt L n) x))
  clear h
  go_enter Tryd.func18, Tryd.ntmps18
  go_wp2_with fail
  go_loopw [9] (fun i wr => ∃ (n : Nat), n ≤ len ∧ i = .int .i64 n ∧ Hid (noneTo (fun n => isT (nmAt L n) x) n) ∧ w = wr) (fun i _ => len - (intOf i).toNat)
  case atStart => exact ⟨0, Nat.zero_le _, rfl, H0, rfl⟩
  case round =>
    obtain ⟨n, hn, rfl, HX, rfl⟩ := hrel
    by_cases hlt : n < len
    case neg =>
      have HV : Hid (findL L x = none) := Lib.hid (find_none (by rw [HL.out, ← show n = len by omega]; exact HX.out))
      go_wp2_with fail
      go_ret2
      exact ⟨by rw [findI, findB, HV.out]; rfl, rfl⟩
    case pos =>
      obtain ⟨g, off, b, c, rfl, hg, h1, h2, h3, h4⟩ := H.out.at' n hlt
      clear h2 h3 h4 b c
      cases e : isT (nmAt L n) x
      · have HX2 := Lib.hid (noneTo_step HX.out e)
        have t1 : ((nmAt L n).toList == x.toList) = false := e
        clear e
        generalize nmAt L n = y at h1 t1
        go_wp2_with fail
        go_roundw
        case rel => exact ⟨n + 1, hlt, by go_num, HX2, trivial⟩
        case measure => simp [intOf]; omega
      · have HV : Hid (findL L x = some n) := Lib.hid (find_some HX.out (by rw [HL.out]; exact hlt) e)
        have t1 : ((nmAt L n).toList == x.toList) = true := e
        clear e
        generalize nmAt L n = y at h1 t1
        go_wp2_with fail
        go_ret2
        exact ⟨by rw [findI, findB, HV.out]; rfl, rfl⟩

set_option maxHeartbeats 1000000 in
theorem refFind_calls (a : Option Addr) (len cap : Nat) (L : List Dc) (x : ByteArray) (w : World) (h : DIn w a len L) :
    Calls Tryd.prog 19 #[.slice a len cap, .string x] w fun e w' => e = .returned (.int .i64 (findR L x)) ∧ w = w' := by
  have H := Lib.hid h
  have HL := Lib.hid h.leng
  have hsm := h.small
  have H0 := Lib.hid (noneTo_zero (fun n => isT (nmAt L n) x))
  clear h
  go_enter Tryd.func19, Tryd.ntmps19
  go_wp2_with fail
  go_loopw [5] (fun i wr => ∃ (n : Nat), n ≤ len ∧ i = .int .i64 n ∧ Hid (noneTo (fun n => isT (nmAt L n) x) n) ∧ w = wr) (fun i _ => len - (intOf i).toNat)
  case atStart => exact ⟨0, Nat.zero_le _, rfl, H0, rfl⟩
  case round =>
    obtain ⟨n, hn, rfl, HX, rfl⟩ := hrel
    by_cases hlt : n < len
    case neg =>
      have HV : Hid (findL L x = none) := Lib.hid (find_none (by rw [HL.out, ← show n = len by omega]; exact HX.out))
      go_wp2_with fail
      go_ret
      exact ⟨by rw [findR, HV.out]; rfl, rfl⟩
    case pos =>
      obtain ⟨g, off, b, c, rfl, hg, h1, h2, h3, h4⟩ := H.out.at' n hlt
      clear h2 h3 h4 b c
      cases e : isT (nmAt L n) x
      · have HX2 := Lib.hid (noneTo_step HX.out e)
        have t1 : ((nmAt L n).toList == x.toList) = false := e
        clear e
        generalize nmAt L n = y at h1 t1
        go_wp2_with fail
        go_roundw
        case rel => exact ⟨n + 1, hlt, by go_num, HX2, trivial⟩
        case measure => simp [intOf]; omega
      · have HV : Hid (findL L x = some n) := Lib.hid (find_some HX.out (by rw [HL.out]; exact hlt) e)
        have t1 : ((nmAt L n).toList == x.toList) = true := e
        clear e
        generalize nmAt L n = y at h1 t1
        go_wp2_with fail
        go_ret
        exact ⟨by rw [findR, HV.out]; rfl, rfl⟩

set_option maxHeartbeats 400000 in
theorem scNoKind_calls (k : Int) (w : World) :
    Calls Tryd.prog 35 #[.int .i64 k] w fun e w' => e = .returned (.bool (noKind k)) ∧ w = w' := by
  have H1 := Lib.hid (fun w1 => scKind_calls k w1)
  have HV : Hid (noKind k = isT (kindT k) ⟨#[]⟩) := Lib.hid (noKind_iff k)
  generalize kindT k = x at H1 HV
  have t0 : x.toList.isEmpty = isT x ⟨#[]⟩ := by
    unfold isT
    rw [sc_tl ⟨#[]⟩]
    cases x.toList <;> rfl
  go_enter Tryd.func35, Tryd.ntmps35
  go_wp2_with fail
  refine (H1.out _).mono ?_
  rintro e w1 ⟨rfl, rfl⟩
  go_wp2_with fail
  go_ret
  refine ⟨?_, rfl⟩
  rw [HV.out, ← t0]
  rfl

set_option maxHeartbeats 1000000 in
theorem scIndex_calls (a : Option Addr) (len cap : Nat) (V : List Int) (w : World) (h : KIn w a len V) :
    Calls Tryd.prog 39 #[.slice a len cap, .func (.func 35) #[] #[]] w fun e w' => (∃ i : Int, e = .returned (.int .i64 i) ∧ decide (0 ≤ i) = V.any noKind) ∧ w = w' := by
  have H := Lib.hid h
  have HL := Lib.hid h.leng
  have hsm := h.small
  have eg : ∀ args w, (callFunc 35 args).run Tryd.prog w = .ok (.enter 35 args) w := enters_of Tryd.func35 (by kernel_rfl) rfl
  have HK := Lib.hid (fun k w1 => scNoKind_calls k w1)
  clear h
  go_enter Tryd.func39, Tryd.ntmps39
  go_wp2_with fail
  go_loopw [8] (fun i wr => ∃ (n : Nat), n ≤ len ∧ i = .int .i64 n ∧ Hid (V.any noKind = (V.drop n).any noKind) ∧ w = wr) (fun i _ => len - (intOf i).toNat)
  case atStart => exact ⟨0, Nat.zero_le _, rfl, Lib.hid rfl, rfl⟩
  case round =>
    obtain ⟨n, hn, rfl, HX, rfl⟩ := hrel
    by_cases hlt : n < len
    case neg =>
      have HV : Hid (V.any noKind = false) := Lib.hid (by rw [HX.out, List.drop_eq_nil_iff.2 (by rw [HL.out]; omega)]; rfl)
      go_wp2_with fail
      go_ret
      exact ⟨⟨-1, rfl, by rw [HV.out]; rfl⟩, rfl⟩
    case pos =>
      obtain ⟨g, off, rfl, hg, hc⟩ := H.out.at' n hlt
      have HD := Lib.hid (KIn.drop_at V n (by rw [HL.out]; exact hlt))
      generalize V.getD n 0 = k at hc HD
      have H1 := Lib.hid (fun w1 => HK.out k w1)
      cases e : noKind k
      · have HX2 : Hid (V.any noKind = (V.drop (n + 1)).any noKind) := Lib.hid (by rw [HX.out, HD.out, List.any_cons, e]; rfl)
        rw [e] at H1
        clear e
        go_wp2_with fail
        refine (H1.out _).mono ?_
        rintro e w1 ⟨rfl, hw1⟩
        subst hw1
        go_wp2_with fail
        go_roundw
        case rel => exact ⟨n + 1, hlt, by go_num, HX2, trivial⟩
        case measure => simp [intOf]; omega
      · have HV : Hid (V.any noKind = true) := Lib.hid (by rw [HX.out, HD.out, List.any_cons, e]; rfl)
        rw [e] at H1
        clear e
        go_wp2_with fail
        refine (H1.out _).mono ?_
        rintro e w1 ⟨rfl, hw1⟩
        subst hw1
        go_wp2_with fail
        go_ret
        exact ⟨⟨n, rfl, by rw [HV.out]; exact decide_eq_true (by omega)⟩, rfl⟩
set_option maxHeartbeats 400000 in
theorem scContains_calls (a : Option Addr) (len cap : Nat) (V : List Int) (w : World) (h : KIn w a len V) :
    Calls Tryd.prog 34 #[.slice a len cap, .func (.func 35) #[] #[]] w fun e w' => e = .returned (.bool (V.any noKind)) ∧ w = w' := by
  have H1 := Lib.hid (scIndex_calls a len cap V w h)
  clear h
  go_enter Tryd.func34, Tryd.ntmps34
  go_wp2_with fail
  refine H1.out.mono ?_
  rintro e w1 ⟨⟨i, rfl, hi⟩, rfl⟩
  have HI := Lib.hid hi
  clear hi
  go_wp2_with fail
  go_ret
  exact ⟨by rw [← HI.out]; rfl, rfl⟩
end Go.Proofs.YtpinjocnmdnmiaaDoor
