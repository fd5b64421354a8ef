/- Whether two schemas are the same: schema.Same. -/
import Derived.Test.YtpinjocnmdnmiaaDoorScDecl
import Derived.Laws.EntriesVeiled
namespace Go.Proofs.YtpinjocnmdnmiaaDoor
open Go.RowKit
set_option linter.unusedVariables false

theorem take_sameI {L M : List Int} {n : Nat} (hl : n < L.length) (hm : n < M.length) (e : L.getD n 0 = M.getD n 0) (h : L.take n = M.take n) : L.take (n + 1) = M.take (n + 1) := by
  rw [List.take_succ_eq_append_getElem hl, List.take_succ_eq_append_getElem hm, h]
  have h1 : L[n] = L.getD n 0 := by simp [List.getD, hl]
  have h2 : M[n] = M.getD n 0 := by simp [List.getD, hm]
  rw [h1, h2, e]
theorem take_sameD {L M : List Dc} {n : Nat} (hl : n < L.length) (hm : n < M.length) (e : nmAt L n = nmAt M n) (e2 : ksAt L n = ksAt M n) (h : L.take n = M.take n) : L.take (n + 1) = M.take (n + 1) := by
  rw [List.take_succ_eq_append_getElem hl, List.take_succ_eq_append_getElem hm, h]
  have h1 : L[n] = L.getD n default := by simp [List.getD, hl]
  have h2 : M[n] = M.getD n default := by simp [List.getD, hm]
  rw [h1, h2, show L.getD n default = M.getD n default from Prod.ext e e2]

set_option maxHeartbeats 1000000 in
theorem equalI_calls (a : Option Addr) (len cap : Nat) (V : List Int) (a' : Option Addr) (len' cap' : Nat) (U : List Int) (w : World) (hs : KIn w a len V) (hs' : KIn w a' len' U) :
    Calls Tryd.prog 29 #[.slice a len cap, .slice a' len' cap'] w fun e w' => e = .returned (.bool (decide (V = U))) ∧ Below w.heap.size w w' := by
  have H := Lib.hid hs
  have H' := Lib.hid hs'
  have HL := Lib.hid hs.leng
  have HL' := Lib.hid hs'.leng
  have hsm := hs.small
  have hsm' := hs'.small
  clear hs hs'
  by_cases hll : len = len'
  case neg =>
    have t0 : ((len : Int) != (len' : Int)) = true := by rw [bne_iff_ne]; omega
    have HX : Hid (decide (V = U) = false) := Lib.hid (decide_eq_false (fun e => hll (by rw [← HL.out, ← HL'.out, e])))
    go_enter Tryd.func29, Tryd.ntmps29
    go_wp2_with fail
    go_ret
    exact ⟨by rw [HX.out]; rfl, Below.refl _ _⟩
  subst hll
  have t0 : ((len : Int) != (len : Int)) = false := by simp
  go_enter Tryd.func29, Tryd.ntmps29
  go_wp2_with fail
  go_loopw [13] (fun i wr => ∃ (n : Nat), n ≤ len ∧ i = .int .i64 n ∧ Hid (V.take n = U.take n) ∧ Hid (Below w.heap.size w wr)) (fun i _ => len - (intOf i).toNat)
  case atStart => exact ⟨0, Nat.zero_le _, rfl, Lib.hid rfl, Lib.hid (Below.refl _ _)⟩
  case round =>
    obtain ⟨n, hn, rfl, HT, HB⟩ := hrel
    by_cases h : n < len
    case neg =>
      have HX : Hid (decide (V = U) = true) := Lib.hid (decide_eq_true (by
        have := HT.out
        rwa [List.take_of_length_le (by rw [HL.out]; omega), List.take_of_length_le (by rw [HL'.out]; omega)] at this))
      go_wp2_with fail
      go_ret
      exact ⟨by rw [HX.out]; rfl, HB.out⟩
    case pos =>
      obtain ⟨g, off, rfl, hg, hc⟩ := (H.out.below HB.out).at' n h
      obtain ⟨g', off', rfl, hg', hc'⟩ := (H'.out.below HB.out).at' n h
      have HE := Lib.hid (fun e => take_sameI (L := V) (M := U) (n := n) (by rw [HL.out]; exact h) (by rw [HL'.out]; exact h) e HT.out)
      have HN : Hid (V.getD n 0 ≠ U.getD n 0 → V ≠ U) := Lib.hid (fun e e2 => e (by rw [e2]))
      generalize V.getD n 0 = z at hc HE HN
      generalize U.getD n 0 = y at hc' HE HN
      by_cases hz : z = y
      · have HX := Lib.hid (HE.out hz)
        have t1 : (z != y) = false := by simp [hz]
        clear hz
        go_wp2_with fail
        go_quiet (fail)
        go_wp2_with fail
        go_roundw
        case rel => exact ⟨n + 1, h, by go_num, HX, Lib.hid (below_drewN HB.out _)⟩
        case measure => simp [intOf]; omega
      · have HX : Hid (decide (V = U) = false) := Lib.hid (decide_eq_false (HN.out hz))
        have t1 : (z != y) = true := by simp [hz]
        clear hz
        go_wp2_with fail
        go_quiet (fail)
        go_wp2_with fail
        go_ret
        exact ⟨by rw [HX.out]; rfl, below_drewN HB.out _⟩

/-- Whether two declarations are the same. -/
def sameB (x y : ByteArray) (V U : List Int) : Bool := isT x y && decide (V = U)
set_option maxHeartbeats 1000000 in
theorem same1_calls (x y : ByteArray) (a : Option Addr) (len cap : Nat) (V : List Int) (a' : Option Addr) (len' cap' : Nat) (U : List Int) (w : World) (hs : KIn w a len V) (hs' : KIn w a' len' U) :
    Calls Tryd.prog 28 #[.agg #[.string x, .slice a len cap], .agg #[.string y, .slice a' len' cap']] w fun e w' => e = .returned (.bool (sameB x y V U)) ∧ Below w.heap.size w w' := by
  have hB1 : Below w.heap.size w ((w.alloc (.cells #[.string x, .slice a len cap] 36)).alloc (.cells #[.string y, .slice a' len' cap'] 36)) := ((Below.refl w.heap.size w).alloc (Nat.le_refl _) _).alloc (by simp) _
  have HB := Lib.hid hB1
  have H1 := Lib.hid (equalI_calls a len cap V a' len' cap' U _ (hs.below hB1) (hs'.below hB1))
  have HS : Hid (sameB x y V U = (isT x y && decide (V = U))) := Lib.hid rfl
  have hsm := hs.small
  have hsm' := hs'.small
  clear hs hs' hB1
  generalize decide (V = U) = r at H1 HS
  cases e : isT x y
  · have t1 : (x.toList == y.toList) = false := e
    rw [e] at HS
    clear e
    go_enter Tryd.func28, Tryd.ntmps28
    go_wp2_with fail
    go_ret
    exact ⟨by rw [HS.out]; rfl, HB.out⟩
  · have t1 : (x.toList == y.toList) = true := e
    rw [e] at HS
    clear e
    go_enter Tryd.func28, Tryd.ntmps28
    go_wp2_with fail
    refine H1.out.mono ?_
    rintro e w1 ⟨rfl, k1⟩
    have HB2 := Lib.hid (HB.out.trans (k1.mono HB.out.size))
    clear k1
    go_wp2_with fail
    go_ret
    exact ⟨by rw [HS.out]; rfl, HB2.out⟩

set_option maxHeartbeats 4000000 in
theorem equalF_calls (a : Option Addr) (len cap : Nat) (L : List Dc) (a' : Option Addr) (len' cap' : Nat) (M : List Dc) (w : World) (hs : DIn w a len L) (hs' : DIn w a' len' M) :
    Calls Tryd.prog 27 #[.slice a len cap, .slice a' len' cap', .func (.func 28) #[] #[]] w fun e w' => e = .returned (.bool (decide (L = M))) ∧ Below w.heap.size w w' := by
  have H := Lib.hid hs
  have H' := Lib.hid hs'
  have HL := Lib.hid hs.leng
  have HL' := Lib.hid hs'.leng
  have hsm := hs.small
  have hsm' := hs'.small
  have eg : ∀ args w, (callFunc 28 args).run Tryd.prog w = .ok (.enter 28 args) w := enters_of Tryd.func28 (by kernel_rfl) rfl
  clear hs hs'
  by_cases hll : len = len'
  case neg =>
    have t0 : ((len : Int) != (len' : Int)) = true := by rw [bne_iff_ne]; omega
    have HX : Hid (decide (L = M) = false) := Lib.hid (decide_eq_false (fun e => hll (by rw [← HL.out, ← HL'.out, e])))
    go_enter Tryd.func27, Tryd.ntmps27
    go_wp2_with fail
    go_ret
    exact ⟨by rw [HX.out]; rfl, Below.refl _ _⟩
  subst hll
  have t0 : ((len : Int) != (len : Int)) = false := by simp
  go_enter Tryd.func27, Tryd.ntmps27
  go_wp2_with fail
  go_loopw [17] (fun i wr => ∃ (n : Nat), n ≤ len ∧ i = .int .i64 n ∧ Hid (L.take n = M.take n) ∧ Hid (Below w.heap.size w wr)) (fun i _ => len - (intOf i).toNat)
  case atStart => exact ⟨0, Nat.zero_le _, rfl, Lib.hid rfl, Lib.hid (Below.refl _ _)⟩
  case round =>
    obtain ⟨n, hn, rfl, HT, HB⟩ := hrel
    by_cases h : n < len
    case neg =>
      have HX : Hid (decide (L = M) = true) := Lib.hid (decide_eq_true (by
        have := HT.out
        rwa [List.take_of_length_le (by rw [HL.out]; omega), List.take_of_length_le (by rw [HL'.out]; omega)] at this))
      go_wp2_with fail
      go_ret
      exact ⟨by rw [HX.out]; rfl, HB.out⟩
    case pos =>
      obtain ⟨g, off, b, c, rfl, hg, h1, h2, h3, h4⟩ := (H.out.below HB.out).at' n h
      obtain ⟨g', off', b', c', rfl, hg', h1', h2', h3', h4'⟩ := (H'.out.below HB.out).at' n h
      have HE := Lib.hid (fun e e2 => take_sameD (L := L) (M := M) (n := n) (by rw [HL.out]; exact h) (by rw [HL'.out]; exact h) e e2 HT.out)
      have HN : Hid (¬ (nmAt L n = nmAt M n ∧ ksAt L n = ksAt M n) → L ≠ M) := Lib.hid (fun e e2 => e (by rw [e2]; exact ⟨rfl, rfl⟩))
      generalize nmAt L n = x at h1 h4 HE HN
      generalize nmAt M n = y at h1' h4' HE HN
      generalize ksAt L n = V at h2 h3 HE HN
      generalize ksAt M n = U at h2' h3' HE HN
      have HB2 : Hid (Below wr.heap.size wr ((wr.alloc (.cells #[.string x, .slice b V.length c] 36)).alloc (.cells #[.string y, .slice b' U.length c'] 36))) := Lib.hid (((Below.refl wr.heap.size wr).alloc (Nat.le_refl _) _).alloc (by simp) _)
      have H1 := Lib.hid (same1_calls x y b V.length c V b' U.length c' U _ (h3.below HB2.out) (h3'.below HB2.out))
      clear h3 h3' h4 h4'
      cases e : sameB x y V U
      · have HX : Hid (decide (L = M) = false) := Lib.hid (decide_eq_false (HN.out (by
          rintro ⟨rfl, rfl⟩
          unfold sameB at e
          rw [isT_refl, decide_eq_true rfl] at e
          cases e)))
        rw [e] at H1
        clear e
        go_wp2_with fail
        refine H1.out.mono ?_
        rintro e w1 ⟨rfl, k1⟩
        have HB3 := Lib.hid ((HB.out.trans (HB2.out.mono HB.out.size)).trans (k1.mono (by have := HB.out.size; simp; omega)))
        clear k1
        go_wp2_with fail
        go_ret
        exact ⟨by rw [HX.out]; rfl, HB3.out⟩
      · have HX := Lib.hid (HE.out (isT_iff.1 (by unfold sameB at e; rw [Bool.and_eq_true] at e; exact e.1)) (of_decide_eq_true (by unfold sameB at e; rw [Bool.and_eq_true] at e; exact e.2)))
        rw [e] at H1
        clear e
        go_wp2_with fail
        refine H1.out.mono ?_
        rintro e w1 ⟨rfl, k1⟩
        have HB3 := Lib.hid ((HB.out.trans (HB2.out.mono HB.out.size)).trans (k1.mono (by have := HB.out.size; simp; omega)))
        clear k1
        go_wp2_with fail
        go_roundw
        case rel => exact ⟨n + 1, h, by go_num, HX, HB3⟩
        case measure => simp [intOf]; omega

set_option maxHeartbeats 400000 in
theorem scSame_calls (a : Option Addr) (len cap : Nat) (L : List Dc) (a' : Option Addr) (len' cap' : Nat) (M : List Dc) (w : World) (hs : DIn w a len L) (hs' : DIn w a' len' M) :
    Calls Tryd.prog 20 #[.slice a len cap, .slice a' len' cap'] w fun e w' => e = .returned (.bool (decide (L = M))) ∧ Below w.heap.size w w' := by
  have H1 := Lib.hid (equalF_calls a len cap L a' len' cap' M w hs hs')
  clear hs hs'
  generalize decide (L = M) = r at H1
  go_enter Tryd.func20, Tryd.ntmps20
  go_wp2_with fail
  refine H1.out.mono ?_
  rintro e w1 ⟨rfl, k1⟩
  go_wp2_with fail
  go_ret
  exact ⟨rfl, k1⟩
end Go.Proofs.YtpinjocnmdnmiaaDoor
