/- The walk of the law KeyCuts: with any bytes it answers true. -/
import Derived.Test.YtppplkfidjjodaaDoorKeyAwake
import Derived.Test.YtppplkfidjjodaaDoorKeyOpen
import Derived.Test.YtppplkfidjjodaaDoorKeyHelp
import Derived.Test.YtppplkfidjjodaaDoorKeyRefRead
namespace Go.Proofs.YtppplkfidjjodaaDoor.keyCuts
open Go.RowKit
set_option linter.unusedVariables false

/-- Two boxes, each with the value, and the world below them as it was. -/
structure Two (w0 : World) (v : Vd) (g1 g2 : Nat) (w : World) : Prop where
  below : Below w0.heap.size w0 w
  one : Boxed g1 v.k v.i v.s v.b w
  two : Boxed g2 v.k v.i v.s v.b w
  lt1 : g1 < w.heap.size
  lt2 : g2 < w.heap.size
theorem Two.step {w0 w w' : World} {v : Vd} {g1 g2 : Nat} (h : Two w0 v g1 g2 w) (hb : Below w.heap.size w w') : Two w0 v g1 g2 w' :=
  ⟨h.below.trans (hb.mono h.below.size), h.one.below hb h.lt1, h.two.below hb h.lt2, Nat.lt_of_lt_of_le h.lt1 hb.size, Nat.lt_of_lt_of_le h.lt2 hb.size⟩
theorem Two.drew {w0 w : World} {v : Vd} {g1 g2 : Nat} (h : Two w0 v g1 g2 w) : Two w0 v g1 g2 w.drew := h.step ((Below.refl w.heap.size w).drew)
theorem Two.both {w0 w : World} {v : Vd} {g1 g2 : Nat} (h : Two w0 v g1 g2 w) : (w.cell? ⟨g1, 0, none⟩ = some (.int .i64 v.k) ∧ w.cell? ⟨g1, 1, none⟩ = some (.int .i64 v.i) ∧ w.cell? ⟨g1, 2, none⟩ = some (.string v.s) ∧ w.cell? ⟨g1, 3, none⟩ = some (.bool v.b)) ∧ (w.cell? ⟨g2, 0, none⟩ = some (.int .i64 v.k) ∧ w.cell? ⟨g2, 1, none⟩ = some (.int .i64 v.i) ∧ w.cell? ⟨g2, 2, none⟩ = some (.string v.s) ∧ w.cell? ⟨g2, 3, none⟩ = some (.bool v.b)) := ⟨h.one, h.two⟩
theorem all3 {w0 w : World} {v : Vd} {g1 g2 : Nat} {C : Prop} (h : Two w0 v g1 g2 w) (hc : C) : ((w.cell? ⟨g1, 0, none⟩ = some (.int .i64 v.k) ∧ w.cell? ⟨g1, 1, none⟩ = some (.int .i64 v.i) ∧ w.cell? ⟨g1, 2, none⟩ = some (.string v.s) ∧ w.cell? ⟨g1, 3, none⟩ = some (.bool v.b)) ∧ (w.cell? ⟨g2, 0, none⟩ = some (.int .i64 v.k) ∧ w.cell? ⟨g2, 1, none⟩ = some (.int .i64 v.i) ∧ w.cell? ⟨g2, 2, none⟩ = some (.string v.s) ∧ w.cell? ⟨g2, 3, none⟩ = some (.bool v.b))) ∧ C := ⟨h.both, hc⟩
theorem eq_self (v : Vd) (w : World) : (Op.equalIn 10000 33 (.agg #[.int .i64 v.k, .int .i64 v.i, .string v.s, .bool v.b]) (.agg #[.int .i64 v.k, .int .i64 v.i, .string v.s, .bool v.b])).run Tryd.prog w = .ok true w := by
  rw [eqIn, (eqB_iff _ _ _ _ _ _ _ _).2 ⟨rfl, rfl, rfl, rfl⟩]

set_option maxHeartbeats 4000000 in
set_option maxRecDepth 100000 in
theorem walk (a : Option Addr) (len cap : Nat) (l : List UInt8) (w : World) (h : BIn w a len cap l) (hlen : len ≤ 9223372036854775807) (hm : MaxAt w) :
    Calls Tryd.prog 4 #[.slice a len cap] w fun e w' => e = .returned (.bool true) ∧ Below w.heap.size w w' := by
  have HAw := Lib.hid (fun w1 (hb : Below w.heap.size w w1) => awake_calls w1 (hm.below hb))
  by_cases h10 : 10000 < len
  · have t1 : decide ((10000 : Int) < (len : Int)) = true := by simp; omega
    clear h hm h10
    go_enter Tryd.func4, Tryd.ntmps4
    go_wp2_with fail
    refine (HAw.out _ (Below.refl _ _)).mono ?_
    rintro e w1 ⟨rfl, k1⟩
    go_wp2_with fail
    go_ret
    exact ⟨rfl, k1⟩
  have t1 : decide ((10000 : Int) < (len : Int)) = false := by simp; omega
  have H1 := Lib.hid (cut_calls a len cap l w h (by omega))
  have H2 := Lib.hid (fun w1 (hb : Below w.heap.size w w1) => refRead_calls a len cap l w1 (h.below hb) (by omega))
  have HOf := Lib.hid (fun (v : Vd) (hv : rightD v) (g : Nat) w1 (hi : VIn w1 (some ⟨g, 0, none⟩) 1 [v]) (hb : Below w.heap.size w w1) => ofYes_calls (some ⟨g, 0, none⟩) 1 1 [v] w1 hi (fun u hu => by simp at hu; subst hu; exact hv) (by omega) (hm.below hb))
  have H := Lib.hid h
  have HL := Lib.hid h.leng
  have q2 := guardV
  clear h hm
  go_enter Tryd.func4, Tryd.ntmps4
  go_wp2_with fail
  refine H1.out.mono ?_
  rintro e w1 ⟨v, n, ok, ht, rfl, k1⟩
  have HT := Lib.hid ht
  have HB1 := Lib.hid (Boxed.new v.k v.i v.s v.b w1 33)
  have HA1 := Lib.hid (k1.alloc k1.size (.cells #[.int .i64 v.k, .int .i64 v.i, .string v.s, .bool v.b] 33))
  clear k1 ht
  go_wp2_with fail
  refine (H2.out _ HA1.out).mono ?_
  rintro e w2 ⟨v', n', ok', ht', rfl, k2⟩
  obtain ⟨rfl, rfl, rfl⟩ := HT.out.same ht'
  have HTw := Lib.hid ((⟨(HA1.out.trans (k2.mono HA1.out.size)).alloc (HA1.out.trans (k2.mono HA1.out.size)).size _, (HB1.out.below k2 (by simp)).below ((Below.refl w2.heap.size w2).alloc (Nat.le_refl _) _) (by have := k2.size; simp at this; omega), Boxed.new v.k v.i v.s v.b w2 33, by have := k2.size; simp at this; simp; omega, by simp⟩ : Two w v w1.heap.size w2.heap.size (w2.alloc (.cells #[.int .i64 v.k, .int .i64 v.i, .string v.s, .bool v.b] 33))))
  have q1 := eq_self v
  clear k2 ht' HA1 HB1
  have hn : n ≤ len := by have := HT.out.pos.2; rw [HL.out] at this; exact this
  cases ok
  · have hn0 : n = 0 := HT.out.none'.2.1
    subst hn0
    have e1 : decide ((0 : Int) < ((0 : Nat) : Int)) = false := by simp
    go_wp2_with fail
    refine wp_region_held_drew (S := (fun w3 => ((w3.cell? ⟨w1.heap.size, 0, none⟩ = some (.int .i64 v.k) ∧ w3.cell? ⟨w1.heap.size, 1, none⟩ = some (.int .i64 v.i) ∧ w3.cell? ⟨w1.heap.size, 2, none⟩ = some (.string v.s) ∧ w3.cell? ⟨w1.heap.size, 3, none⟩ = some (.bool v.b)) ∧ (w3.cell? ⟨w2.heap.size, 0, none⟩ = some (.int .i64 v.k) ∧ w3.cell? ⟨w2.heap.size, 1, none⟩ = some (.int .i64 v.i) ∧ w3.cell? ⟨w2.heap.size, 2, none⟩ = some (.string v.s) ∧ w3.cell? ⟨w2.heap.size, 3, none⟩ = some (.bool v.b))))) (by kernel_rfl) (HTw.out.drew.both) (fun hH0 => ?_)
    refine wpAnyH_take (i := 0) (v := .agg #[.int .i64 v.k, .int .i64 v.i, .string v.s, .bool v.b]) rfl (by kernel_rfl) (by kernel_rfl) (by kernel_rfl) (fun _ _ _ h => h) (Or.inl ⟨by kernel_rfl, fun wS hSw => by (try dsimp only at hSw); go_simp⟩) hH0 ?_
    refine wpAnyH_take (i := 1) (v := .agg #[.int .i64 v.k, .int .i64 v.i, .string v.s, .bool v.b]) rfl (by kernel_rfl) (by kernel_rfl) (by kernel_rfl) (fun _ _ _ h => h) (Or.inl ⟨by kernel_rfl, fun wS hSw => by (try dsimp only at hSw); go_simp⟩) hH0 ?_
    refine wpAnyH_take (i := 2) (v := .bool true) rfl (by kernel_rfl) (by kernel_rfl) (by kernel_rfl) (fun _ _ _ h => h) (Or.inl ⟨by kernel_rfl, fun wS hSw => by (try dsimp only at hSw); go_simp⟩) hH0 ?_
    refine wpAnyH_take (i := 3) (v := .bool true) rfl (by kernel_rfl) (by kernel_rfl) (by kernel_rfl) (fun _ _ _ h => h) (Or.inl ⟨by kernel_rfl, fun wS hSw => by (try dsimp only at hSw); go_simp⟩) hH0 ?_
    refine wpAnyH_take (i := 4) (v := .int .i64 ((0 : Nat) : Int)) rfl (by kernel_rfl) (by kernel_rfl) (by kernel_rfl) (fun _ _ _ h => h) (Or.inl ⟨by kernel_rfl, fun wS hSw => by (try dsimp only at hSw); go_simp⟩) hH0 ?_
    refine wpAnyH_take (i := 5) (v := .int .i64 ((0 : Nat) : Int)) rfl (by kernel_rfl) (by kernel_rfl) (by kernel_rfl) (fun _ _ _ h => h) (Or.inl ⟨by kernel_rfl, fun wS hSw => by (try dsimp only at hSw); go_simp⟩) hH0 ?_
    refine wpAnyH_take (i := 6) (v := .bool true) rfl (by kernel_rfl) (by kernel_rfl) (by kernel_rfl) (fun _ _ _ h => h) (Or.inl ⟨by kernel_rfl, fun wS hSw => by (try dsimp only at hSw); go_simp⟩) hH0 ?_
    refine wpAnyH_take (i := 7) (v := .bool true) rfl (by kernel_rfl) (by kernel_rfl) (by kernel_rfl) (fun _ _ _ h => h) (Or.inl ⟨by kernel_rfl, fun wS hSw => by (try dsimp only at hSw); go_simp⟩) hH0 ?_
    refine wpAnyH_take (i := 8) (v := .bool true) rfl (by kernel_rfl) (by kernel_rfl) (by kernel_rfl) (fun _ _ _ h => h) (Or.inl ⟨by kernel_rfl, fun wS hSw => by (try dsimp only at hSw); go_simp⟩) hH0 ?_
    refine wpAnyH_take (i := 9) (v := .bool false) rfl (by kernel_rfl) (by kernel_rfl) (by kernel_rfl) (fun _ _ _ h => h) (Or.inl ⟨by kernel_rfl, fun wS hSw => by (try dsimp only at hSw); go_simp⟩) hH0 ?_
    refine wpAnyH_take (i := 10) (v := .int .i64 ((0 : Nat) : Int)) rfl (by kernel_rfl) (by kernel_rfl) (by kernel_rfl) (fun _ _ _ h => h) (Or.inl ⟨by kernel_rfl, fun wS hSw => by (try dsimp only at hSw); go_simp⟩) hH0 ?_
    refine wpAnyH_take (i := 11) (v := .bool false) rfl (by kernel_rfl) (by kernel_rfl) (by kernel_rfl) (fun _ _ _ h => h) (Or.inl ⟨by kernel_rfl, fun wS hSw => by (try dsimp only at hSw); go_simp⟩) hH0 ?_
    refine wpAnyH_take (i := 12) (v := .bool true) rfl (by kernel_rfl) (by kernel_rfl) (by kernel_rfl) (fun _ _ _ h => h) (Or.inl ⟨by kernel_rfl, fun wS hSw => by (try dsimp only at hSw); go_simp⟩) hH0 ?_
    refine wpAnyH_take (i := 13) (v := .bool true) rfl (by kernel_rfl) (by kernel_rfl) (by kernel_rfl) (fun _ _ _ h => h) (Or.inl ⟨by kernel_rfl, fun wS hSw => by (try dsimp only at hSw); go_simp⟩) hH0 ?_
    refine wpAnyH_take (i := 14) (v := .bool true) rfl (by kernel_rfl) (by kernel_rfl) (by kernel_rfl) (fun _ _ _ h => h) (Or.inl ⟨by kernel_rfl, fun wS hSw => by (try dsimp only at hSw); go_simp⟩) hH0 ?_
    refine wpAnyH_take (i := 15) (v := .bool false) rfl (by kernel_rfl) (by kernel_rfl) (by kernel_rfl) (fun _ _ _ h => h) (Or.inl ⟨by kernel_rfl, fun wS hSw => by (try dsimp only at hSw); go_simp⟩) hH0 ?_
    refine wpAnyH_take (i := 16) (v := .bool true) rfl (by kernel_rfl) (by kernel_rfl) (by kernel_rfl) (fun _ _ _ h => h) (Or.inl ⟨by kernel_rfl, fun wS hSw => by (try dsimp only at hSw); go_simp⟩) hH0 ?_
    refine wpAnyH_take (i := 17) (v := .bool true) rfl (by kernel_rfl) (by kernel_rfl) (by kernel_rfl) (fun _ _ _ h => h) (Or.inl ⟨by kernel_rfl, fun wS hSw => by (try dsimp only at hSw); go_simp⟩) hH0 ?_
    refine wpAnyH_take (i := 18) (v := undef) rfl (by kernel_rfl) (by kernel_rfl) (by kernel_rfl) (fun _ _ _ h => h) (Or.inr ⟨by kernel_rfl, rfl⟩) hH0 ?_
    refine wpAnyH_take (i := 19) (v := undef) rfl (by kernel_rfl) (by kernel_rfl) (by kernel_rfl) (fun _ _ _ h => h) (Or.inr ⟨by kernel_rfl, rfl⟩) hH0 ?_
    refine wpAnyH_take (i := 20) (v := undef) rfl (by kernel_rfl) (by kernel_rfl) (by kernel_rfl) (fun _ _ _ h => h) (Or.inr ⟨by kernel_rfl, rfl⟩) hH0 ?_
    refine wpAnyH_take (i := 21) (v := undef) rfl (by kernel_rfl) (by kernel_rfl) (by kernel_rfl) (fun _ _ _ h => h) (Or.inr ⟨by kernel_rfl, rfl⟩) hH0 ?_
    refine wpAnyH_take (i := 22) (v := undef) rfl (by kernel_rfl) (by kernel_rfl) (by kernel_rfl) (fun _ _ _ h => h) (Or.inr ⟨by kernel_rfl, rfl⟩) hH0 ?_
    refine wpAnyH_take (i := 23) (v := undef) rfl (by kernel_rfl) (by kernel_rfl) (by kernel_rfl) (fun _ _ _ h => h) (Or.inr ⟨by kernel_rfl, rfl⟩) hH0 ?_
    refine wpAnyH_take (i := 24) (v := undef) rfl (by kernel_rfl) (by kernel_rfl) (by kernel_rfl) (fun _ _ _ h => h) (Or.inr ⟨by kernel_rfl, rfl⟩) hH0 ?_
    refine wpAnyH_take (i := 25) (v := undef) rfl (by kernel_rfl) (by kernel_rfl) (by kernel_rfl) (fun _ _ _ h => h) (Or.inr ⟨by kernel_rfl, rfl⟩) hH0 ?_
    refine wpAnyH_take (i := 26) (v := undef) rfl (by kernel_rfl) (by kernel_rfl) (by kernel_rfl) (fun _ _ _ h => h) (Or.inr ⟨by kernel_rfl, rfl⟩) hH0 ?_
    refine wpAnyH_take (i := 27) (v := .bool true) rfl (by kernel_rfl) (by kernel_rfl) (by kernel_rfl) (fun _ _ _ h => h) (Or.inl ⟨by kernel_rfl, fun wS hSw => by (try dsimp only at hSw); go_simp⟩) hH0 ?_
    refine wpAnyH_take (i := 28) (v := .bool true) rfl (by kernel_rfl) (by kernel_rfl) (by kernel_rfl) (fun _ _ _ h => h) (Or.inl ⟨by kernel_rfl, fun wS hSw => by (try dsimp only at hSw); go_simp⟩) hH0 ?_
    refine wpAnyH_take (i := 29) (v := .bool true) rfl (by kernel_rfl) (by kernel_rfl) (by kernel_rfl) (fun _ _ _ h => h) (Or.inl ⟨by kernel_rfl, fun wS hSw => by (try dsimp only at hSw); go_simp⟩) hH0 ?_
    refine wpAnyH_ready (rs := [30]) (by kernel_rfl) (by simp) ?_
    refine AllReadyH.cons rfl (fun K hK => ?_) AllReadyH.nil
    rw [if_pos (by kernel_rfl)]
    go_simp
    refine (HAw.out _ HTw.out.drew.below).mono ?_
    rintro e w6 ⟨rfl, k6⟩
    have HK6 := Lib.hid (HTw.out.drew.step k6)
    clear k6
    refine hK.out _ _ (HK6.out.both) (fun hH1 => ?_)
    clear hK K
    refine wpAnyH_take (i := 31) (v := .bool true) rfl (by kernel_rfl) (by kernel_rfl) (by kernel_rfl) (fun _ _ _ h => h) (Or.inl ⟨by kernel_rfl, fun wS hSw => by (try dsimp only at hSw); go_simp⟩) hH1 ?_
    refine wpAnyH_take (i := 32) (v := .bool true) rfl (by kernel_rfl) (by kernel_rfl) (by kernel_rfl) (fun _ _ _ h => h) (Or.inl ⟨by kernel_rfl, fun wS hSw => by (try dsimp only at hSw); go_simp⟩) hH1 ?_
    refine wpAnyH_done (by kernel_rfl) ?_ _
    go_simp
    go_wp2_with fail
    go_ret
    exact ⟨rfl, HK6.out.below⟩
  · have e0 : 0 < n := by have := HT.out.pos.1; simpa using this.symm
    have e1 : decide ((0 : Int) < (n : Int)) = true := by simp; omega
    have e2 : ((n : Int) == (n : Int)) = true := by simp
    obtain ⟨hv, hk, _⟩ := HT.out.take
    have hkl : (keyV v).length = n := by rw [← hk, List.length_take, HL.out]; omega
    obtain ⟨g, off, rfl, hr⟩ := H.out.row (by omega)
    have hkk : keysL [v] = keyV v := by rw [keysL, keysL, List.append_nil]
    have HO1 := Lib.hid (HOf.out v hv)
    rw [hkk, hkl] at HO1
    have HFit : Hid (v.s.size ≤ 9223372036854775807 ∧ -9223372036854775808 ≤ v.i ∧ v.i ≤ 9223372036854775807) := Lib.hid ⟨by have := right_size hv.1; omega, hv.2⟩
    obtain ⟨x, hx⟩ : ∃ x : ByteArray, x = ⟨(keyV v).toArray⟩ := ⟨_, rfl⟩
    have HT1 := Lib.hid (fun (g : Nat) (w1 : World) (h : Holds g (keyV v) w1) => h.bts.text n)
    have HT2 := Lib.hid (fun (w1 : World) (hb : Below w.heap.size w w1) => ((hr.below hb).take n).text cap)
    rw [hk] at HT2
    rw [hkl, ← hx] at HT1 HT2
    have e3 : (x.toList == x.toList) = true := by simp
    have i1 : (0 : Int) ≤ (n : Int) := by omega
    have i2 : (n : Int) ≤ (len : Int) := by omega
    have hroom := H.out.room
    have i3 : (n : Int) ≤ (cap : Int) := by omega
    have HK3 := Lib.hid (HTw.out.drew.step ((Below.refl _ _).alloc (Nat.le_refl _) (.cells #[.int .i64 v.k, .int .i64 v.i, .string v.s, .bool v.b] 33)))
    have HVi : Hid (VIn ((w2.alloc (.cells #[.int .i64 v.k, .int .i64 v.i, .string v.s, .bool v.b] 33)).drew.alloc (.cells #[.int .i64 v.k, .int .i64 v.i, .string v.s, .bool v.b] 33)) (some ⟨w2.heap.size + 1, 0, none⟩) 1 [v]) := Lib.hid (by
      have h1 := VIn.one v ((w2.alloc (.cells #[.int .i64 v.k, .int .i64 v.i, .string v.s, .bool v.b] 33)).drew) 33 HFit.out.1 HFit.out.2
      rwa [show ((w2.alloc (.cells #[.int .i64 v.k, .int .i64 v.i, .string v.s, .bool v.b] 33)).drew).heap.size = w2.heap.size + 1 by simp] at h1)
    clear hv hk hkl hr hkk hx
    go_wp2_with fail
    refine wp_region_held_drew (S := (fun w3 => ((w3.cell? ⟨w1.heap.size, 0, none⟩ = some (.int .i64 v.k) ∧ w3.cell? ⟨w1.heap.size, 1, none⟩ = some (.int .i64 v.i) ∧ w3.cell? ⟨w1.heap.size, 2, none⟩ = some (.string v.s) ∧ w3.cell? ⟨w1.heap.size, 3, none⟩ = some (.bool v.b)) ∧ (w3.cell? ⟨w2.heap.size, 0, none⟩ = some (.int .i64 v.k) ∧ w3.cell? ⟨w2.heap.size, 1, none⟩ = some (.int .i64 v.i) ∧ w3.cell? ⟨w2.heap.size, 2, none⟩ = some (.string v.s) ∧ w3.cell? ⟨w2.heap.size, 3, none⟩ = some (.bool v.b))) ∧ (convert 25 9 (.slice (some ⟨g, off, none⟩) n cap)).run Tryd.prog w3 = .ok (.string x) w3)) (by kernel_rfl) (all3 HTw.out.drew (HT2.out _ HTw.out.drew.below)) (fun hH0 => ?_)
    refine wpAnyH_take (i := 0) (v := .agg #[.int .i64 v.k, .int .i64 v.i, .string v.s, .bool v.b]) rfl (by kernel_rfl) (by kernel_rfl) (by kernel_rfl) (fun _ _ _ h => h) (Or.inl ⟨by kernel_rfl, fun wS hSw => by (try dsimp only at hSw); go_simp⟩) hH0 ?_
    refine wpAnyH_take (i := 1) (v := .agg #[.int .i64 v.k, .int .i64 v.i, .string v.s, .bool v.b]) rfl (by kernel_rfl) (by kernel_rfl) (by kernel_rfl) (fun _ _ _ h => h) (Or.inl ⟨by kernel_rfl, fun wS hSw => by (try dsimp only at hSw); go_simp⟩) hH0 ?_
    refine wpAnyH_take (i := 2) (v := .bool true) rfl (by kernel_rfl) (by kernel_rfl) (by kernel_rfl) (fun _ _ _ h => h) (Or.inl ⟨by kernel_rfl, fun wS hSw => by (try dsimp only at hSw); go_simp⟩) hH0 ?_
    refine wpAnyH_take (i := 3) (v := .bool true) rfl (by kernel_rfl) (by kernel_rfl) (by kernel_rfl) (fun _ _ _ h => h) (Or.inl ⟨by kernel_rfl, fun wS hSw => by (try dsimp only at hSw); go_simp⟩) hH0 ?_
    refine wpAnyH_take (i := 4) (v := .int .i64 (n : Int)) rfl (by kernel_rfl) (by kernel_rfl) (by kernel_rfl) (fun _ _ _ h => h) (Or.inl ⟨by kernel_rfl, fun wS hSw => by (try dsimp only at hSw); go_simp⟩) hH0 ?_
    refine wpAnyH_take (i := 5) (v := .int .i64 (n : Int)) rfl (by kernel_rfl) (by kernel_rfl) (by kernel_rfl) (fun _ _ _ h => h) (Or.inl ⟨by kernel_rfl, fun wS hSw => by (try dsimp only at hSw); go_simp⟩) hH0 ?_
    refine wpAnyH_take (i := 6) (v := .bool true) rfl (by kernel_rfl) (by kernel_rfl) (by kernel_rfl) (fun _ _ _ h => h) (Or.inl ⟨by kernel_rfl, fun wS hSw => by (try dsimp only at hSw); go_simp⟩) hH0 ?_
    refine wpAnyH_take (i := 7) (v := .bool true) rfl (by kernel_rfl) (by kernel_rfl) (by kernel_rfl) (fun _ _ _ h => h) (Or.inl ⟨by kernel_rfl, fun wS hSw => by (try dsimp only at hSw); go_simp⟩) hH0 ?_
    refine wpAnyH_take (i := 8) (v := .bool true) rfl (by kernel_rfl) (by kernel_rfl) (by kernel_rfl) (fun _ _ _ h => h) (Or.inl ⟨by kernel_rfl, fun wS hSw => by (try dsimp only at hSw); go_simp⟩) hH0 ?_
    refine wpAnyH_take (i := 9) (v := .bool true) rfl (by kernel_rfl) (by kernel_rfl) (by kernel_rfl) (fun _ _ _ h => h) (Or.inl ⟨by kernel_rfl, fun wS hSw => by (try dsimp only at hSw); go_simp⟩) hH0 ?_
    refine wpAnyH_take (i := 10) (v := .int .i64 (n : Int)) rfl (by kernel_rfl) (by kernel_rfl) (by kernel_rfl) (fun _ _ _ h => h) (Or.inl ⟨by kernel_rfl, fun wS hSw => by (try dsimp only at hSw); go_simp⟩) hH0 ?_
    refine wpAnyH_take (i := 11) (v := .bool true) rfl (by kernel_rfl) (by kernel_rfl) (by kernel_rfl) (fun _ _ _ h => h) (Or.inl ⟨by kernel_rfl, fun wS hSw => by (try dsimp only at hSw); go_simp⟩) hH0 ?_
    refine wpAnyH_take (i := 12) (v := .bool true) rfl (by kernel_rfl) (by kernel_rfl) (by kernel_rfl) (fun _ _ _ h => h) (Or.inl ⟨by kernel_rfl, fun wS hSw => by (try dsimp only at hSw); go_simp⟩) hH0 ?_
    refine wpAnyH_take (i := 13) (v := .bool true) rfl (by kernel_rfl) (by kernel_rfl) (by kernel_rfl) (fun _ _ _ h => h) (Or.inl ⟨by kernel_rfl, fun wS hSw => by (try dsimp only at hSw); go_simp⟩) hH0 ?_
    refine wpAnyH_take (i := 14) (v := .bool true) rfl (by kernel_rfl) (by kernel_rfl) (by kernel_rfl) (fun _ _ _ h => h) (Or.inl ⟨by kernel_rfl, fun wS hSw => by (try dsimp only at hSw); go_simp⟩) hH0 ?_
    refine wpAnyH_take (i := 15) (v := .bool true) rfl (by kernel_rfl) (by kernel_rfl) (by kernel_rfl) (fun _ _ _ h => h) (Or.inl ⟨by kernel_rfl, fun wS hSw => by (try dsimp only at hSw); go_simp⟩) hH0 ?_
    refine wpAnyH_take (i := 16) (v := .bool false) rfl (by kernel_rfl) (by kernel_rfl) (by kernel_rfl) (fun _ _ _ h => h) (Or.inl ⟨by kernel_rfl, fun wS hSw => by (try dsimp only at hSw); go_simp⟩) hH0 ?_
    refine wpAnyH_take (i := 17) (v := .bool false) rfl (by kernel_rfl) (by kernel_rfl) (by kernel_rfl) (fun _ _ _ h => h) (Or.inl ⟨by kernel_rfl, fun wS hSw => by (try dsimp only at hSw); go_simp⟩) hH0 ?_
    refine wpAnyH_take (i := 18) (v := .agg #[.int .i64 v.k, .int .i64 v.i, .string v.s, .bool v.b]) rfl (by kernel_rfl) (by kernel_rfl) (by kernel_rfl) (fun _ _ _ h => h) (Or.inl ⟨by kernel_rfl, fun wS hSw => by (try dsimp only at hSw); go_simp⟩) hH0 ?_
    refine wpAnyH_take (i := 22) (v := .slice (some ⟨g, off, none⟩) len cap) rfl (by kernel_rfl) (by kernel_rfl) (by kernel_rfl) (fun _ _ _ h => h) (Or.inl ⟨by kernel_rfl, fun wS hSw => by (try dsimp only at hSw); go_simp⟩) hH0 ?_
    refine wpAnyH_take (i := 23) (v := .int .i64 (n : Int)) rfl (by kernel_rfl) (by kernel_rfl) (by kernel_rfl) (fun _ _ _ h => h) (Or.inl ⟨by kernel_rfl, fun wS hSw => by (try dsimp only at hSw); go_simp⟩) hH0 ?_
    refine wpAnyH_take (i := 24) (v := .slice (some ⟨g, off, none⟩) n cap) rfl (by kernel_rfl) (by kernel_rfl) (by kernel_rfl) (fun _ _ _ h => h) (Or.inl ⟨by kernel_rfl, fun wS hSw => by (try dsimp only at hSw); go_simp⟩) hH0 ?_
    refine wpAnyH_take (i := 25) (v := .string x) rfl (by kernel_rfl) (by kernel_rfl) (by kernel_rfl) (fun _ _ _ h => h) (Or.inl ⟨by kernel_rfl, fun wS hSw => by (try dsimp only at hSw); go_simp⟩) hH0 ?_
    refine wpAnyH_ready (rs := [19]) (by kernel_rfl) (by simp) ?_
    refine AllReadyH.cons rfl (fun K hK => ?_) AllReadyH.nil
    rw [if_pos (by kernel_rfl)]
    go_simp
    refine hK.out _ _ (all3 HK3.out (HT2.out _ HK3.out.below)) (fun hH1 => ?_)
    clear hK K
    refine wpAnyH_ready (rs := [20]) (by kernel_rfl) (by simp) ?_
    refine AllReadyH.cons rfl (fun K hK => ?_) AllReadyH.nil
    rw [if_pos (by kernel_rfl)]
    go_simp
    refine (HO1.out _ _ HVi.out HK3.out.below).mono ?_
    rintro e w4 ⟨⟨g2, rfl, _, hh⟩, k4⟩
    have HK4 := Lib.hid (HK3.out.step k4)
    have c2 := HT1.out _ _ hh
    clear k4 hh
    refine hK.out _ _ (all3 HK4.out (HT2.out _ HK4.out.below)) (fun hH2 => ?_)
    clear hK K
    refine wpAnyH_ready (rs := [21]) (by kernel_rfl) (by simp) ?_
    refine AllReadyH.cons rfl (fun K hK => ?_) AllReadyH.nil
    rw [if_pos (by kernel_rfl)]
    go_simp
    refine hK.out _ _ (all3 HK4.out (HT2.out _ HK4.out.below)) (fun hH3 => ?_)
    clear hK K
    refine wpAnyH_take (i := 26) (v := .bool true) rfl (by kernel_rfl) (by kernel_rfl) (by kernel_rfl) (fun _ _ _ h => h) (Or.inl ⟨by kernel_rfl, fun wS hSw => by (try dsimp only at hSw); go_simp⟩) hH3 ?_
    refine wpAnyH_take (i := 27) (v := .bool true) rfl (by kernel_rfl) (by kernel_rfl) (by kernel_rfl) (fun _ _ _ h => h) (Or.inl ⟨by kernel_rfl, fun wS hSw => by (try dsimp only at hSw); go_simp⟩) hH3 ?_
    refine wpAnyH_take (i := 28) (v := .bool true) rfl (by kernel_rfl) (by kernel_rfl) (by kernel_rfl) (fun _ _ _ h => h) (Or.inl ⟨by kernel_rfl, fun wS hSw => by (try dsimp only at hSw); go_simp⟩) hH3 ?_
    refine wpAnyH_take (i := 29) (v := .bool true) rfl (by kernel_rfl) (by kernel_rfl) (by kernel_rfl) (fun _ _ _ h => h) (Or.inl ⟨by kernel_rfl, fun wS hSw => by (try dsimp only at hSw); go_simp⟩) hH3 ?_
    refine wpAnyH_ready (rs := [30]) (by kernel_rfl) (by simp) ?_
    refine AllReadyH.cons rfl (fun K hK => ?_) AllReadyH.nil
    rw [if_pos (by kernel_rfl)]
    go_simp
    refine (HAw.out _ HK4.out.below).mono ?_
    rintro e w6 ⟨rfl, k6⟩
    have HK6 := Lib.hid (HK4.out.step k6)
    clear k6
    refine hK.out _ _ (all3 HK6.out (HT2.out _ HK6.out.below)) (fun hH4 => ?_)
    clear hK K
    refine wpAnyH_take (i := 31) (v := .bool true) rfl (by kernel_rfl) (by kernel_rfl) (by kernel_rfl) (fun _ _ _ h => h) (Or.inl ⟨by kernel_rfl, fun wS hSw => by (try dsimp only at hSw); go_simp⟩) hH4 ?_
    refine wpAnyH_take (i := 32) (v := .bool true) rfl (by kernel_rfl) (by kernel_rfl) (by kernel_rfl) (fun _ _ _ h => h) (Or.inl ⟨by kernel_rfl, fun wS hSw => by (try dsimp only at hSw); go_simp⟩) hH4 ?_
    refine wpAnyH_done (by kernel_rfl) ?_ _
    go_simp
    go_wp2_with fail
    go_ret
    exact ⟨rfl, HK6.out.below⟩
end Go.Proofs.YtppplkfidjjodaaDoor.keyCuts
