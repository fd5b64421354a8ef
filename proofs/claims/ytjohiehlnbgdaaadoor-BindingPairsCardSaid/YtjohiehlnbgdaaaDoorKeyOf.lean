/- What key.Of does with any list of values: their keys, or nothing. -/
import Derived.Test.YtjohiehlnbgdaaaDoorKeyPutV
import Derived.Test.YtjohiehlnbgdaaaDoorValRight
namespace Go.Proofs.YtjohiehlnbgdaaaDoor
open Go.RowKit
set_option linter.unusedVariables false

/-- A list of values in memory: none, or they lie in a row. -/
structure VIn (w : World) (a : Option Addr) (len : Nat) (L : List Vd) : Prop where
  leng : L.length = len
  small : len ≤ 9223372036854775807
  row : 0 < len → ∃ g off, a = some ⟨g, off, none⟩ ∧ VRow w g off L
  fits : ∀ n, n < L.length → (L.getD n default).s.size ≤ 9223372036854775807 ∧ -9223372036854775808 ≤ (L.getD n default).i ∧ (L.getD n default).i ≤ 9223372036854775807
theorem VIn.below {w w' : World} {a : Option Addr} {len : Nat} {L : List Vd} (h : VIn w a len L) (hb : Below w.heap.size w w') : VIn w' a len L :=
  ⟨h.leng, h.small, fun h0 => by obtain ⟨g, off, e, hr⟩ := h.row h0; exact ⟨g, off, e, hr.below hb⟩, h.fits⟩
/-- The value at a place. -/
theorem VIn.at' {w : World} {a : Option Addr} {len : Nat} {L : List Vd} (h : VIn w a len L) {n : Nat} (hn : n < len) : ∃ g off, a = some ⟨g, off, none⟩ ∧ Lies g (off + n * 4) (L.getD n default) w := by
  obtain ⟨g, off, e, hr⟩ := h.row (by omega)
  exact ⟨g, off, e, hr.at' n (by rw [h.leng]; exact hn)⟩
theorem Lies.boxed {g : Nat} {v : Vd} {w : World} (h : Boxed g v.k v.i v.s v.b w) : Lies g 0 v w := h
theorem VIn.one (v : Vd) (w : World) (t : TypeId) (hs : v.s.size ≤ 9223372036854775807) (hi : -9223372036854775808 ≤ v.i ∧ v.i ≤ 9223372036854775807) : VIn (w.alloc (.cells #[.int .i64 v.k, .int .i64 v.i, .string v.s, .bool v.b] t)) (some ⟨w.heap.size, 0, none⟩) 1 [v] :=
  ⟨rfl, by omega, fun _ => ⟨w.heap.size, 0, rfl, ⟨fun n hn => by
      obtain rfl : n = 0 := by simpa using hn
      exact Boxed.new v.k v.i v.s v.b w t, by simp⟩⟩, fun n hn => by
      obtain rfl : n = 0 := by simpa using hn
      exact ⟨hs, hi⟩⟩

theorem keys_next (L : List Vd) (n : Nat) (h : n < L.length) : keysL (L.take (n + 1)) = keysL (L.take n) ++ keyV (L.getD n default) := by
  rw [List.take_succ_eq_append_getElem h, keysL_app, keysL, keysL, List.append_nil]
  simp [List.getD, h]
theorem allD_at {L : List Vd} (h : allD L) {n : Nat} (hn : n < L.length) : rightD (L.getD n default) := by
  have : L.getD n default = L[n] := by simp [List.getD, hn]
  rw [this]
  exact h _ (List.getElem_mem hn)
theorem keys_max : ∀ {L : List Vd}, allD L → (keysL L).length ≤ 8195 * L.length
  | [], _ => by simp [keysL]
  | v :: L, h => by
    have h1 := key_max (h v (by simp))
    have h2 := keys_max (L := L) (fun u hu => h u (by simp [hu]))
    rw [keysL, List.length_append, List.length_cons]
    omega
theorem keys_part (L : List Vd) (n : Nat) : (keysL (L.take n)).length ≤ (keysL L).length := by
  have : keysL L = keysL (L.take n) ++ keysL (L.drop n) := by rw [← keysL_app, List.take_append_drop]
  rw [this, List.length_append]; omega

theorem make_bytes (K : Nat) (hK : K ≤ 819500000) (w : World) : (Instr.makeSlice 32 (.int .i64 (K : Int)) (.int .i64 (K : Int))).run Tryd.prog w = .ok (.slice (some ⟨w.heap.size, 0, none⟩) K K) (w.alloc (.cells (madeCells #[.int .u8 0] K) 5)) := by
  obtain ⟨i0, hi, hz0, hz1, hz2⟩ := info_parts infoU8
  have h := run_make w 32 5 i0 (.int .u8 0) Tryd.underlying32 hi hz0 .i64 .i64 (K : Int) (K : Int) (by omega) (by omega) (by rw [hz2]; omega) (by omega)
  rw [h, hz1]
  simp [Value.cells]

set_option maxHeartbeats 4000000 in
set_option maxRecDepth 100000 in
theorem ofYes_calls (a : Option Addr) (len cap : Nat) (L : List Vd) (w : World) (hv : VIn w a len L) (hall : allD L) (hlen : len ≤ 100000) (hm : MaxAt w) :
    Calls Tryd.prog 35 #[.slice a len cap] w fun e w' => (∃ g, e = .returned (.slice (some ⟨g, 0, none⟩) (keysL L).length (keysL L).length) ∧ w.heap.size ≤ g ∧ Holds g (keysL L) w') ∧ Below w.heap.size w w' := by
  have HV := Lib.hid hv
  have HAll := Lib.hid hall
  have HL := Lib.hid hv.leng
  have hK : (keysL L).length ≤ 819500000 := by
    have := keys_max hall
    rw [hv.leng] at this
    omega
  have hM := fun w1 (hb : Below w.heap.size w w1) => hm.below hb
  have HM := Lib.hid hM
  have hmg : 0 < w.heap.size := by obtain ⟨m, hm⟩ := hm; exact block_lt_of_cell hm
  have HMg := Lib.hid hmg
  have HR := Lib.hid (fun (v : Vd) (h : rightD v) w1 => vRight_calls v.k v.i v.s v.b w1 (by have := right_size h.1; omega))
  have HS := Lib.hid (fun (v : Vd) (h : rightD v) w1 => sizeOf_calls v.k v.i v.s v.b w1 h)
  obtain ⟨K, hKe⟩ : ∃ K, K = (keysL L).length := ⟨_, rfl⟩
  rw [← hKe] at hK ⊢
  have HK := Lib.hid hKe
  clear hv hall hm hM hmg hKe
  go_enter Tryd.func35, Tryd.ntmps35
  go_wp2_with fail
  go_loopw [3, 12] (fun z i wr => ∃ (n : Nat), n ≤ len ∧ i = .int .i64 n ∧ z = .int .i64 ((keysL (L.take n)).length : Nat) ∧ Hid (Below w.heap.size w wr)) (fun _ i _ => len - (intOf i).toNat)
  case atStart => exact ⟨0, Nat.zero_le _, rfl, rfl, Lib.hid (Below.refl _ _)⟩
  case round =>
    obtain ⟨n, hn, rfl, rfl, HB⟩ := hrel
    by_cases h : n < len
    case pos =>
      obtain ⟨g0, off0, rfl, hE⟩ := (HV.out.below HB.out).at' h
      have hrt := allD_at HAll.out (n := n) (by rw [HL.out]; exact h)
      have HNx := Lib.hid (keys_next L n (by rw [HL.out]; exact h))
      have HKm : Hid ((keysL (L.take (n + 1))).length ≤ K) := Lib.hid (by rw [HK.out]; exact keys_part L (n + 1))
      obtain ⟨v, hv⟩ : ∃ v, v = L.getD n default := ⟨_, rfl⟩
      rw [← hv] at hE hrt HNx
      obtain ⟨c0, c1, c2, c3⟩ := hE
      have h1 := HR.out v hrt
      have h2 := HS.out v hrt
      rw [hrt.1] at h1
      have H1 := Lib.hid h1
      have H2 := Lib.hid h2
      have HBV := Lib.hid (Boxed.new v.k v.i v.s v.b wr 34)
      obtain ⟨z, hz⟩ : ∃ z, z = (keysL (L.take n)).length := ⟨_, rfl⟩
      obtain ⟨y, hy⟩ : ∃ y, y = (keyV v).length := ⟨_, rfl⟩
      have hzy : (keysL (L.take (n + 1))).length = z + y := by rw [HNx.out, List.length_append, hz, hy]
      have HZY := Lib.hid hzy
      have hzk : z + y ≤ K := by rw [← hzy]; exact HKm.out
      rw [← hz]
      have ev : (⟨v.k, v.i, v.s, v.b⟩ : Vd) = v := rfl
      rw [ev, ← hy] at H2
      have HSz : Hid (wr.heap.size < (wr.alloc (.cells #[.int .i64 v.k, .int .i64 v.i, .string v.s, .bool v.b] 34)).heap.size) := Lib.hid (by simp)
      clear hv hrt h1 h2 hz hy hzy ev
      go_wp2_with fail
      refine (H1.out _).mono ?_
      rintro e w1 ⟨rfl, k1⟩
      obtain ⟨b0, b1, b2, b3⟩ := HBV.out.below k1 HSz.out
      have HB1 := Lib.hid ((HB.out.alloc HB.out.size (.cells #[.int .i64 v.k, .int .i64 v.i, .string v.s, .bool v.b] 34)).trans (k1.mono (by have := HB.out.size; simp; omega)))
      clear c0 c1 c2 c3 k1
      go_wp2_with fail
      refine (H2.out _).mono ?_
      rintro e w2 ⟨rfl, k2⟩
      have HB2 := Lib.hid (HB1.out.trans (k2.mono HB1.out.size))
      clear b0 b1 b2 b3 k2
      go_wp2_with fail
      go_roundw
      case rel => exact ⟨n + 1, by omega, by go_num, by rw [HZY.out]; go_num, HB2⟩
      case measure => simp [intOf]; omega
    case neg =>
      obtain rfl : n = len := by omega
      have HKn : Hid ((keysL (L.take n)).length = K) := Lib.hid (by rw [HK.out, List.take_of_length_le (by rw [HL.out]; exact Nat.le_refl _)])
      rw [HKn.out]
      have hmk := make_bytes K hK wr
      obtain ⟨g, hg⟩ : ∃ g, g = wr.heap.size := ⟨_, rfl⟩
      have H0 := Lib.hid (Holds.made wr K)
      have HB1 := Lib.hid (HB.out.alloc HB.out.size (.cells (madeCells #[.int .u8 0] K) 5))
      have HGw : Hid (w.heap.size ≤ g) := Lib.hid (by rw [hg]; exact HB.out.size)
      rw [← hg] at hmk H0
      have HPut := Lib.hid (fun (m : Nat) (p : List UInt8) (v : Vd) w1 (hv : rightD v) (len : Nat) (hlen : len = m + (keyV v).length) (h : Holds g (p ++ List.replicate len 0) w1) (hl : len ≤ 819500000) (hb : Below w.heap.size w w1) => put_calls g len m len p v w1 hv hlen h (Nat.le_refl _) (by omega) (HM.out _ hb) (by have := HMg.out; have := HGw.out; omega))
      clear hg HR HS HB HM
      go_wp2_with fail
      go_loopw [7, 28] (fun z i w3 => ∃ (n' : Nat), n' ≤ n ∧ i = .int .i64 n' ∧ z = .int .i64 ((keysL (L.take n')).length : Nat) ∧ Hid (Holds g (keysL (L.take n') ++ List.replicate (K - (keysL (L.take n')).length) 0) w3) ∧ Hid (Below w.heap.size w w3)) (fun _ i _ => n - (intOf i).toNat)
      case atStart => exact ⟨0, Nat.zero_le _, rfl, rfl, Lib.hid (by simpa [keysL] using H0.out), HB1⟩
      case round =>
        clear H0 HB1 h hn hmk
        obtain ⟨n', hn, rfl, rfl, H, HB⟩ := hrel
        by_cases h : n' < n
        case neg =>
          obtain rfl : n' = n := by omega
          go_wp2_with fail
          go_ret
          refine ⟨⟨g, rfl, HGw.out, ?_⟩, HB.out⟩
          have h5 := H.out
          rw [HKn.out, Nat.sub_self, List.take_of_length_le (by rw [HL.out]; exact Nat.le_refl _)] at h5
          simpa using h5
        case pos =>
          obtain ⟨g0, off0, rfl, hE⟩ := (HV.out.below HB.out).at' h
          have hrt := allD_at HAll.out (n := n') (by rw [HL.out]; exact h)
          have HNx := Lib.hid (keys_next L n' (by rw [HL.out]; exact h))
          have HKm : Hid ((keysL (L.take (n' + 1))).length ≤ K) := Lib.hid (by rw [HK.out]; exact keys_part L (n' + 1))
          obtain ⟨v, hv⟩ : ∃ v, v = L.getD n' default := ⟨_, rfl⟩
          rw [← hv] at hE hrt HNx
          obtain ⟨c0, c1, c2, c3⟩ := hE
          have HBV := Lib.hid (Boxed.new v.k v.i v.s v.b wr 34)
          have hgl : g < wr.heap.size := H.out.lt
          have HGl := Lib.hid hgl
          have hy2 := key_pos hrt
          obtain ⟨p, hp⟩ : ∃ p, p = keysL (L.take n') := ⟨_, rfl⟩
          rw [← hp] at H HNx ⊢
          obtain ⟨z, hz⟩ : ∃ z, z = p.length := ⟨_, rfl⟩
          obtain ⟨y, hy⟩ : ∃ y, y = (keyV v).length := ⟨_, rfl⟩
          have hzy : (keysL (L.take (n' + 1))).length = z + y := by rw [HNx.out, List.length_append, hz, hy]
          have HZY := Lib.hid hzy
          have hzk : z + y ≤ K := by rw [← hzy]; exact HKm.out
          have HP := Lib.hid (fun w1 (h : Holds g (p ++ List.replicate (K - z) 0) w1) (hb : Below w.heap.size w w1) => HPut.out (K - z - y) p v w1 hrt (K - z) (by rw [← hy]; omega) h (by omega) hb)
          rw [← hy] at HP hy2
          rw [← hz] at HP H ⊢
          have hne : ¬ K = z := by omega
          have i1 : (0 : Int) ≤ (z : Int) := by omega
          have i2 : (z : Int) ≤ (K : Int) := by omega
          have hwr : IntKind.i64.wrap ((z : Int) + (y : Int)) = (z : Int) + (y : Int) := by rw [IntKind.wrap_i64]; omega
          have HA := Lib.hid (HB.out.alloc HB.out.size (.cells #[.int .i64 v.k, .int .i64 v.i, .string v.s, .bool v.b] 34))
          have HH := Lib.hid (H.out.alloc (.cells #[.int .i64 v.k, .int .i64 v.i, .string v.s, .bool v.b] 34))
          have HSz : Hid (w.heap.size ≤ (wr.alloc (.cells #[.int .i64 v.k, .int .i64 v.i, .string v.s, .bool v.b] 34)).heap.size) := Lib.hid HA.out.size
          clear hv hp hz hy hzy hrt hgl
          go_wp2_with fail
          go_region_held3 (fun w1 => w1.cell? ⟨wr.heap.size, 0, none⟩ = some (.int .i64 v.k) ∧ w1.cell? ⟨wr.heap.size, 1, none⟩ = some (.int .i64 v.i) ∧ w1.cell? ⟨wr.heap.size, 2, none⟩ = some (.string v.s) ∧ w1.cell? ⟨wr.heap.size, 3, none⟩ = some (.bool v.b)) (first | exact HB5.out | exact HBV.out) (first
            | (go_at_call 52; refine (HP.out _ HH.out.drew HA.out.drew).mono ?_; rintro e w4 ⟨rfl, k5, k6⟩; have HB5 := Lib.hid (k6.boxed HBV.out.drew (by have := HGl.out; omega)); have HH5 := Lib.hid k5; have HW := Lib.hid (k6.to HA.out.drew HSz.out HGw.out); clear k5 k6))
          go_wp2_with fail
          go_roundw
          case rel => exact ⟨n' + 1, by omega, by go_num, by rw [HZY.out]; go_num, Lib.hid (by rw [HZY.out, HNx.out, show K - (z + y) = K - z - y by omega]; exact HH5.out), HW⟩
          case measure => simp [intOf]; omega
end Go.Proofs.YtjohiehlnbgdaaaDoor
