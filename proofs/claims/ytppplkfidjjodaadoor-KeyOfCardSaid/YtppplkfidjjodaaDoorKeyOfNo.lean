/- What key.Of does with a list in which a value stands that may not be: nothing. -/
import Derived.Test.YtppplkfidjjodaaDoorKeyOf
namespace Go.Proofs.YtppplkfidjjodaaDoor
open Go.RowKit
set_option linter.unusedVariables false

set_option maxHeartbeats 4000000 in
set_option maxRecDepth 100000 in
theorem ofNo_calls (a : Option Addr) (len cap : Nat) (L : List Vd) (w : World) (hv : VIn w a len L) (n0 : Nat) (hn0 : n0 < len) (hbad : rightB (L.getD n0 default).k (L.getD n0 default).i (L.getD n0 default).s (L.getD n0 default).b = false)
    (hgood : ∀ j, j < n0 → rightB (L.getD j default).k (L.getD j default).i (L.getD j default).s (L.getD j default).b = true) (hlen : len ≤ 100000) :
    Calls Tryd.prog 9 #[.slice a len cap] w fun e w' => e = .returned (.slice none 0 0) ∧ Below w.heap.size w w' := by
  have HV := Lib.hid hv
  have HL := Lib.hid hv.leng
  have hall : ∀ n, n ≤ n0 → allD (L.take n) := fun n hn v hm => by
    obtain ⟨j, hj, rfl⟩ := List.getElem_of_mem hm
    rw [List.length_take] at hj
    have hjL : j < L.length := by omega
    have e : (L.take n)[j]'(by rw [List.length_take]; exact hj) = L.getD j default := by simp [List.getD, hjL]
    rw [e]
    exact ⟨hgood j (by omega), (hv.fits j hjL).2⟩
  have HK := Lib.hid (fun n (hn : n ≤ n0) => show (keysL (L.take n)).length ≤ 819500000 by
    have h1 := keys_max (hall n hn)
    rw [List.length_take] at h1
    omega)
  have HG := Lib.hid (fun n (hn : n < n0) => (show rightD (L.getD n default) from ⟨hgood n hn, (hv.fits n (by rw [hv.leng]; omega)).2⟩))
  have HR := Lib.hid (fun n (hn : n ≤ n0) w1 => vRight_calls (L.getD n default).k (L.getD n default).i (L.getD n default).s (L.getD n default).b w1 (hv.fits n (by rw [hv.leng]; omega)).1)
  have HS := Lib.hid (fun (v : Vd) (h : rightD v) w1 => sizeOf_calls v.k v.i v.s v.b w1 h)
  have HBad := Lib.hid hbad
  clear hv hall hgood hbad
  go_enter Tryd.func9, Tryd.ntmps9
  go_wp2_with fail
  go_loopw [3, 12] (fun z i wr => ∃ (n : Nat), n ≤ n0 ∧ i = .int .i64 n ∧ z = .int .i64 ((keysL (L.take n)).length : Nat) ∧ Hid (Below w.heap.size w wr)) (fun _ i _ => len - (intOf i).toNat)
  case atStart => exact ⟨0, Nat.zero_le _, rfl, rfl, Lib.hid (Below.refl _ _)⟩
  case round =>
    obtain ⟨n, hn, rfl, rfl, HB⟩ := hrel
    have h : n < len := by omega
    obtain ⟨g0, off0, rfl, hE⟩ := (HV.out.below HB.out).at' h
    have h1 := HR.out n hn
    have HNx := Lib.hid (keys_next L n (by rw [HL.out]; exact h))
    have HG1 := Lib.hid (HG.out n)
    have HBd : Hid (n = n0 → rightB (L.getD n default).k (L.getD n default).i (L.getD n default).s (L.getD n default).b = false) := Lib.hid (fun e => by rw [e]; exact HBad.out)
    obtain ⟨v, hv⟩ : ∃ v, v = L.getD n default := ⟨_, rfl⟩
    rw [← hv] at hE HNx h1 HG1 HBd
    have HBV := Lib.hid (Boxed.new v.k v.i v.s v.b wr 33)
    have HSz : Hid (wr.heap.size < (wr.alloc (.cells #[.int .i64 v.k, .int .i64 v.i, .string v.s, .bool v.b] 33)).heap.size) := Lib.hid (by simp)
    have HB0 := Lib.hid (HB.out.alloc HB.out.size (.cells #[.int .i64 v.k, .int .i64 v.i, .string v.s, .bool v.b] 33))
    obtain ⟨c0, c1, c2, c3⟩ := hE
    by_cases h0 : n = n0
    · rw [HBd.out h0] at h1
      have H1 := Lib.hid h1
      clear hv h1 h0
      go_wp2_with fail
      refine (H1.out _).mono ?_
      rintro e w1 ⟨rfl, k1⟩
      have HB1 := Lib.hid (HB0.out.trans (k1.mono HB0.out.size))
      clear c0 c1 c2 c3 k1
      go_wp2_with fail
      go_ret
      exact ⟨rfl, HB1.out⟩
    · have hrt := HG1.out (by omega)
      rw [hrt.1] at h1
      have H1 := Lib.hid h1
      have h2 := HS.out v hrt
      have hz1 := HK.out (n + 1) (by omega)
      obtain ⟨z, hz⟩ : ∃ z, z = (keysL (L.take n)).length := ⟨_, rfl⟩
      obtain ⟨y, hy⟩ : ∃ y, y = (keyV v).length := ⟨_, rfl⟩
      have hzy : (keysL (L.take (n + 1))).length = z + y := by rw [HNx.out, List.length_append, hz, hy]
      have HZY := Lib.hid hzy
      rw [hzy] at hz1
      have ev : (⟨v.k, v.i, v.s, v.b⟩ : Vd) = v := rfl
      rw [ev, ← hy] at h2
      have H2 := Lib.hid h2
      rw [← hz]
      clear hv hrt h1 h2 hz hy hzy ev
      go_wp2_with fail
      refine (H1.out _).mono ?_
      rintro e w1 ⟨rfl, k1⟩
      obtain ⟨b0, b1, b2, b3⟩ := HBV.out.below k1 HSz.out
      have HB1 := Lib.hid (HB0.out.trans (k1.mono HB0.out.size))
      clear c0 c1 c2 c3 k1
      go_wp2_with fail
      refine (H2.out _).mono ?_
      rintro e w2 ⟨rfl, k2⟩
      have HB2 := Lib.hid (HB1.out.trans (k2.mono HB1.out.size))
      clear b0 b1 b2 b3 k2
      go_wp2_with fail
      go_roundw
      case rel => exact ⟨n + 1, by omega, by go_num, by rw [HZY.out]; go_num, HB2⟩
      case measure => simp [intOf]; omega
end Go.Proofs.YtppplkfidjjodaaDoor
