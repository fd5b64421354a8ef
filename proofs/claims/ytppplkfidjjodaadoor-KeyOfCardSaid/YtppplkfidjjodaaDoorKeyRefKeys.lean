/- What the reference's Keys does with values that may be. -/
import Derived.Test.YtppplkfidjjodaaDoorKeyRefKey
namespace Go.Proofs.YtppplkfidjjodaaDoor
open Go.RowKit
set_option linter.unusedVariables false

theorem owned_some {B : Nat} {v : Value} {n : Nat} {xs : List Value} {w : World} {t : TypeId} {k : Nat} (h : w.ownsRow B t k v n xs) (hn : 0 < n) : ∃ g cap, v = .slice (some ⟨g, 0, none⟩) n cap := by
  obtain ⟨_, hown⟩ := h
  rcases hown with ⟨rfl, rfl⟩ | ⟨g, cap, cur, rfl, _⟩
  · omega
  · exact ⟨g, cap, rfl⟩

set_option maxHeartbeats 4000000 in
set_option maxRecDepth 100000 in
theorem refKeys_calls (a : Option Addr) (len cap : Nat) (L : List Vd) (w : World) (hv : VIn w a len L) (hall : allD L) (hlen : len ≤ 10000) :
    Calls Tryd.prog 11 #[.slice a len cap] w (OwnPost (keysL L) w.heap.size w) := by
  have HV := Lib.hid hv
  have HAll := Lib.hid hall
  have HL := Lib.hid hv.leng
  have HKm := Lib.hid (fun n => Nat.le_trans (keys_part L n) (keys_max hall))
  have HR := Lib.hid (fun (v : Vd) (h : rightD v) w1 => refKey_calls v w1 h)
  clear hv hall
  go_enter Tryd.func11, Tryd.ntmps11
  go_wp2_with fail
  go_loopw [3, 4] (fun o i wr => ∃ (n : Nat) (q : List UInt8), n ≤ len ∧ i = .int .i64 n ∧ Hid (q = keysL (L.take n)) ∧ Hid (wr.ownsRow w.heap.size 5 1 o q.length (Lib.byteCells q)) ∧ Hid (Below w.heap.size w wr)) (fun _ i _ => len - (intOf i).toNat)
  case atStart => exact ⟨0, [], Nat.zero_le _, rfl, Lib.hid rfl, Lib.hid (World.ownsRow_nil _ _ _ _), Lib.hid (Below.refl _ _)⟩
  case round =>
    obtain ⟨n, q, hn, rfl, HQ, HO, HB⟩ := hrel
    by_cases h : n < len
    case neg =>
      obtain rfl : n = len := by omega
      go_wp2_with fail
      go_ret
      have h5 := HO.out
      rw [HQ.out, List.take_of_length_le (by rw [HL.out]; exact Nat.le_refl _)] at h5
      exact ⟨_, rfl, h5, HB.out⟩
    case pos =>
      obtain ⟨g0, off0, rfl, hE⟩ := (HV.out.below HB.out).at' h
      have hrt := allD_at HAll.out (n := n) (by rw [HL.out]; exact h)
      have HNx := Lib.hid (keys_next L n (by rw [HL.out]; exact h))
      have hqm := HKm.out (n + 1)
      rw [HL.out] at hqm
      obtain ⟨v, hv⟩ : ∃ v, v = L.getD n default := ⟨_, rfl⟩
      rw [← hv] at hE hrt HNx
      obtain ⟨c0, c1, c2, c3⟩ := hE
      have H1 := Lib.hid (HR.out v hrt)
      obtain ⟨y, hy⟩ : ∃ y, y = keyV v := ⟨_, rfl⟩
      have hy2 := key_pos hrt
      rw [← hy] at H1 hy2 HNx
      obtain ⟨r, hr⟩ : ∃ r, r = q ++ y := ⟨_, rfl⟩
      have HR2 := Lib.hid hr
      have HQ2 : Hid (r = keysL (L.take (n + 1))) := Lib.hid (by rw [HNx.out, hr, HQ.out])
      have hsz : q.length + y.length ≤ 1000000000 := by
        rw [← HQ2.out, hr, List.length_append] at hqm
        omega
      clear hv hrt hy hr hqm
      go_wp2_with fail
      refine (H1.out _).mono ?_
      rintro e w1 ⟨o2, rfl, ho2, k1⟩
      obtain ⟨g2, cap2, rfl⟩ := owned_some ho2 (by omega)
      have HC := Lib.hid (owned_cells ho2 rfl)
      have HO1 := Lib.hid (ownsRow_below HO.out k1)
      have HB1 := Lib.hid (HB.out.trans (k1.mono HB.out.size))
      clear c0 c1 c2 c3 k1 ho2 H1
      go_wp2_with (at_builtin; refine wpList_append_bytes rfl _ _ rfl w.heap.size _ q rfl HO1.out ⟨g2, 0, none⟩ y.length cap2 y rfl rfl HC.out hsz HB1.out.size w.heap.size w HB1.out (Nat.le_refl _) r HR2.out ?_)
      intro v' w3 HO3 HB3
      go_wp2_with fail
      go_roundw
      case rel => exact ⟨n + 1, r, by omega, by go_num, HQ2, HO3, HB3⟩
      case measure => simp [intOf]; omega
end Go.Proofs.YtppplkfidjjodaaDoor
