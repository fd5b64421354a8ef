/- What binding's Get does with any slots. -/
import Derived.Test.YtjohiehlnbgdaaaSlotGet
namespace Go.Proofs.Ytjohiehlnbgdaaa
open Go.RowKit
set_option linter.unusedVariables false

set_option maxHeartbeats 1000000 in
theorem bGet_calls (a : Option Addr) (len cap : Nat) (L : List Sd) (v : Int) (w : World) (hs : SIn w a len L) :
    Calls Try.prog 11 #[.slice a len cap, .int .i64 v] w fun e w' => e = .returned (.tuple #[.agg #[.int .i64 (getV L v).k, .int .i64 (getV L v).i, .string (getV L v).s, .bool (getV L v).b], .bool (getB L v)]) ∧ Below w.heap.size w w' := by
  have H := Lib.hid hs
  have HL := Lib.hid hs.leng
  have hsm := hs.small
  clear hs
  go_enter Try.func11, Try.ntmps11
  go_wp2_with fail
  go_loopw [10] (fun i wr => ∃ (n : Nat), n ≤ len ∧ i = .int .i64 n ∧ Hid (getL L v = getL (L.drop n) v) ∧ w.heap.size < wr.heap.size ∧ Boxed w.heap.size 0 0 ⟨#[]⟩ false wr ∧ Free4 w.heap.size wr ∧ Hid (Below w.heap.size w wr)) (fun i _ => len - (intOf i).toNat)
  case atStart => exact ⟨0, Nat.zero_le _, rfl, Lib.hid rfl, by simp, Boxed.new _ _ _ _ _ _, Free4.new _ _ _, Lib.hid ((Below.refl w.heap.size w).alloc (Nat.le_refl _) _)⟩
  case round =>
    obtain ⟨n, hn, rfl, HG, hw, hx, hf, HB⟩ := hrel
    by_cases h : n < len
    case neg =>
      obtain rfl : n = len := by omega
      have HX : Hid (getL L v = none) := Lib.hid (by rw [HG.out, List.drop_eq_nil_iff.2 (by rw [HL.out]; exact Nat.le_refl _)]; rfl)
      have HBS := Lib.hid (hx.set 0 0 ⟨#[]⟩ false)
      have HZ := Lib.hid (below_set4 HB.out (Nat.le_refl _) (.int .i64 0) (.int .i64 0) (.string ⟨#[]⟩) (.bool false))
      obtain ⟨x0, x1, x2, x3⟩ := hx
      obtain ⟨f0, f1, f2, f3⟩ := hf
      go_wp2_with fail
      obtain ⟨y0, y1, y2, y3⟩ := HBS.out
      refine bodyPost_ret (v := .tuple #[.agg #[.int .i64 0, .int .i64 0, .string ⟨#[]⟩, .bool false], .bool false]) ?_ rfl ⟨by rw [getV_none HX.out, getB_none HX.out]; rfl, ?_⟩
      · rw [results_cell_tmp rfl]
        go_simp
      · exact HZ.out
    case pos =>
      obtain ⟨g, off, rfl, hg, hc⟩ := H.out.at' HB.out h
      have hlt : n < L.length := by rw [HL.out]; exact h
      have HH := Lib.hid (fun e => get_hit (n := n) hlt e HG.out)
      have HM := Lib.hid (fun e => get_miss (n := n) hlt e HG.out)
      generalize L.getD n default = z at hc HH HM
      have HB2 := Lib.hid (HB.out.alloc HB.out.size (.cells #[.int .i64 z.x, .int .i64 z.v.k, .int .i64 z.v.i, .string z.v.s, .bool z.v.b] 32))
      have hx2 := hx.below ((Below.refl wr.heap.size wr).alloc (Nat.le_refl _) (.cells #[.int .i64 z.x, .int .i64 z.v.k, .int .i64 z.v.i, .string z.v.s, .bool z.v.b] 32)) hw
      have hf2 := hf.below ((Below.refl wr.heap.size wr).alloc (Nat.le_refl _) (.cells #[.int .i64 z.x, .int .i64 z.v.k, .int .i64 z.v.i, .string z.v.s, .bool z.v.b] 32)) hw
      obtain ⟨c0, c1, c2, c3, c4⟩ := hc
      by_cases hz : z.x = v
      · have HX := Lib.hid (HH.out hz)
        have t1 : (z.x == v) = true := by simpa using hz
        have HZ := Lib.hid ((below_set4 HB.out (Nat.le_refl _) (.int .i64 z.v.k) (.int .i64 z.v.i) (.string z.v.s) (.bool z.v.b)).alloc (by rw [size_set4]; omega) (.cells #[.int .i64 z.x, .int .i64 z.v.k, .int .i64 z.v.i, .string z.v.s, .bool z.v.b] 32))
        have HBS := Lib.hid ((hx.set z.v.k z.v.i z.v.s z.v.b).below ((Below.refl _ _).alloc (Nat.le_refl _) (.cells #[.int .i64 z.x, .int .i64 z.v.k, .int .i64 z.v.i, .string z.v.s, .bool z.v.b] 32)) (by rw [size_set4]; exact hw))
        obtain ⟨x0, x1, x2, x3⟩ := hx
        obtain ⟨f0, f1, f2, f3⟩ := hf
        clear hz hx2 hf2
        go_wp2_with fail
        obtain ⟨y0, y1, y2, y3⟩ := HBS.out
        refine bodyPost_ret (v := .tuple #[.agg #[.int .i64 z.v.k, .int .i64 z.v.i, .string z.v.s, .bool z.v.b], .bool true]) ?_ rfl ⟨by rw [getV_some HX.out, getB_some HX.out], ?_⟩
        · rw [results_cell_tmp rfl]
          go_simp
        · exact HZ.out
      · have HX := Lib.hid (HM.out hz)
        have t1 : (z.x == v) = false := by simpa using hz
        have HX2 := Lib.hid hx2
        have HF2 := Lib.hid hf2
        clear hz hx hf hx2 hf2
        go_wp2_with fail
        go_roundw
        case rel => exact ⟨n + 1, by omega, by go_num, HX, by simp; omega, HX2.out, HF2.out, HB2⟩
        case measure => simp [intOf]; omega
end Go.Proofs.Ytjohiehlnbgdaaa
