/- What binding.Keep does with a list of slots. -/
import Derived.Test.YtjohiehlnbgdaaaDoorSlotVars
import Derived.Test.YtjohiehlnbgdaaaDoorSlotRefUnion
namespace Go.Proofs.YtjohiehlnbgdaaaDoor
open Go.RowKit
set_option linter.unusedVariables false

def keepV (L : List Sd) (V : List Int) : List Sd := L.filter (fun z => decide (z.x ∈ V))
theorem keepV_step {L : List Sd} {V : List Int} {n : Nat} (h : n < L.length) : keepV (L.take (n + 1)) V = keepV (L.take n) V ++ (if (L.getD n default).x ∈ V then [L.getD n default] else []) := by
  have e : L.take (n + 1) = L.take n ++ [L.getD n default] := by
    rw [List.take_succ_eq_append_getElem h]; simp [List.getD, h]
  rw [keepV, e, List.filter_append]
  congr 1
  by_cases k : (L.getD n default).x ∈ V
  · rw [if_pos k, List.filter_cons, if_pos (decide_eq_true k)]; rfl
  · rw [if_neg k, List.filter_cons, if_neg (by simpa using k)]; rfl
theorem keepV_len (L : List Sd) (V : List Int) : (keepV L V).length ≤ L.length := List.length_filter_le _ _

set_option maxHeartbeats 2000000 in
set_option maxRecDepth 100000 in
theorem bKeep_calls (a : Option Addr) (len cap : Nat) (L : List Sd) (v : Option Addr) (lv cv : Nat) (V : List Int) (w : World) (hs : SIn w a len L) (hv : IIn w v lv V) (hlen : len ≤ 1000) :
    Calls Tryd.prog 20 #[.slice a len cap, .slice v lv cv] w fun e w' => ∃ o, e = .returned o ∧ w'.ownsRow w.heap.size 36 5 o (keepV L V).length (cellsS (keepV L V)) ∧ Below w.heap.size w w' := by
  have H := Lib.hid hs
  have HL := Lib.hid hs.leng
  have hsm := hs.small
  have HC := Lib.hid (fun (x : Int) w1 (k : Below w.heap.size w w1) => containsI_calls v lv cv V x w1 (hv.below k))
  obtain ⟨i0, hi, hz0, hz1, hz2⟩ := info_parts infoS
  have HI := Lib.hid hi
  have HZ0 := Lib.hid hz0
  have HZ1 := Lib.hid hz1
  have HZ2 := Lib.hid hz2
  clear hs hv hi hz0 hz1 hz2
  go_enter Tryd.func20, Tryd.ntmps20
  go_wp2_with fail
  go_loopw [5, 10] (fun o i wr => ∃ (n : Nat), n ≤ len ∧ i = .int .i64 n ∧ Hid (wr.ownsRow w.heap.size 36 5 o (keepV (L.take n) V).length (cellsS (keepV (L.take n) V))) ∧ Hid (Below w.heap.size w wr)) (fun _ i _ => len - (intOf i).toNat)
  case atStart => exact ⟨0, Nat.zero_le _, rfl, Lib.hid (World.ownsRow_nil _ _ _ _), Lib.hid (Below.refl _ _)⟩
  case round =>
    obtain ⟨n, hn, rfl, HO, HB⟩ := hrel
    obtain ⟨oa, oc, rfl⟩ := own_slice HO.out
    by_cases h : n < len
    case neg =>
      obtain rfl : n = len := by omega
      rw [List.take_of_length_le (by rw [HL.out]; exact Nat.le_refl _)] at *
      go_wp2_with fail
      go_ret
      exact ⟨_, rfl, HO.out, HB.out⟩
    case pos =>
      obtain ⟨g, off, rfl, hg, hc⟩ := H.out.at' HB.out h
      have HS := Lib.hid (keepV_step (L := L) (V := V) (n := n) (by rw [HL.out]; exact h))
      have hml : (keepV (L.take n) V).length ≤ n := by have := keepV_len (L.take n) V; rw [List.length_take] at this; omega
      generalize L.getD n default = z at hc HS
      generalize keepV (L.take n) V = M at HO HS hml
      have HB2 := Lib.hid (HB.out.alloc HB.out.size (.cells #[.int .i64 z.x, .int .i64 z.v.k, .int .i64 z.v.i, .string z.v.s, .bool z.v.b] 36))
      have HD := Lib.hid (LiesS.new z wr 36)
      have HO2 := Lib.hid (HO.out.alloc (.cells #[.int .i64 z.x, .int .i64 z.v.k, .int .i64 z.v.i, .string z.v.s, .bool z.v.b] 36))
      have H1 := Lib.hid (HC.out z.x _ HB2.out)
      obtain ⟨c0, c1, c2, c3, c4⟩ := hc
      by_cases k1 : z.x ∈ V
      case neg =>
        rw [decide_eq_false k1] at H1
        have HM : Hid (keepV (L.take (n + 1)) V = M) := Lib.hid (by rw [HS.out, if_neg k1, List.append_nil])
        clear k1 HS HO
        go_wp2_with fail
        refine H1.out.mono ?_
        rintro e w1 ⟨rfl, k1⟩
        have HB3 := Lib.hid (HB2.out.trans (k1.mono HB2.out.size))
        have HO3 := Lib.hid (row_below HO2.out k1)
        clear k1
        go_wp2_with fail
        go_roundw
        case rel => exact ⟨n + 1, by omega, by go_num, by rw [HM.out]; exact HO3, HB3⟩
        case measure => simp [intOf]; omega
      case pos =>
        rw [decide_eq_true k1] at H1
        have HM : Hid (keepV (L.take (n + 1)) V = M ++ [z]) := Lib.hid (by rw [HS.out, if_pos k1])
        clear k1 HS HO
        go_wp2_with fail
        refine H1.out.mono ?_
        rintro e w1 ⟨rfl, k1⟩
        have HB3 := Lib.hid (HB2.out.trans (k1.mono HB2.out.size))
        have HO3 := Lib.hid (row_below HO2.out k1)
        obtain ⟨d0, d1, d2, d3, d4⟩ := HD.out.below k1 (by simp)
        clear k1 HD HO2
        go_wp2_with (at_builtin; refine wpList_append_own _ rfl _ _ 22 rfl w.heap.size 36 i0 _ 5 48 Tryd.underlying22 HI.out HZ0.out HZ1.out HZ2.out rfl (by decide) _ _ _ rfl (HO3.out.alloc _) ⟨w1.heap.size, 0, none⟩ 1 1 (encS z) rfl rfl (new_enc w1 z 36) (encS_one z) (by unfold maxLen; omega) (by omega) (by have := HB3.out.size; simp; omega) ?_; intro v4 w4 ho4 hg4 _)
        have HB4 := Lib.hid ((HB3.out.alloc HB3.out.size (.cells #[.int .i64 z.x, .int .i64 z.v.k, .int .i64 z.v.i, .string z.v.s, .bool z.v.b] 36)).grown hg4 (by have := HB3.out.size; simp; omega) (fun k hk => (HO3.out.lt k hk).1))
        have HO4 : Hid (w4.ownsRow w.heap.size 36 5 v4 (keepV (L.take (n + 1)) V).length (cellsS (keepV (L.take (n + 1)) V))) := Lib.hid (by rw [HM.out, List.length_append, cellsS_app]; simpa [cellsS] using ho4)
        clear ho4 hg4
        go_wp2_with fail
        go_roundw
        case rel => exact ⟨n + 1, by omega, by go_num, HO4, HB4⟩
        case measure => simp [intOf]; omega
end Go.Proofs.YtjohiehlnbgdaaaDoor
