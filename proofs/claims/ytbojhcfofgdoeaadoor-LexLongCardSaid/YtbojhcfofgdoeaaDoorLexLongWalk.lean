/- The walk of the law LexLong. -/
import Derived.Test.YtbojhcfofgdoeaaDoorLexAwake
import Derived.OwnWalk
namespace Go.Proofs.YtbojhcfofgdoeaaDoor.lexLong
open Go.RowKit
set_option linter.unusedVariables false

theorem make_bytes (K : Nat) (hK : K ≤ 1000000) (w : World) : (Instr.makeSlice 38 (.int .i64 (K : Int)) (.int .i64 (K : Int))).run Tryd.prog w = .ok (.slice (some ⟨w.heap.size, 0, none⟩) K K) (w.alloc (.cells (madeCells #[.int .u8 0] K) 5)) := by
  obtain ⟨i0, hi, hz0, hz1, hz2⟩ := cs_parts cs_infoU8
  have h := run_make w 38 5 i0 (.int .u8 0) Tryd.underlying38 hi hz0 .i64 .i64 (K : Int) (K : Int) (by omega) (by omega) (by rw [hz2]; omega) (by omega)
  rw [h, hz1]
  simp [Value.cells]
/-- A block of bytes. -/
def HoldB (g : Nat) (l : List UInt8) (w : World) : Prop := w.heap[g]? = some (.cells (Lib.byteCells l).toArray 5 (0, 0))
theorem HoldB.cell {g : Nat} {l : List UInt8} {w : World} (h : HoldB g l w) {j : Nat} {c : UInt8} (hj : l[j]? = some c) : w.cell? ⟨g, j, none⟩ = some (.int .u8 c.toNat) := by
  rw [cell_of_row w g j _ _ _ h]
  simp [Lib.byteCells, hj]
theorem HoldB.frozen {g : Nat} {l : List UInt8} {w : World} (h : HoldB g l w) (j : Nat) : w.frozen? ⟨g, j, none⟩ = false := frozen_of_row w g j _ _ h
theorem HoldB.lt {g : Nat} {l : List UInt8} {w : World} (h : HoldB g l w) : g < w.heap.size := (Array.getElem?_eq_some_iff.1 h).1
theorem HoldB.set {g : Nat} {l : List UInt8} {w : World} (h : HoldB g l w) (i : Nat) (c : UInt8) : HoldB g (l.set i c) (w.setCell ⟨g, i, none⟩ (.int .u8 c.toNat)) := by
  have := heap_setCell_same w g i _ _ (.int .u8 c.toNat) h
  unfold HoldB
  rw [this]
  congr 2
  apply Array.ext'
  simp [Lib.byteCells, List.map_set]
theorem HoldB.made (w : World) (n : Nat) : HoldB w.heap.size (List.replicate n 0) (w.alloc (.cells (madeCells #[.int .u8 0] n) 5)) := by
  have h := heap_alloc_new w (.cells (madeCells #[.int .u8 0] n) 5)
  unfold HoldB
  rw [h]
  congr 2
  apply Array.ext'
  apply List.ext_getElem (by simp [madeCells, Lib.byteCells])
  intro j h1 h2
  simp [madeCells, Nat.mod_one, Lib.byteCells]
theorem HoldB.text {g : Nat} {l : List UInt8} {w : World} (h : HoldB g l w) (cap : Nat) : (convert 38 9 (.slice (some ⟨g, 0, none⟩) l.length cap)).run Tryd.prog w = .ok (.string ⟨l.toArray⟩) w := by
  refine run_convert_bytes_back w 38 9 5 ⟨g, 0, none⟩ cap l Tryd.underlying38 Tryd.underlying5 Tryd.underlying9 fun j hj => ?_
  have hadd : (⟨g, 0, none⟩ : Addr).add j = ⟨g, j, none⟩ := by unfold Addr.add; split <;> simp_all
  rw [hadd, h.cell (List.getElem?_eq_getElem hj)]
/-- Blanks so far. -/
def blL (n i : Nat) : List UInt8 := List.replicate i 32 ++ List.replicate (n - i) 0
theorem blL_set {n i : Nat} (h : i < n) : (blL n i).set i 32 = blL n (i + 1) := by
  unfold blL
  rw [List.set_append_right _ _ (by simp), List.length_replicate, Nat.sub_self, show n - i = (n - (i + 1)) + 1 by omega, List.replicate_succ, List.set_cons_zero, List.replicate_succ', List.append_assoc]
  rfl
theorem blL_at {n i : Nat} (h : i < n) : (blL n i)[i]? = some 0 := by
  unfold blL
  rw [List.getElem?_append_right (by simp), List.length_replicate, Nat.sub_self, show n - i = (n - (i + 1)) + 1 by omega, List.replicate_succ]; rfl
theorem blL_last {n : Nat} (h : 0 < n) : (blL n n).set (n - 1) 40 = longL (n - 1) ∧ (blL n n)[n - 1]? = some 32 := by
  have e : blL n n = List.replicate (n - 1) 32 ++ [32] := by
    unfold blL
    rw [Nat.sub_self, List.replicate_zero, List.append_nil, ← List.replicate_succ', Nat.sub_add_cancel h]
  rw [e]
  refine ⟨?_, ?_⟩
  · rw [List.set_append_right _ _ (by simp), List.length_replicate, Nat.sub_self]; rfl
  · rw [List.getElem?_append_right (by simp), List.length_replicate, Nat.sub_self]; rfl

set_option maxHeartbeats 4000000 in
set_option maxRecDepth 100000 in
theorem walk (x : Int) (w : World) (hT : LexT w) (het : ErrT w) :
    Calls Tryd.prog 5 #[.int .i64 x] w fun e w' => e = .returned (.bool true) ∧ Below w.heap.size w w' := by
  have HT := Lib.hid hT
  have HE := Lib.hid het
  have HAw := Lib.hid (fun w1 (hb : Below w.heap.size w w1) => lxAwake_calls w1 (hT.below hb) (het.below hb))
  have HK0 := Lib.hid (Below.refl w.heap.size w)
  clear hT het
  by_cases hlo : x < 65530
  case pos =>
    have t1 : decide (x < 65530) = true := decide_eq_true hlo
    have H1 := Lib.hid (HAw.out w HK0.out)
    clear hlo
    go_enter Tryd.func5, Tryd.ntmps5
    go_wp2_with fail
    refine H1.out.mono ?_
    rintro e w1 ⟨rfl, k1⟩
    have HB := Lib.hid k1
    clear k1
    go_wp2_with fail
    go_ret
    exact ⟨by rfl, HB.out⟩
  have t1 : decide (x < 65530) = false := decide_eq_false hlo
  by_cases hhi : 65540 < x
  case pos =>
    have t2 : decide (65540 < x) = true := decide_eq_true hhi
    have H1 := Lib.hid (HAw.out w HK0.out)
    clear hlo hhi
    go_enter Tryd.func5, Tryd.ntmps5
    go_wp2_with fail
    refine H1.out.mono ?_
    rintro e w1 ⟨rfl, k1⟩
    have HB := Lib.hid k1
    clear k1
    go_wp2_with fail
    go_ret
    exact ⟨by rfl, HB.out⟩
  have t2 : decide (65540 < x) = false := decide_eq_false hhi
  obtain ⟨n, rfl⟩ : ∃ n : Nat, x = n := ⟨x.toNat, by omega⟩
  have hn0 : 65530 ≤ n := by omega
  have hn1 : n ≤ 65540 := by omega
  clear hlo hhi
  have hmk := make_bytes n (by omega)
  have HB1 := Lib.hid ((Below.refl w.heap.size w).alloc (Nat.le_refl _) (.cells (madeCells #[.int .u8 0] n) 5))
  have HM : Hid (HoldB w.heap.size (blL n 0) (w.alloc (.cells (madeCells #[.int .u8 0] n) 5))) := Lib.hid (by have := HoldB.made w n; simpa [blL] using this)
  have q2 := failGuard
  go_enter Tryd.func5, Tryd.ntmps5
  go_wp2_with fail
  clear hmk
  generalize hw2 : w.alloc (.cells (madeCells #[.int .u8 0] n) 5) = w2 at HB1 HM ⊢
  clear hw2
  go_loopw [4] (fun i wr => ∃ (k : Nat), k ≤ n ∧ i = .int .i64 k ∧ Hid (HoldB w.heap.size (blL n k) wr) ∧ Hid (Below w.heap.size w wr)) (fun i _ => n - (intOf i).toNat)
  case atStart => exact ⟨0, Nat.zero_le _, rfl, HM, HB1⟩
  case round =>
    clear HM HB1
    obtain ⟨k, hk, rfl, HR, HB⟩ := hrel
    by_cases hlt : k < n
    case pos =>
      have c0 := HR.out.cell (blL_at hlt)
      have f0 := HR.out.frozen k
      have HW : Hid (HoldB w.heap.size (blL n (k + 1)) (wr.setCell ⟨w.heap.size, k, none⟩ (.int .u8 32))) := Lib.hid (by have := HR.out.set k 32; rw [blL_set hlt] at this; exact this)
      go_wp2_with fail
      go_roundw
      case rel => exact ⟨k + 1, hlt, by go_num, HW, Lib.hid (HB.out.setCell (Nat.le_refl _) _)⟩
      case measure => simp [intOf]; omega
    case neg =>
      obtain rfl : k = n := by omega
      obtain ⟨hl1, hl2⟩ := blL_last (n := k) (by omega)
      obtain ⟨m, rfl⟩ : ∃ m, k = m + 1 := ⟨k - 1, by omega⟩
      rw [Nat.add_sub_cancel] at hl1 hl2
      have c0 := HR.out.cell hl2
      have f0 := HR.out.frozen m
      have hW := HR.out.set m 40
      rw [hl1] at hW
      have hB2 : Below w.heap.size w (wr.setCell ⟨w.heap.size, m, none⟩ (.int .u8 40)) := HB.out.setCell (Nat.le_refl _) _
      have hcv := hW.text (m + 1)
      rw [long_len] at hcv
      have hW2 : (wr.setCell ⟨w.heap.size, m, none⟩ (.int .u8 ((40 : UInt8).toNat : Int))) = wr.setCell ⟨w.heap.size, m, none⟩ (.int .u8 40) := rfl
      rw [hW2] at hcv
      have hsz : (⟨(longL m).toArray⟩ : ByteArray).size ≤ 4294967296 := by rw [lx_size, long_len]; omega
      have HX := Lib.hid (lexAll_calls ⟨(longL m).toArray⟩ _ hsz (HT.out.below hB2) (HE.out.below hB2))
      have HB2 := Lib.hid hB2
      have hs2 : w.heap.size ≤ (wr.setCell ⟨w.heap.size, m, none⟩ (.int .u8 40)).heap.size := hB2.size
      have HS2 := Lib.hid hs2
      generalize hY : (⟨(longL m).toArray⟩ : ByteArray) = Y at hcv HX
      have hYl : Y.data.toList = longL m := by rw [← hY]
      rw [hYl] at HX
      clear hl1 hl2 hW hW2 hsz hB2 hs2 hY hYl
      by_cases hm : 65536 ≤ m
      case pos =>
        have HX2 : Hid (Calls Tryd.prog 7 #[.string Y] (wr.setCell ⟨w.heap.size, m, none⟩ (.int .u8 40)) fun e w' => e = .returned (.tuple #[.slice none 0 0, .agg #[.int .i64 3, .int .i64 1, .int .i64 1]]) ∧ Below (wr.setCell ⟨w.heap.size, m, none⟩ (.int .u8 40)).heap.size (wr.setCell ⟨w.heap.size, m, none⟩ (.int .u8 40)) w') := Lib.hid (HX.out.mono (by
          intro e w' h
          rw [long_many hm] at h
          obtain ⟨⟨_, he⟩, hb⟩ := h
          exact ⟨he, hb⟩))
        have q1 : ∀ w1, (Op.equalIn 10000 26 (.agg #[.int .i64 3, .int .i64 1, .int .i64 1]) (.agg #[.int .i64 3, .int .i64 1, .int .i64 1])).run Tryd.prog w1 = .ok true w1 := fun w1 => failEq 3 1 1 3 1 1 w1
        have u1 : decide ((65536 : Int) < ((m + 1 : Nat) : Int)) = true := decide_eq_true (by omega)
        clear HX hm
        go_wp2_with fail
        refine HX2.out.mono ?_
        rintro e w3 ⟨rfl, k3⟩
        have HB3 := Lib.hid (HB2.out.trans (k3.mono HS2.out))
        have hb4 := HB3.out.alloc HB3.out.size (.cells #[.int .i64 3, .int .i64 1, .int .i64 1] 26)
        have H1 := Lib.hid (HAw.out _ hb4)
        have HB4 := Lib.hid hb4
        clear k3 hb4 t1 t2 hn0 hn1 hk hlt HR c0 f0 hcv
        generalize m + 1 = n at u1 ⊢
        go_wp2_with fail
        refine H1.out.mono ?_
        rintro e w4 ⟨rfl, k4⟩
        have HB5 := Lib.hid (HB4.out.trans (k4.mono HB4.out.size))
        clear k4
        go_wp2_with fail
        go_ret
        exact ⟨by rfl, HB5.out⟩
      case neg =>
        have HX2 : Hid (Calls Tryd.prog 7 #[.string Y] (wr.setCell ⟨w.heap.size, m, none⟩ (.int .u8 40)) fun e w' => ∃ a cap, e = .returned (.tuple #[.slice a 1 cap, .agg #[.int .i64 0, .int .i64 0, .int .i64 0]]) ∧ TkIn w' 34 a 1 [⟨5, [40], 1, m + 1⟩] ∧ Below (wr.setCell ⟨w.heap.size, m, none⟩ (.int .u8 40)).heap.size (wr.setCell ⟨w.heap.size, m, none⟩ (.int .u8 40)) w') := Lib.hid (HX.out.mono (by
          intro e w' h
          rw [long_tok (by omega)] at h
          obtain ⟨⟨a, cap, he, ht⟩, hb⟩ := h
          exact ⟨a, cap, he, ht, hb⟩))
        have q1 : ∀ w1, (Op.equalIn 10000 26 (.agg #[.int .i64 0, .int .i64 0, .int .i64 0]) (.agg #[.int .i64 0, .int .i64 0, .int .i64 0])).run Tryd.prog w1 = .ok true w1 := fun w1 => failEq 0 0 0 0 0 0 w1
        have u1 : decide ((65536 : Int) < ((m + 1 : Nat) : Int)) = false := decide_eq_false (by omega)
        clear HX hm
        go_wp2_with fail
        refine HX2.out.mono ?_
        rintro e w3 ⟨a, cap, rfl, hR, k3⟩
        have HB3 := Lib.hid (HB2.out.trans (k3.mono HS2.out))
        have hb4 := HB3.out.alloc HB3.out.size (.cells #[.int .i64 0, .int .i64 0, .int .i64 0] 26)
        have H1 := Lib.hid (HAw.out _ hb4)
        have HB4 := Lib.hid hb4
        have hR2 := hR.below ((Below.refl w3.heap.size w3).alloc (Nat.le_refl _) (.cells #[.int .i64 0, .int .i64 0, .int .i64 0] 26))
        obtain ⟨g, off, rfl, hb, d0, d1, d2, d3⟩ := hR2.at' 0 _ rfl
        have z3 : (w3.alloc (.cells #[.int .i64 0, .int .i64 0, .int .i64 0] 26)).cell? ⟨g, off + 3, none⟩ = some (.int .i64 ((m + 1 : Nat) : Int)) := d3
        clear k3 hb4 hR hR2 hb d0 d1 d2 d3 t1 t2 hn0 hn1 hk hlt HR c0 f0 hcv
        generalize m + 1 = n at u1 z3 ⊢
        go_wp2_with fail
        refine H1.out.mono ?_
        rintro e w4 ⟨rfl, k4⟩
        have HB5 := Lib.hid (HB4.out.trans (k4.mono HB4.out.size))
        clear k4
        go_wp2_with fail
        go_ret
        exact ⟨by rfl, HB5.out⟩
end Go.Proofs.YtbojhcfofgdoeaaDoor.lexLong
