/- What the reference's Key does. -/
import Derived.Test.YtppplkfidjjodaaDoorKeyOwn
import Derived.Test.YtppplkfidjjodaaDoorKeyPut
namespace Go.Proofs.YtppplkfidjjodaaDoor
open Go.RowKit
set_option linter.unusedVariables false

/-- Bytes of the call's own, as its answer. -/
def OwnPost (l : List UInt8) (B : Nat) (w : World) (e : Ending) (w' : World) : Prop :=
  ∃ o, e = .returned o ∧ w'.ownsRow B 5 1 o l.length (Lib.byteCells l) ∧ Below B w w'

set_option maxHeartbeats 1000000 in
theorem refKey3_calls (b : Bool) (w : World) :
    Calls Tryd.prog 21 #[.agg #[.int .i64 3, .int .i64 0, .string ⟨#[]⟩, .bool b]] w (OwnPost [3, if b = true then 1 else 0] w.heap.size w) := by
  cases b
  · have HX1 : Hid (BxB w ⟨3, 0, ⟨#[]⟩, false⟩ ((w.alloc (.cells #[.int .i64 3, .int .i64 0, .string ⟨#[]⟩, .bool false] 33)).alloc (.cells #[.int .u8 3] 5))) := Lib.hid (Below.alloc (BxB.new w ⟨3, 0, ⟨#[]⟩, false⟩) (by simp) _)
    obtain ⟨q, hq⟩ : ∃ q : List UInt8, q = [3] := ⟨_, rfl⟩
    have HQ := Lib.hid hq
    have HO : Hid (((w.alloc (.cells #[.int .i64 3, .int .i64 0, .string ⟨#[]⟩, .bool false] 33)).alloc (.cells #[.int .u8 3] 5)).ownsRow (w.heap.size + 1) 5 1 (.slice (some ⟨w.heap.size + 1, 0, none⟩) 1 1) q.length (Lib.byteCells q)) := Lib.hid (by
      have h := own_new (B := w.heap.size + 1) (w.alloc (.cells #[.int .i64 3, .int .i64 0, .string ⟨#[]⟩, .bool false] 33)) 3 3 rfl (by simp)
      rw [hq]
      simpa using h)
    clear hq
    obtain ⟨r, hr⟩ : ∃ r, r = q ++ [0] := ⟨_, rfl⟩
    have HR := Lib.hid hr
    have hq1 : q.length = 1 := by rw [HQ.out]; rfl
    clear hr
    go_enter Tryd.func21, Tryd.ntmps21
    go_wp2_with (at_builtin; refine wpList_append_bytes rfl _ _ rfl (w.heap.size + 1) _ q rfl (HO.out.alloc _) _ 1 1 [0] rfl rfl (new_byte _ _ 0 rfl _ (by simp)) (by omega) (by simp <;> omega) (w.heap.size + 1) (w.alloc (.cells #[.int .i64 3, .int .i64 0, .string ⟨#[]⟩, .bool false] 33)) (Below.alloc HX1.out (by simp <;> omega) _) (Nat.le_refl _) r HR.out ?_)
    intro v' w2 HO2 HB2
    go_wp2_with fail
    go_ret
    have h5 := HO2.out
    rw [HR.out, HQ.out] at h5
    exact ⟨_, rfl, own_base h5 (by omega), BxB.to (v := ⟨3, 0, ⟨#[]⟩, false⟩) HB2.out⟩
  · have HX1 : Hid (BxB w ⟨3, 0, ⟨#[]⟩, true⟩ ((w.alloc (.cells #[.int .i64 3, .int .i64 0, .string ⟨#[]⟩, .bool true] 33)).alloc (.cells #[.int .u8 3] 5))) := Lib.hid (Below.alloc (BxB.new w ⟨3, 0, ⟨#[]⟩, true⟩) (by simp) _)
    obtain ⟨q, hq⟩ : ∃ q : List UInt8, q = [3] := ⟨_, rfl⟩
    have HQ := Lib.hid hq
    have HO : Hid (((w.alloc (.cells #[.int .i64 3, .int .i64 0, .string ⟨#[]⟩, .bool true] 33)).alloc (.cells #[.int .u8 3] 5)).ownsRow (w.heap.size + 1) 5 1 (.slice (some ⟨w.heap.size + 1, 0, none⟩) 1 1) q.length (Lib.byteCells q)) := Lib.hid (by
      have h := own_new (B := w.heap.size + 1) (w.alloc (.cells #[.int .i64 3, .int .i64 0, .string ⟨#[]⟩, .bool true] 33)) 3 3 rfl (by simp)
      rw [hq]
      simpa using h)
    clear hq
    obtain ⟨r, hr⟩ : ∃ r, r = q ++ [1] := ⟨_, rfl⟩
    have HR := Lib.hid hr
    have hq1 : q.length = 1 := by rw [HQ.out]; rfl
    clear hr
    go_enter Tryd.func21, Tryd.ntmps21
    go_wp2_with (at_builtin; refine wpList_append_bytes rfl _ _ rfl (w.heap.size + 1) _ q rfl (HO.out.alloc _) _ 1 1 [1] rfl rfl (new_byte _ _ 1 rfl _ (by simp)) (by omega) (by simp <;> omega) (w.heap.size + 1) (w.alloc (.cells #[.int .i64 3, .int .i64 0, .string ⟨#[]⟩, .bool true] 33)) (Below.alloc HX1.out (by simp <;> omega) _) (Nat.le_refl _) r HR.out ?_)
    intro v' w2 HO2 HB2
    go_wp2_with fail
    go_ret
    have h5 := HO2.out
    rw [HR.out, HQ.out] at h5
    exact ⟨_, rfl, own_base h5 (by omega), BxB.to (v := ⟨3, 0, ⟨#[]⟩, true⟩) HB2.out⟩

set_option maxHeartbeats 4000000 in
set_option maxRecDepth 100000 in
theorem refKey2_calls (s : ByteArray) (w : World) (hs : s.size ≤ 4096) :
    Calls Tryd.prog 21 #[.agg #[.int .i64 2, .int .i64 0, .string s, .bool false]] w (OwnPost (2 :: (escL s.toList ++ [0, 1])) w.heap.size w) := by
  obtain ⟨l, hl⟩ : ∃ l, l = s.toList := ⟨_, rfl⟩
  have hln : l.length = s.size := by rw [hl, tl_len]
  rw [← hl]
  have HL := Lib.hid hl
  have HLN := Lib.hid hln
  clear hl hln
  have HX1 : Hid (BxB w ⟨2, 0, s, false⟩ ((w.alloc (.cells #[.int .i64 2, .int .i64 0, .string s, .bool false] 33)).alloc (.cells #[.int .u8 2] 5))) := Lib.hid (Below.alloc (BxB.new w ⟨2, 0, s, false⟩) (by simp) _)
  obtain ⟨q, hq⟩ : ∃ q : List UInt8, q = [2] := ⟨_, rfl⟩
  have HQ := Lib.hid hq
  have HO : Hid (((w.alloc (.cells #[.int .i64 2, .int .i64 0, .string s, .bool false] 33)).alloc (.cells #[.int .u8 2] 5)).ownsRow (w.heap.size + 1) 5 1 (.slice (some ⟨w.heap.size + 1, 0, none⟩) 1 1) q.length (Lib.byteCells q)) := Lib.hid (by
    have h := own_new (B := w.heap.size + 1) (w.alloc (.cells #[.int .i64 2, .int .i64 0, .string s, .bool false] 33)) 2 2 rfl (by simp)
    rw [hq]
    simpa using h)
  clear hq
  go_enter Tryd.func21, Tryd.ntmps21
  go_wp2_with fail
  go_loopw [3, 4] (fun o i wr => ∃ (k : Nat) (q : List UInt8), k ≤ s.size ∧ i = .int .i64 k ∧ Hid (q = 2 :: escL (l.take k)) ∧ Hid (wr.ownsRow (w.heap.size + 1) 5 1 o q.length (Lib.byteCells q)) ∧ Hid (BxB w ⟨2, 0, s, false⟩ wr)) (fun _ i _ => s.size - (intOf i).toNat)
  case atStart => exact ⟨0, q, Nat.zero_le _, rfl, Lib.hid (by rw [HQ.out]; rfl), HO, HX1⟩
  case round =>
    clear HO HX1 HQ
    obtain ⟨k, q, hk, rfl, HQ, HO, HX⟩ := hrel
    obtain ⟨oa, oc, rfl⟩ := owned_len HO.out
    obtain ⟨x0, x1, x2, x3⟩ := HX.out.boxed
    simp only at x0 x1 x2 x3
    have htl : q.length ≤ 10000 := by
      have h1 := escL_le (l.take k)
      rw [List.length_take, HLN.out] at h1
      rw [HQ.out, List.length_cons]
      omega
    by_cases h : k < s.size
    case neg =>
      have HE : Hid (l.take k = l) := Lib.hid (List.take_of_length_le (by rw [HLN.out]; omega))
      have t1 : decide (k < s.size) = false := by simpa using h
      obtain ⟨r, hr⟩ : ∃ r, r = q ++ [0, 1] := ⟨_, rfl⟩
      have HR := Lib.hid hr
      clear hr
      go_wp2_with (at_builtin; refine wpList_append_bytes rfl _ _ rfl (w.heap.size + 1) _ q rfl (HO.out.alloc _) _ 2 2 [0, 1] rfl rfl (new_byte2 _ _ _ 0 1 rfl rfl _ (by simp)) (by omega) (by have := HX.out.size; simp <;> omega) (w.heap.size + 1) (w.alloc (.cells #[.int .i64 2, .int .i64 0, .string s, .bool false] 33)) (Below.alloc HX.out HX.out.size _) (Nat.le_refl _) r HR.out ?_)
      intro v' w2 HO2 HB2
      go_wp2_with fail
      go_ret
      have h5 := HO2.out
      rw [HR.out, HQ.out, HE.out] at h5
      exact ⟨_, rfl, own_base h5 (by omega), BxB.to (v := ⟨2, 0, s, false⟩) HB2.out⟩
    case pos =>
      have hkl : k < l.length := by rw [HLN.out]; exact h
      have t1 : decide (k < s.size) = true := by simpa using h
      have hlk : l[k] = s[k] := by have := HL.out; subst this; exact tl_at s k h
      have HNx : Hid (l.take (k + 1) = l.take k ++ [s[k]]) := Lib.hid (by rw [List.take_succ_eq_append_getElem hkl, hlk])
      obtain ⟨r, hr⟩ : ∃ r, r = q ++ [s[k]] := ⟨_, rfl⟩
      have HR := Lib.hid hr
      have hrl : r.length ≤ 20000 := by rw [hr, List.length_append, List.length_singleton]; omega
      clear hlk hkl hr
      go_wp2_with (at_builtin; refine wpList_append_bytes rfl _ _ rfl (w.heap.size + 1) _ q rfl (HO.out.alloc _) _ 1 1 [s[k]] rfl rfl (new_byte _ _ s[k] rfl _ (by simp)) (by omega) (by have := HX.out.size; simp <;> omega) (w.heap.size + 1) (w.alloc (.cells #[.int .i64 2, .int .i64 0, .string s, .bool false] 33)) (Below.alloc HX.out HX.out.size _) (Nat.le_refl _) r HR.out ?_)
      intro v' w2 HO2 HB2
      have HX2 : Hid (BxB w ⟨2, 0, s, false⟩ w2) := HB2
      clear HO HX x0 x1 x2 x3 HB2
      obtain ⟨oa, oc, rfl⟩ := owned_len HO2.out
      obtain ⟨x0, x1, x2, x3⟩ := HX2.out.boxed
      simp only at x0 x1 x2 x3
      by_cases hz : s[k] = 0
      · have t3 : ((s[k].toNat : Int) == 0) = true := by rw [hz]; rfl
        obtain ⟨r2, hr2⟩ : ∃ r2, r2 = r ++ [255] := ⟨_, rfl⟩
        have HR2 := Lib.hid hr2
        have HE : Hid (r2 = 2 :: escL (l.take (k + 1))) := Lib.hid (by rw [hr2, HR.out, HQ.out, HNx.out, escL_app, hz, escL_zero]; simp [escL])
        clear hz hr2
        go_wp2_with (at_builtin; refine wpList_append_bytes rfl _ _ rfl (w.heap.size + 1) _ r rfl (HO2.out.alloc _) _ 1 1 [255] rfl rfl (new_byte _ _ 255 rfl _ (by simp)) (by omega) (by have := HX2.out.size; simp <;> omega) (w.heap.size + 1) (w.alloc (.cells #[.int .i64 2, .int .i64 0, .string s, .bool false] 33)) (Below.alloc HX2.out HX2.out.size _) (Nat.le_refl _) r2 HR2.out ?_)
        intro v' w3 HO3 HB3
        clear HO2 HX2
        go_wp2_with fail
        go_roundw
        case rel => exact ⟨k + 1, r2, by omega, by go_num, HE, HO3, HB3⟩
        case measure => simp [intOf]; omega
      · have t3 : ((s[k].toNat : Int) == 0) = false := by
          rw [beq_eq_false_iff_ne]; intro e; exact hz (UInt8.toNat_inj.1 (by show s[k].toNat = 0; omega))
        have HE : Hid (r = 2 :: escL (l.take (k + 1))) := Lib.hid (by rw [HR.out, HQ.out, HNx.out, escL_app, escL_else hz]; simp [escL])
        clear hz
        go_wp2_with fail
        go_roundw
        case rel => exact ⟨k + 1, r, by omega, by go_num, HE, HO2, HX2⟩
        case measure => simp [intOf]; omega

set_option maxHeartbeats 4000000 in
set_option maxRecDepth 100000 in
theorem refKey1_calls (i0 : Int) (w : World) (hi : -9223372036854775808 ≤ i0 ∧ i0 ≤ 9223372036854775807) :
    Calls Tryd.prog 21 #[.agg #[.int .i64 1, .int .i64 i0, .string ⟨#[]⟩, .bool false]] w (OwnPost (1 :: numL 8 (i0 + 9223372036854775808).toNat) w.heap.size w) := by
  obtain ⟨u, hu⟩ : ∃ u, u = (i0 + 9223372036854775808).toNat := ⟨_, rfl⟩
  rw [← hu]
  have hu2 : u < 18446744073709551616 := by omega
  have hwrap : IntKind.u64.wrap (IntKind.u64.wrap i0 + 9223372036854775808) = u := by
    rw [IntKind.wrap_u64, IntKind.wrap_u64]; omega
  have HE : Hid ((numL 8 u).take 8 = numL 8 u) := Lib.hid (List.take_of_length_le (by rw [numL_len]; exact Nat.le_refl _))
  have HX1 : Hid (BxB w ⟨1, i0, ⟨#[]⟩, false⟩ ((w.alloc (.cells #[.int .i64 1, .int .i64 i0, .string ⟨#[]⟩, .bool false] 33)).alloc (.cells #[.int .u8 1] 5))) := Lib.hid (Below.alloc (BxB.new w ⟨1, i0, ⟨#[]⟩, false⟩) (by simp) _)
  obtain ⟨q, hq⟩ : ∃ q : List UInt8, q = [1] := ⟨_, rfl⟩
  have HQ := Lib.hid hq
  have HO : Hid (((w.alloc (.cells #[.int .i64 1, .int .i64 i0, .string ⟨#[]⟩, .bool false] 33)).alloc (.cells #[.int .u8 1] 5)).ownsRow (w.heap.size + 1) 5 1 (.slice (some ⟨w.heap.size + 1, 0, none⟩) 1 1) q.length (Lib.byteCells q)) := Lib.hid (by
    have h := own_new (B := w.heap.size + 1) (w.alloc (.cells #[.int .i64 1, .int .i64 i0, .string ⟨#[]⟩, .bool false] 33)) 1 1 rfl (by simp)
    rw [hq]
    simpa using h)
  clear hq
  clear hu hi
  go_enter Tryd.func21, Tryd.ntmps21
  go_wp2_with fail
  clear hwrap
  go_loopw [3, 6, 7] (fun o d i wr => ∃ (k : Nat) (q : List UInt8), k ≤ 8 ∧ i = .int .i64 k ∧ d = .int .u64 ((72057594037927936 / 256 ^ k : Nat) : Int) ∧ Hid (q = 1 :: (numL 8 u).take k) ∧ Hid (wr.ownsRow (w.heap.size + 1) 5 1 o q.length (Lib.byteCells q)) ∧ Hid (BxB w ⟨1, i0, ⟨#[]⟩, false⟩ wr)) (fun _ _ i _ => 8 - (intOf i).toNat)
  case atStart => exact ⟨0, q, Nat.zero_le _, rfl, rfl, Lib.hid (by rw [HQ.out]; rfl), HO, HX1⟩
  case round =>
    clear HO HX1 HQ
    obtain ⟨k, q, hk, rfl, rfl, HQ, HO, HX⟩ := hrel
    have htl : q.length ≤ 10000 := by
      rw [HQ.out, List.length_cons, List.length_take, numL_len]
      omega
    by_cases h8 : k < 8
    case neg =>
      obtain rfl : k = 8 := by omega
      go_wp2_with fail
      go_ret
      refine ⟨_, rfl, ?_, BxB.to (v := ⟨1, i0, ⟨#[]⟩, false⟩) HX.out⟩
      have h6 := HO.out
      rw [HQ.out, HE.out] at h6
      exact own_base h6 (by omega)
    case pos =>
      obtain ⟨r, hr⟩ : ∃ r, r = q ++ [UInt8.ofNat (u / 256 ^ (7 - k))] := ⟨_, rfl⟩
      have HR := Lib.hid hr
      have HQ2 : Hid (r = 1 :: (numL 8 u).take (k + 1)) := Lib.hid (by
        have hg := numL_get 8 u k h8
        have hlt : k < (numL 8 u).length := by rw [numL_len]; exact h8
        rw [List.getElem?_eq_getElem hlt] at hg
        have hg := Option.some.inj hg
        rw [hr, HQ.out, List.take_succ_eq_append_getElem hlt, hg]
        rfl)
      have hk8 : k = 0 ∨ k = 1 ∨ k = 2 ∨ k = 3 ∨ k = 4 ∨ k = 5 ∨ k = 6 ∨ k = 7 := by omega
      clear hk h8 hr
      rcases hk8 with rfl | rfl | rfl | rfl | rfl | rfl | rfl | rfl
      · have hx : ((u / 72057594037927936 % 256 : Nat) : Int) = ((UInt8.ofNat (u / 256 ^ (7 - 0))).toNat : Int) := by rw [UInt8.toNat_ofNat']
        simp only [Nat.reducePow, Nat.reduceDiv, Nat.reduceSub] at hx HR ⊢
        go_wp2_with (at_builtin; refine wpList_append_bytes rfl _ _ rfl (w.heap.size + 1) _ q rfl (HO.out.alloc _) _ 1 1 [UInt8.ofNat (u / 72057594037927936)] rfl rfl (new_byte _ _ _ (by rw [← hx]; omega) _ (by simp)) (by omega) (by have := HX.out.size; simp <;> omega) (w.heap.size + 1) (w.alloc (.cells #[.int .i64 1, .int .i64 i0, .string ⟨#[]⟩, .bool false] 33)) (Below.alloc HX.out HX.out.size _) (Nat.le_refl _) r HR.out ?_)
        intro v' w3 HO3 HB3
        go_wp2_with fail
        go_roundw
        case rel => exact ⟨1, r, by omega, rfl, rfl, HQ2, HO3, HB3⟩
        case measure => simp [intOf]
      · have hx : ((u / 281474976710656 % 256 : Nat) : Int) = ((UInt8.ofNat (u / 256 ^ (7 - 1))).toNat : Int) := by rw [UInt8.toNat_ofNat']
        simp only [Nat.reducePow, Nat.reduceDiv, Nat.reduceSub] at hx HR ⊢
        go_wp2_with (at_builtin; refine wpList_append_bytes rfl _ _ rfl (w.heap.size + 1) _ q rfl (HO.out.alloc _) _ 1 1 [UInt8.ofNat (u / 281474976710656)] rfl rfl (new_byte _ _ _ (by rw [← hx]; omega) _ (by simp)) (by omega) (by have := HX.out.size; simp <;> omega) (w.heap.size + 1) (w.alloc (.cells #[.int .i64 1, .int .i64 i0, .string ⟨#[]⟩, .bool false] 33)) (Below.alloc HX.out HX.out.size _) (Nat.le_refl _) r HR.out ?_)
        intro v' w3 HO3 HB3
        go_wp2_with fail
        go_roundw
        case rel => exact ⟨2, r, by omega, rfl, rfl, HQ2, HO3, HB3⟩
        case measure => simp [intOf]
      · have hx : ((u / 1099511627776 % 256 : Nat) : Int) = ((UInt8.ofNat (u / 256 ^ (7 - 2))).toNat : Int) := by rw [UInt8.toNat_ofNat']
        simp only [Nat.reducePow, Nat.reduceDiv, Nat.reduceSub] at hx HR ⊢
        go_wp2_with (at_builtin; refine wpList_append_bytes rfl _ _ rfl (w.heap.size + 1) _ q rfl (HO.out.alloc _) _ 1 1 [UInt8.ofNat (u / 1099511627776)] rfl rfl (new_byte _ _ _ (by rw [← hx]; omega) _ (by simp)) (by omega) (by have := HX.out.size; simp <;> omega) (w.heap.size + 1) (w.alloc (.cells #[.int .i64 1, .int .i64 i0, .string ⟨#[]⟩, .bool false] 33)) (Below.alloc HX.out HX.out.size _) (Nat.le_refl _) r HR.out ?_)
        intro v' w3 HO3 HB3
        go_wp2_with fail
        go_roundw
        case rel => exact ⟨3, r, by omega, rfl, rfl, HQ2, HO3, HB3⟩
        case measure => simp [intOf]
      · have hx : ((u / 4294967296 % 256 : Nat) : Int) = ((UInt8.ofNat (u / 256 ^ (7 - 3))).toNat : Int) := by rw [UInt8.toNat_ofNat']
        simp only [Nat.reducePow, Nat.reduceDiv, Nat.reduceSub] at hx HR ⊢
        go_wp2_with (at_builtin; refine wpList_append_bytes rfl _ _ rfl (w.heap.size + 1) _ q rfl (HO.out.alloc _) _ 1 1 [UInt8.ofNat (u / 4294967296)] rfl rfl (new_byte _ _ _ (by rw [← hx]; omega) _ (by simp)) (by omega) (by have := HX.out.size; simp <;> omega) (w.heap.size + 1) (w.alloc (.cells #[.int .i64 1, .int .i64 i0, .string ⟨#[]⟩, .bool false] 33)) (Below.alloc HX.out HX.out.size _) (Nat.le_refl _) r HR.out ?_)
        intro v' w3 HO3 HB3
        go_wp2_with fail
        go_roundw
        case rel => exact ⟨4, r, by omega, rfl, rfl, HQ2, HO3, HB3⟩
        case measure => simp [intOf]
      · have hx : ((u / 16777216 % 256 : Nat) : Int) = ((UInt8.ofNat (u / 256 ^ (7 - 4))).toNat : Int) := by rw [UInt8.toNat_ofNat']
        simp only [Nat.reducePow, Nat.reduceDiv, Nat.reduceSub] at hx HR ⊢
        go_wp2_with (at_builtin; refine wpList_append_bytes rfl _ _ rfl (w.heap.size + 1) _ q rfl (HO.out.alloc _) _ 1 1 [UInt8.ofNat (u / 16777216)] rfl rfl (new_byte _ _ _ (by rw [← hx]; omega) _ (by simp)) (by omega) (by have := HX.out.size; simp <;> omega) (w.heap.size + 1) (w.alloc (.cells #[.int .i64 1, .int .i64 i0, .string ⟨#[]⟩, .bool false] 33)) (Below.alloc HX.out HX.out.size _) (Nat.le_refl _) r HR.out ?_)
        intro v' w3 HO3 HB3
        go_wp2_with fail
        go_roundw
        case rel => exact ⟨5, r, by omega, rfl, rfl, HQ2, HO3, HB3⟩
        case measure => simp [intOf]
      · have hx : ((u / 65536 % 256 : Nat) : Int) = ((UInt8.ofNat (u / 256 ^ (7 - 5))).toNat : Int) := by rw [UInt8.toNat_ofNat']
        simp only [Nat.reducePow, Nat.reduceDiv, Nat.reduceSub] at hx HR ⊢
        go_wp2_with (at_builtin; refine wpList_append_bytes rfl _ _ rfl (w.heap.size + 1) _ q rfl (HO.out.alloc _) _ 1 1 [UInt8.ofNat (u / 65536)] rfl rfl (new_byte _ _ _ (by rw [← hx]; omega) _ (by simp)) (by omega) (by have := HX.out.size; simp <;> omega) (w.heap.size + 1) (w.alloc (.cells #[.int .i64 1, .int .i64 i0, .string ⟨#[]⟩, .bool false] 33)) (Below.alloc HX.out HX.out.size _) (Nat.le_refl _) r HR.out ?_)
        intro v' w3 HO3 HB3
        go_wp2_with fail
        go_roundw
        case rel => exact ⟨6, r, by omega, rfl, rfl, HQ2, HO3, HB3⟩
        case measure => simp [intOf]
      · have hx : ((u / 256 % 256 : Nat) : Int) = ((UInt8.ofNat (u / 256 ^ (7 - 6))).toNat : Int) := by rw [UInt8.toNat_ofNat']
        simp only [Nat.reducePow, Nat.reduceDiv, Nat.reduceSub] at hx HR ⊢
        go_wp2_with (at_builtin; refine wpList_append_bytes rfl _ _ rfl (w.heap.size + 1) _ q rfl (HO.out.alloc _) _ 1 1 [UInt8.ofNat (u / 256)] rfl rfl (new_byte _ _ _ (by rw [← hx]; omega) _ (by simp)) (by omega) (by have := HX.out.size; simp <;> omega) (w.heap.size + 1) (w.alloc (.cells #[.int .i64 1, .int .i64 i0, .string ⟨#[]⟩, .bool false] 33)) (Below.alloc HX.out HX.out.size _) (Nat.le_refl _) r HR.out ?_)
        intro v' w3 HO3 HB3
        go_wp2_with fail
        go_roundw
        case rel => exact ⟨7, r, by omega, rfl, rfl, HQ2, HO3, HB3⟩
        case measure => simp [intOf]
      · have hx : ((u / 1 % 256 : Nat) : Int) = ((UInt8.ofNat (u / 256 ^ (7 - 7))).toNat : Int) := by rw [UInt8.toNat_ofNat']
        simp only [Nat.reducePow, Nat.reduceDiv, Nat.reduceSub] at hx HR ⊢
        go_wp2_with (at_builtin; refine wpList_append_bytes rfl _ _ rfl (w.heap.size + 1) _ q rfl (HO.out.alloc _) _ 1 1 [UInt8.ofNat (u / 1)] rfl rfl (new_byte _ _ _ (by rw [← hx]; omega) _ (by simp)) (by omega) (by have := HX.out.size; simp <;> omega) (w.heap.size + 1) (w.alloc (.cells #[.int .i64 1, .int .i64 i0, .string ⟨#[]⟩, .bool false] 33)) (Below.alloc HX.out HX.out.size _) (Nat.le_refl _) r HR.out ?_)
        intro v' w3 HO3 HB3
        go_wp2_with fail
        go_roundw
        case rel => exact ⟨8, r, by omega, rfl, rfl, HQ2, HO3, HB3⟩
        case measure => simp [intOf]

theorem refKey_calls (v : Vd) (w : World) (hv : rightD v) :
    Calls Tryd.prog 21 #[.agg #[.int .i64 v.k, .int .i64 v.i, .string v.s, .bool v.b]] w (OwnPost (keyV v) w.heap.size w) := by
  rcases right_three hv with ⟨u, hu, rfl, e⟩ | ⟨t, ht, rfl, e⟩ | ⟨b, rfl, e⟩ <;> rw [e]
  · have h := refKey1_calls ((u : Int) - 9223372036854775808) w ⟨by omega, by omega⟩
    rw [show ((u : Int) - 9223372036854775808 + 9223372036854775808).toNat = u by omega] at h
    exact h
  · have h := refKey2_calls ⟨t.toArray⟩ w (by show t.length ≤ _; exact ht)
    rw [tl_mk] at h
    exact h
  · exact refKey3_calls b w
end Go.Proofs.YtppplkfidjjodaaDoor
