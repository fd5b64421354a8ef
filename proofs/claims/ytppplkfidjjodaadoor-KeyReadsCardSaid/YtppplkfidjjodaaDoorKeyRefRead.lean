/- What the reference's Read does with any bytes: the value whose key they begin with. -/
import Derived.Test.YtppplkfidjjodaaDoorKeyOwn
import Derived.Laws.ResultCell
namespace Go.Proofs.YtppplkfidjjodaaDoor
open Go.RowKit
set_option linter.unusedVariables false

def RefPost (l : List UInt8) (B : Nat) (w : World) (e : Ending) (w' : World) : Prop :=
  ∃ v n ok, KeyTold l v n ok ∧ e = .returned (.tuple #[.agg #[.int .i64 v.k, .int .i64 v.i, .string v.s, .bool v.b], .int .i64 (n : Nat)]) ∧ Below B w w'
/-- The answer's own cells, and those of no value. -/
def RxB (w wr : World) : Prop := Below (w.heap.size + 2) ((w.alloc (.cells #[.int .i64 0, .int .i64 0, .string ⟨#[]⟩, .bool false] 33)).alloc (.cells #[.int .i64 0, .int .i64 0, .string ⟨#[]⟩, .bool false] 33)) wr
theorem RxB.new (w : World) : RxB w ((w.alloc (.cells #[.int .i64 0, .int .i64 0, .string ⟨#[]⟩, .bool false] 33)).alloc (.cells #[.int .i64 0, .int .i64 0, .string ⟨#[]⟩, .bool false] 33)) := Below.refl _ _
theorem RxB.box {w wr : World} (h : RxB w wr) : Boxed w.heap.size 0 0 ⟨#[]⟩ false wr :=
  ((Boxed.new 0 0 ⟨#[]⟩ false w 33).below ((Below.refl (w.heap.size + 1) _).alloc (by simp) _) (by omega)).below h (by omega)
theorem RxB.free {w wr : World} (h : RxB w wr) : Free4 w.heap.size wr :=
  ((Free4.new #[.int .i64 0, .int .i64 0, .string ⟨#[]⟩, .bool false] w 33).below ((Below.refl (w.heap.size + 1) _).alloc (by simp) _) (by omega)).below h (by omega)
theorem RxB.box2 {w wr : World} (h : RxB w wr) : Boxed (w.heap.size + 1) 0 0 ⟨#[]⟩ false wr := by
  have h1 := Boxed.new 0 0 ⟨#[]⟩ false (w.alloc (.cells #[.int .i64 0, .int .i64 0, .string ⟨#[]⟩, .bool false] 33)) 33
  have e : (w.alloc (.cells #[.int .i64 0, .int .i64 0, .string ⟨#[]⟩, .bool false] 33)).heap.size = w.heap.size + 1 := by simp
  rw [e] at h1
  exact h1.below h (by omega)
theorem RxB.to {w wr : World} (h : RxB w wr) : Below w.heap.size w wr := (((Below.refl w.heap.size w).alloc (Nat.le_refl _) _).alloc (by simp) _).trans (h.mono (by omega))
theorem RxB.size {w wr : World} (h : RxB w wr) : w.heap.size + 2 ≤ wr.heap.size := by
  have := Below.size h
  simpa using this

set_option maxHeartbeats 1000000 in
theorem refNil_calls (a : Option Addr) (cap : Nat) (w : World) :
    Calls Tryd.prog 14 #[.slice a 0 cap] w (RefPost [] w.heap.size w) := by
  have HX := Lib.hid told_nil
  go_enter Tryd.func14, Tryd.ntmps14
  go_wp2_with fail
  refine bodyPost_ret (v := .tuple #[.agg #[.int .i64 0, .int .i64 0, .string ⟨#[]⟩, .bool false], .int .i64 0]) ?_ rfl ⟨none0, 0, false, HX.out, rfl, ?_⟩
  · rw [results_cell_tmp rfl]
    go_simp
  · repeat' (first | exact Below.refl _ _ | refine Below.alloc ?_ (by simp <;> omega) _ | refine Below.setCell ?_ (by simp) _)

set_option maxHeartbeats 1000000 in
theorem refElse_calls (g off len cap : Nat) (c : UInt8) (r : List UInt8) (w : World) (h : Bts w g off (c :: r)) (hl : r.length + 1 = len) (hb : len ≤ 1000000000) (h1 : c ≠ 1) (h2 : c ≠ 2) (h3 : c ≠ 3) :
    Calls Tryd.prog 14 #[.slice (some ⟨g, off, none⟩) len cap] w (RefPost (c :: r) w.heap.size w) := by
  have HX := Lib.hid (told_kind (r := r) h1 h2 h3)
  have hc := h.at' 0 c rfl
  rw [Nat.add_zero] at hc
  have hg : g < w.heap.size := block_lt_of_cell hc
  have i0 : (0 : Int) < (len : Int) := by omega
  have t0 : ((len : Int) == 0) = false := by rw [beq_eq_false_iff_ne]; omega
  have e1 : ((c.toNat : Int) == 1) = false := by rw [beq_eq_false_iff_ne]; intro e; exact h1 (UInt8.toNat_inj.1 (by show c.toNat = 1; omega))
  have e2 : ((c.toNat : Int) != 2) = true := by rw [bne_iff_ne]; intro e; exact h2 (UInt8.toNat_inj.1 (by show c.toNat = 2; omega))
  have e3 : ((c.toNat : Int) == 3) = false := by rw [beq_eq_false_iff_ne]; intro e; exact h3 (UInt8.toNat_inj.1 (by show c.toNat = 3; omega))
  clear h h1 h2 h3 hl
  go_enter Tryd.func14, Tryd.ntmps14
  go_wp2_with fail
  refine bodyPost_ret (v := .tuple #[.agg #[.int .i64 0, .int .i64 0, .string ⟨#[]⟩, .bool false], .int .i64 0]) ?_ rfl ⟨none0, 0, false, HX.out, rfl, ?_⟩
  · rw [results_cell_tmp rfl]
    go_simp
  · repeat' (first | exact Below.refl _ _ | refine Below.alloc ?_ (by simp <;> omega) _ | refine Below.setCell ?_ (by simp) _)

set_option maxHeartbeats 2000000 in
theorem ref3_calls (g off len cap : Nat) (r : List UInt8) (w : World) (h : Bts w g off (3 :: r)) (hl : r.length + 1 = len) (hb : len ≤ 1000000000) :
    Calls Tryd.prog 14 #[.slice (some ⟨g, off, none⟩) len cap] w (RefPost (3 :: r) w.heap.size w) := by
  have hc := h.at' 0 3 rfl
  rw [Nat.add_zero] at hc
  have hg : g < w.heap.size := block_lt_of_cell hc
  have i0 : (0 : Int) < (len : Int) := by omega
  have t0 : ((len : Int) == 0) = false := by rw [beq_eq_false_iff_ne]; omega
  have u0 : (((3 : UInt8).toNat : Nat) : Int) = 3 := rfl
  rw [u0] at hc
  clear u0
  cases r with
  | nil =>
    obtain rfl : len = 1 := by simpa using hl.symm
    have HX := Lib.hid (told_bool_no (r := []) (fun c x e => by cases e))
    clear h hl
    go_enter Tryd.func14, Tryd.ntmps14
    go_wp2_with fail
    refine bodyPost_ret (v := .tuple #[.agg #[.int .i64 0, .int .i64 0, .string ⟨#[]⟩, .bool false], .int .i64 0]) ?_ rfl ⟨none0, 0, false, HX.out, rfl, ?_⟩
    · rw [results_cell_tmp rfl]
      go_simp
    · repeat' (first | exact Below.refl _ _ | refine Below.alloc ?_ (by simp <;> omega) _ | refine Below.setCell ?_ (by simp) _)
  | cons c r =>
    have hd := h.at' 1 c rfl
    have i2 : (1 : Int) < (len : Int) := by simp at hl; omega
    have t2 : decide ((len : Int) < 2) = false := by simp at hl; simp; omega
    by_cases hb1 : c.toNat ≤ 1
    · have hX := told_bool (r := r) hb1
      have t3 : decide ((1 : Int) < (c.toNat : Int)) = false := by simp; omega
      obtain ⟨b, hbe⟩ : ∃ b, b = (c == 1) := ⟨_, rfl⟩
      rw [← hbe] at hX
      have HX := Lib.hid hX
      have t4 : ((c.toNat : Int) == 1) = b := by
        rw [hbe, Bool.eq_iff_iff, beq_iff_eq, beq_iff_eq, ← UInt8.toNat_inj]
        show _ ↔ c.toNat = 1
        omega
      clear h hl hX hbe hb1
      go_enter Tryd.func14, Tryd.ntmps14
      go_wp2_with fail
      refine bodyPost_ret (v := .tuple #[.agg #[.int .i64 3, .int .i64 0, .string ⟨#[]⟩, .bool b], .int .i64 2]) ?_ rfl ⟨_, 2, true, HX.out, rfl, ?_⟩
      · rw [results_cell_tmp rfl]
        go_simp
      · repeat' (first | exact Below.refl _ _ | refine Below.alloc ?_ (by simp <;> omega) _ | refine Below.setCell ?_ (by simp) _)
    · have HX := Lib.hid (told_bool_no (r := c :: r) (fun d x e => by obtain ⟨rfl, _⟩ := List.cons.inj e; exact hb1))
      have t3 : decide ((1 : Int) < (c.toNat : Int)) = true := by simp; omega
      clear h hl hb1
      go_enter Tryd.func14, Tryd.ntmps14
      go_wp2_with fail
      refine bodyPost_ret (v := .tuple #[.agg #[.int .i64 0, .int .i64 0, .string ⟨#[]⟩, .bool false], .int .i64 0]) ?_ rfl ⟨none0, 0, false, HX.out, rfl, ?_⟩
      · rw [results_cell_tmp rfl]
        go_simp
      · repeat' (first | exact Below.refl _ _ | refine Below.alloc ?_ (by simp <;> omega) _ | refine Below.setCell ?_ (by simp) _)

set_option maxHeartbeats 2000000 in
theorem ref1_calls (g off len cap : Nat) (r : List UInt8) (w : World) (h : Bts w g off (1 :: r)) (hl : r.length + 1 = len) (hb : len ≤ 1000000000) :
    Calls Tryd.prog 14 #[.slice (some ⟨g, off, none⟩) len cap] w (RefPost (1 :: r) w.heap.size w) := by
  have hc := h.at' 0 1 rfl
  rw [Nat.add_zero] at hc
  have hg : g < w.heap.size := block_lt_of_cell hc
  have i0 : (0 : Int) < (len : Int) := by omega
  have t0 : ((len : Int) == 0) = false := by rw [beq_eq_false_iff_ne]; omega
  have u0 : (((1 : UInt8).toNat : Nat) : Int) = 1 := rfl
  rw [u0] at hc
  clear u0
  by_cases h8 : 8 ≤ r.length
  case neg =>
    have HX := Lib.hid (told_num_no (r := r) (by omega))
    have t9 : decide ((len : Int) < 9) = true := by simp; omega
    clear h hl h8
    go_enter Tryd.func14, Tryd.ntmps14
    go_wp2_with fail
    refine bodyPost_ret (v := .tuple #[.agg #[.int .i64 0, .int .i64 0, .string ⟨#[]⟩, .bool false], .int .i64 0]) ?_ rfl ⟨none0, 0, false, HX.out, rfl, ?_⟩
    · rw [results_cell_tmp rfl]
      go_simp
    · repeat' (first | exact Below.refl _ _ | refine Below.alloc ?_ (by simp <;> omega) _ | refine Below.setCell ?_ (by simp) _)
  case pos =>
    have HX := Lib.hid (told_num h8)
    have t9 : decide ((len : Int) < 9) = false := by simp; omega
    have H := Lib.hid h
    have HL := Lib.hid hl
    have HU : Hid (numOf (r.take 8) < 18446744073709551616) := Lib.hid (by
      have h1 := numOf_lt (r.take 8)
      have h2 : (r.take 8).length = 8 := by rw [List.length_take]; omega
      rw [h2] at h1
      exact h1)
    have hl9 : 9 ≤ len := by omega
    have H8 := Lib.hid h8
    clear h hl h8
    go_enter Tryd.func14, Tryd.ntmps14
    go_wp2_with fail
    go_loop [5, 6] (fun u i => ∃ (k : Nat), k ≤ 8 ∧ i = .int .i64 ((k : Int) + 1) ∧ u = .int .u64 (numOf (r.take k) : Nat)) (fun _ i => 9 - (intOf i).toNat)
    case atStart => exact ⟨0, by omega, rfl, by simp [numOf]⟩
    case round =>
      obtain ⟨k, hk, rfl, rfl⟩ := hrel
      by_cases hk8 : k < 8
      case neg =>
        obtain rfl : k = 8 := by omega
        obtain ⟨u, hu⟩ : ∃ u, u = numOf (r.take 8) := ⟨_, rfl⟩
        have hU := HU.out
        rw [← hu] at hU HX ⊢
        clear hu HU
        have hw : IntKind.i64.wrap (IntKind.u64.wrap ((u : Int) - 9223372036854775808)) = (u : Int) - 9223372036854775808 := by
          rw [IntKind.wrap_u64, IntKind.wrap_i64]; omega
        go_wp2_with fail
        refine bodyPost_ret (v := .tuple #[.agg #[.int .i64 1, .int .i64 ((u : Int) - 9223372036854775808), .string ⟨#[]⟩, .bool false], .int .i64 9]) ?_ rfl ⟨_, 9, true, HX.out, rfl, ?_⟩
        · rw [results_cell_tmp rfl]
          go_simp
        · repeat' (first | exact Below.refl _ _ | refine Below.alloc ?_ (by simp <;> omega) _ | refine Below.setCell ?_ (by simp) _)
      case pos =>
        have hkl : k < r.length := by have := H8.out; omega
        have hcl := H.out.at' (k + 1) r[k] (by rw [List.getElem?_cons_succ]; exact List.getElem?_eq_getElem hkl)
        have HNx := Lib.hid (numOf_take r k hkl)
        have hx : numOf (r.take k) < 72057594037927936 := by
          have h1 := numOf_lt (r.take k)
          have h2 : (r.take k).length = k := by rw [List.length_take]; omega
          rw [h2] at h1
          exact Nat.lt_of_lt_of_le h1 (Nat.pow_le_pow_right (by omega) (show k ≤ 7 by omega))
        obtain ⟨x, hxe⟩ : ∃ x, x = numOf (r.take k) := ⟨_, rfl⟩
        obtain ⟨c, hce⟩ : ∃ c, c = r[k] := ⟨_, rfl⟩
        rw [← hxe] at hx HNx ⊢
        rw [← hce] at hcl HNx
        have hc8 := c.toNat_lt
        have hs1 : IntKind.u64.wrap (256 * (x : Int)) = 256 * (x : Int) := by rw [IntKind.wrap_u64]; omega
        have hs2 : IntKind.u64.wrap (256 * (x : Int) + (c.toNat : Int)) = 256 * (x : Int) + (c.toNat : Int) := by rw [IntKind.wrap_u64]; omega
        have t2 : decide ((k : Int) + 1 < 9) = true := by simp; omega
        have j1 : (0 : Int) ≤ (k : Int) + 1 := by omega
        have j2 : (k : Int) + 1 < (len : Int) := by omega
        have j3 : ((k : Int) + 1).toNat = k + 1 := by omega
        clear hxe hce hkl
        go_wp2_with fail
        go_round
        case rel => exact ⟨k + 1, by omega, by go_num, by rw [HNx.out, show ((x * 256 + c.toNat : Nat) : Int) = 256 * (x : Int) + (c.toNat : Int) by omega]⟩
        case measure => simp [intOf]; omega

set_option maxHeartbeats 4000000 in
set_option maxRecDepth 100000 in
theorem ref2_calls (g off len cap : Nat) (r : List UInt8) (w : World) (h : Bts w g off (2 :: r)) (hl : r.length + 1 = len) (hb : len ≤ 1000000000) :
    Calls Tryd.prog 14 #[.slice (some ⟨g, off, none⟩) len cap] w (RefPost (2 :: r) w.heap.size w) := by
  have hc := h.at' 0 2 rfl
  rw [Nat.add_zero] at hc
  have hg : g < w.heap.size := block_lt_of_cell hc
  have i0 : (0 : Int) < (len : Int) := by omega
  have t0 : ((len : Int) == 0) = false := by rw [beq_eq_false_iff_ne]; omega
  have u0 : (((2 : UInt8).toNat : Nat) : Int) = 2 := rfl
  rw [u0] at hc
  clear u0
  have H := Lib.hid h
  have HL : Hid ((2 :: r).length = len) := Lib.hid hl
  have HN := Lib.hid (RxB.new w)
  have hlm : IntKind.i64.wrap ((len : Int) - 1) = (len : Int) - 1 := by rw [IntKind.wrap_i64]; omega
  clear h hl
  go_enter Tryd.func14, Tryd.ntmps14
  go_wp2_with fail
  go_loopw [7, 8] (fun o i wr => ∃ (k : Nat) (t rest : List UInt8), k ≤ len ∧ i = .int .i64 k ∧ Hid (2 :: r = 2 :: (escL t ++ rest)) ∧ Hid (k = 1 + (escL t).length) ∧ Hid (wr.ownsRow (w.heap.size + 2) 5 1 o t.length (Lib.byteCells t)) ∧ Hid (RxB w wr)) (fun _ i _ => len - (intOf i).toNat)
  case atStart => exact ⟨1, [], r, by omega, rfl, Lib.hid rfl, Lib.hid rfl, Lib.hid (World.ownsRow_nil _ _ _ _), HN⟩
  case round =>
    clear HN
    obtain ⟨k, t, rest, hk, rfl, HT, HK, HO, HX0⟩ := hrel
    obtain ⟨oa, oc, rfl⟩ := owned_len HO.out
    have htl : t.length + 1 ≤ len := by
      have h1 := escL_ge t
      have h2 := HK.out
      omega
    have hdrop : (2 :: r).drop k = rest := by rw [HT.out, HK.out, Nat.add_comm]; simp
    have hrl : rest.length = len - k := by rw [← hdrop, List.length_drop, HL.out]
    have HBt : Hid (Bts wr g (off + k) rest) := Lib.hid (by rw [← hdrop]; exact (H.out.below HX0.out.to).drop k)
    have i1 : (0 : Int) ≤ (k : Int) := by omega
    cases hrest : rest with
    | nil =>
      have hkl : k = len := by rw [hrest, List.length_nil] at hrl; omega
      have HX : Hid (KeyTold (2 :: r) none0 0 false) := Lib.hid (by rw [HT.out]; exact told_text_no (by rw [hrest]; intro c x e; cases e) (by rw [hrest]; intro c x e; cases e))
      have t2 : decide ((k : Int) < (len : Int)) = false := by simp; omega
      have t2' : decide (k < len) = false := by simp; omega
      clear hdrop hrl hrest HBt
      obtain ⟨x0, x1, x2, x3⟩ := HX0.out.box
      obtain ⟨f0, f1, f2, f3⟩ := HX0.out.free
      obtain ⟨y0, y1, y2, y3⟩ := HX0.out.box2
      have hwr : w.heap.size + 2 ≤ wr.heap.size := HX0.out.size
      go_wp2_with fail
      refine bodyPost_ret (v := .tuple #[.agg #[.int .i64 0, .int .i64 0, .string ⟨#[]⟩, .bool false], .int .i64 0]) ?_ rfl ⟨none0, 0, false, HX.out, rfl, ?_⟩
      · rw [results_cell_tmp rfl]
        go_simp
      · exact below_set4 HX0.out.to (Nat.le_refl _) _ _ _ _
    | cons c rest1 =>
      have hkl : k < len := by rw [hrest, List.length_cons] at hrl; omega
      have t2 : decide ((k : Int) < (len : Int)) = true := by simp; omega
      have t2' : decide (k < len) = true := by simpa using hkl
      have i2 : (k : Int) < (len : Int) := by omega
      have hc0 := HBt.out.at' 0 c (by rw [hrest]; rfl)
      rw [Nat.add_zero] at hc0
      by_cases hz : c = 0
      case neg =>
        have t3 : ((c.toNat : Int) != 0) = true := by
          rw [bne_iff_ne]; intro e; exact hz (UInt8.toNat_inj.1 (by show c.toNat = 0; omega))
        obtain ⟨q, hq⟩ : ∃ q, q = t ++ [c] := ⟨_, rfl⟩
        have HQ := Lib.hid hq
        have HT2 : Hid (2 :: r = 2 :: (escL q ++ rest1)) := Lib.hid (by rw [HT.out, hrest, hq, escL_app, escL_else hz]; simp [escL])
        have HK2 : Hid (k + 1 = 1 + (escL q).length) := Lib.hid (by rw [hq, escL_app, escL_else hz, HK.out]; simp [escL]; omega)
        clear hdrop hrl hrest HBt hz hq
        go_wp2_with (at_builtin; refine wpList_append_bytes rfl _ _ rfl (w.heap.size + 2) _ t rfl (HO.out.alloc _) _ 1 1 [c] rfl rfl (new_byte _ _ c rfl _ (by simp)) (by omega) (by have := HX0.out.size; simp <;> omega) (w.heap.size + 2) ((w.alloc (.cells #[.int .i64 0, .int .i64 0, .string ⟨#[]⟩, .bool false] 33)).alloc (.cells #[.int .i64 0, .int .i64 0, .string ⟨#[]⟩, .bool false] 33)) (Below.alloc HX0.out HX0.out.size _) (Nat.le_refl _) q HQ.out ?_)
        intro v' w2 HO2 HB2
        clear HO HX0
        go_wp2_with fail
        go_roundw
        case rel => exact ⟨k + 1, q, rest1, by omega, by go_num, HT2, HK2, HO2, HB2⟩
        case measure => simp [intOf]; omega
      case pos =>
        subst hz
        have t3 : (((0 : UInt8).toNat : Int) != 0) = false := rfl
        cases hrest1 : rest1 with
        | nil =>
          have hk1 : (k : Int) = (len : Int) - 1 := by rw [hrest, hrest1] at hrl; simp at hrl; omega
          have HX : Hid (KeyTold (2 :: r) none0 0 false) := Lib.hid (by rw [HT.out]; exact told_text_no (by rw [hrest]; intro c x e; exact ((List.cons.inj e).1).symm) (by rw [hrest, hrest1]; intro c x e; simp at e))
          have t4 : ((k : Int) == (len : Int) - 1) = true := by rw [hk1]; simp
          clear hdrop hrl hrest HBt hrest1 hk1
          obtain ⟨x0, x1, x2, x3⟩ := HX0.out.box
          obtain ⟨f0, f1, f2, f3⟩ := HX0.out.free
          obtain ⟨y0, y1, y2, y3⟩ := HX0.out.box2
          have hwr : w.heap.size + 2 ≤ wr.heap.size := HX0.out.size
          go_wp2_with fail
          refine bodyPost_ret (v := .tuple #[.agg #[.int .i64 0, .int .i64 0, .string ⟨#[]⟩, .bool false], .int .i64 0]) ?_ rfl ⟨none0, 0, false, HX.out, rfl, ?_⟩
          · rw [results_cell_tmp rfl]
            go_simp
          · exact below_set4 HX0.out.to (Nat.le_refl _) _ _ _ _
        | cons d rest2 =>
          have hd0 := HBt.out.at' 1 d (by rw [hrest, hrest1]; rfl)
          rw [Nat.add_assoc] at hd0
          have hk2 : k + 1 < len := by rw [hrest, hrest1] at hrl; simp at hrl; omega
          have t4 : ((k : Int) == (len : Int) - 1) = false := by rw [beq_eq_false_iff_ne]; omega
          have j1 : (0 : Int) ≤ (k : Int) + 1 := by omega
          have j2 : (k : Int) + 1 < (len : Int) := by omega
          have j3 : ((k : Int) + 1).toNat = k + 1 := by omega
          by_cases h255 : d = 255
          · subst h255
            obtain ⟨q, hq⟩ : ∃ q : List UInt8, q = t ++ [0] := ⟨_, rfl⟩
            have HQ := Lib.hid hq
            have HT2 : Hid (2 :: r = 2 :: (escL q ++ rest2)) := Lib.hid (by rw [HT.out, hrest, hrest1, hq, escL_app, escL_zero]; simp [escL])
            have HK2 : Hid (k + 2 = 1 + (escL q).length) := Lib.hid (by rw [hq, escL_app, escL_zero, HK.out]; simp [escL]; omega)
            have u255 : (((255 : UInt8).toNat : Nat) : Int) = 255 := rfl
            rw [u255] at hd0
            clear hdrop hrl hrest HBt hrest1 hq u255
            go_wp2_with (at_builtin; refine wpList_append_bytes rfl _ _ rfl (w.heap.size + 2) _ t rfl (HO.out.alloc _) _ 1 1 [0] rfl rfl (new_byte _ _ 0 rfl _ (by simp)) (by omega) (by have := HX0.out.size; simp <;> omega) (w.heap.size + 2) ((w.alloc (.cells #[.int .i64 0, .int .i64 0, .string ⟨#[]⟩, .bool false] 33)).alloc (.cells #[.int .i64 0, .int .i64 0, .string ⟨#[]⟩, .bool false] 33)) (Below.alloc HX0.out HX0.out.size _) (Nat.le_refl _) q HQ.out ?_)
            intro v' w2 HO2 HB2
            clear HO HX0
            go_wp2_with fail
            go_roundw
            case rel => exact ⟨k + 2, q, rest2, by omega, by go_num, HT2, HK2, HO2, HB2⟩
            case measure => simp [intOf]; omega
          · have t5 : ((d.toNat : Int) != 255) = true := by
              rw [bne_iff_ne]; intro e; exact h255 (UInt8.toNat_inj.1 (by show d.toNat = 255; omega))
            by_cases h1 : d = 1
            · subst h1
              have u1 : (((1 : UInt8).toNat : Nat) : Int) = 1 := rfl
              rw [u1] at hd0
              by_cases hlong : 4096 < t.length
              · have HX : Hid (KeyTold (2 :: r) none0 0 false) := Lib.hid (by rw [HT.out]; exact told_text_long hlong)
                have t7 : decide ((4096 : Int) < (t.length : Int)) = true := by simp; omega
                clear hdrop hrl hrest HBt hrest1 h255 u1 hlong t5
                obtain ⟨x0, x1, x2, x3⟩ := HX0.out.box
                obtain ⟨f0, f1, f2, f3⟩ := HX0.out.free
                obtain ⟨y0, y1, y2, y3⟩ := HX0.out.box2
                have hwr : w.heap.size + 2 ≤ wr.heap.size := HX0.out.size
                go_wp2_with fail
                refine bodyPost_ret (v := .tuple #[.agg #[.int .i64 0, .int .i64 0, .string ⟨#[]⟩, .bool false], .int .i64 0]) ?_ rfl ⟨none0, 0, false, HX.out, rfl, ?_⟩
                · rw [results_cell_tmp rfl]
                  go_simp
                · exact below_set4 HX0.out.to (Nat.le_refl _) _ _ _ _
              · have t7 : decide ((4096 : Int) < (t.length : Int)) = false := by simp; omega
                have hX : KeyTold (2 :: r) ⟨2, 0, ⟨t.toArray⟩, false⟩ (1 + ((escL t).length + 2)) true := by rw [HT.out, hrest, hrest1]; exact told_text (by omega)
                rw [show 1 + ((escL t).length + 2) = k + 2 by rw [HK.out]; omega] at hX
                have hcv := owned_text HO.out
                obtain ⟨s, hs⟩ : ∃ s : ByteArray, s = ⟨t.toArray⟩ := ⟨_, rfl⟩
                rw [← hs] at hX hcv
                have HX := Lib.hid hX
                clear hdrop hrl hrest HBt hrest1 h255 u1 hlong hX hs t5
                obtain ⟨x0, x1, x2, x3⟩ := HX0.out.box
                obtain ⟨f0, f1, f2, f3⟩ := HX0.out.free
                have hwr : w.heap.size + 2 ≤ wr.heap.size := HX0.out.size
                go_wp2_with fail
                refine bodyPost_ret (v := .tuple #[.agg #[.int .i64 2, .int .i64 0, .string s, .bool false], .int .i64 ((k + 2 : Nat) : Int)]) ?_ rfl ⟨_, k + 2, true, HX.out, rfl, ?_⟩
                · rw [results_cell_tmp rfl]
                  go_simp
                  try go_num
                · exact below_set4 HX0.out.to (Nat.le_refl _) _ _ _ _
            · have t6 : ((d.toNat : Int) != 1) = true := by
                rw [bne_iff_ne]; intro e; exact h1 (UInt8.toNat_inj.1 (by show d.toNat = 1; omega))
              have HX : Hid (KeyTold (2 :: r) none0 0 false) := Lib.hid (by rw [HT.out]; exact told_text_no (by rw [hrest]; intro c x e; exact ((List.cons.inj e).1).symm) (by rw [hrest, hrest1]; intro c x e; simp at e; obtain ⟨rfl, _⟩ := e; exact ⟨h1, h255⟩))
              clear hdrop hrl hrest HBt hrest1 h255 h1
              obtain ⟨x0, x1, x2, x3⟩ := HX0.out.box
              obtain ⟨f0, f1, f2, f3⟩ := HX0.out.free
              obtain ⟨y0, y1, y2, y3⟩ := HX0.out.box2
              have hwr : w.heap.size + 2 ≤ wr.heap.size := HX0.out.size
              go_wp2_with fail
              refine bodyPost_ret (v := .tuple #[.agg #[.int .i64 0, .int .i64 0, .string ⟨#[]⟩, .bool false], .int .i64 0]) ?_ rfl ⟨none0, 0, false, HX.out, rfl, ?_⟩
              · rw [results_cell_tmp rfl]
                go_simp
              · exact below_set4 HX0.out.to (Nat.le_refl _) _ _ _ _

theorem refRead_calls (a : Option Addr) (len cap : Nat) (l : List UInt8) (w : World) (h : BIn w a len cap l) (hb : len ≤ 1000000000) :
    Calls Tryd.prog 14 #[.slice a len cap] w (RefPost l w.heap.size w) := by
  cases l with
  | nil =>
    obtain rfl : len = 0 := h.leng.symm
    exact refNil_calls a cap w
  | cons c r =>
    have hl : r.length + 1 = len := h.leng
    obtain ⟨g, off, rfl, hr⟩ := h.row (by omega)
    by_cases h1 : c = 1
    · subst h1
      exact ref1_calls g off len cap r w hr hl hb
    by_cases h2 : c = 2
    · subst h2
      exact ref2_calls g off len cap r w hr hl hb
    by_cases h3 : c = 3
    · subst h3
      exact ref3_calls g off len cap r w hr hl hb
    exact refElse_calls g off len cap c r w hr hl hb h1 h2 h3
end Go.Proofs.YtppplkfidjjodaaDoor
