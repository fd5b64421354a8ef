/- The walk of the law ParseExprs. -/
import Derived.Test.YtmknmmbfaljkbaaGreatDoorLowR2
import Derived.Test.YtmknmmbfaljkbaaGreatDoorParAwake
import Derived.Test.YtmknmmbfaljkbaaGreatDoorParRefExpr
import Derived.Test.YtmknmmbfaljkbaaGreatDoorLowR10
import Derived.Test.YtmknmmbfaljkbaaGreatDoorLowEq
import Derived.BigQuiet
namespace Go.Proofs.YtmknmmbfaljkbaaGreatDoor.parseExprs
open Go.RowKit
set_option linter.unusedVariables false


set_option maxHeartbeats 16000000 in
set_option maxRecDepth 100000 in
theorem walk_big (s : ByteArray) (a : Addr) (w : World) (hT : LexT w) (het : ErrT w) (hv : ErrR w a) (hs : 3000 < s.size) :
    Calls Tryz.prog 3 #[.string s] w fun e w' => e = .returned (.bool true) ∧ Below w.heap.size w w' := by
  have HAw := Lib.hid (fun w1 (hb : Below w.heap.size w w1) => paAwake_calls a w1 (hT.below hb) (het.below hb) (errR_below hv hb))
  have t1 : decide ((3000 : Int) < (s.size : Int)) = true := decide_eq_true (by omega)
  have HB0 := Lib.hid (Below.refl w.heap.size w)
  have H1 := Lib.hid (HAw.out w HB0.out)
  clear hT het hv hs HAw
  go_enter Tryz.func3, Tryz.ntmps3
  go_wp2_with fail
  refine H1.out.mono ?_
  rintro e w9 ⟨rfl, k9⟩
  have HB9 := Lib.hid (HB0.out.trans (k9.mono HB0.out.size))
  clear k9
  go_wp2_with fail
  go_ret
  exact ⟨by rfl, HB9.out⟩

set_option maxHeartbeats 16000000 in
set_option maxRecDepth 100000 in
theorem walk_lex (s : ByteArray) (a : Addr) (w : World) (hT : LexT w) (het : ErrT w) (hv : ErrR w a) (hs : s.size ≤ 3000) (er el ec : Nat) (hl : tokL s.data.toList = .error (er, el, ec)) (hx : exprL s.data.toList = .error (er, el, ec)) :
    Calls Tryz.prog 3 #[.string s] w fun e w' => e = .returned (.bool true) ∧ Below w.heap.size w w' := by
  have HAw := Lib.hid (fun w1 (hb : Below w.heap.size w w1) => paAwake_calls a w1 (hT.below hb) (het.below hb) (errR_below hv hb))
  have t1 : decide ((3000 : Int) < (s.size : Int)) = false := decide_eq_false (by omega)
  have HX : Hid (Calls Tryz.prog 6 #[.string s] w fun e w' => er ≠ 0 ∧ e = .returned (.tuple #[.slice none 0 0, .agg #[.int .i64 (er : Nat), .int .i64 (el : Nat), .int .i64 (ec : Nat)]]) ∧ Below w.heap.size w w') := Lib.hid ((exprF_calls s a w (by omega) hT het hv).mono (by
    rw [hx]
    rintro e w' ⟨⟨h0, he⟩, hb⟩
    exact ⟨h0, he, hb⟩))
  have HY : Hid (∀ w1, Calls Tryz.prog 7 #[.string s] w1 fun e w' => e = .returned (.tuple #[.slice none 0 0, .int .i64 (er : Nat), .int .i64 (el : Nat), .int .i64 (ec : Nat)]) ∧ Below w1.heap.size w1 w') := Lib.hid (fun w1 => (refLexAll_calls s w1 (by omega)).mono (by
    rw [hl]
    rintro e w' ⟨he, hb⟩
    exact ⟨he, hb⟩))
  clear hT het hv hs hl hx
  go_enter Tryz.func3, Tryz.ntmps3
  go_wp2_with fail
  refine HX.out.mono ?_
  rintro e w1 ⟨hne, rfl, k1⟩
  have te : ((er : Int) == 0) = false := by rw [beq_eq_false_iff_ne]; omega
  have te2 : ((er : Int) != 0) = true := by rw [bne_iff_ne]; omega
  clear hne
  obtain ⟨b, hb⟩ : ∃ b, b = w1.heap.size := ⟨_, rfl⟩
  have HK : Hid (Ho (w1.alloc (.cells #[.int .i64 (er : Nat), .int .i64 (el : Nat), .int .i64 (ec : Nat)] 26)) b #[.int .i64 (er : Nat), .int .i64 (el : Nat), .int .i64 (ec : Nat)] 26) := Lib.hid (Ho.new _ _ _ hb)
  have HB1 := Lib.hid (k1.alloc k1.size (.cells #[.int .i64 (er : Nat), .int .i64 (el : Nat), .int .i64 (ec : Nat)] 26))
  clear k1 HX
  go_wp2_with fail
  rw [← hb]
  generalize hW : w1.alloc (.cells #[.int .i64 (er : Nat), .int .i64 (el : Nat), .int .i64 (ec : Nat)] 26) = W at HK HB1 ⊢
  clear hW hb
  refine (HY.out W).mono ?_
  rintro e w2 ⟨rfl, k2⟩
  have HB2 := Lib.hid (HB1.out.trans (k2.mono HB1.out.size))
  obtain ⟨c0, c1, c2, _, _, _⟩ := fl_cells (HK.out.below k2)
  have hbl := (HK.out.below k2).lt
  have H1 := Lib.hid (HAw.out w2 HB2.out)
  clear k2 HK HB1 HY HAw
  go_wp2_with fail
  refine H1.out.mono ?_
  rintro e w9 ⟨rfl, k9⟩
  have HB9 := Lib.hid (HB2.out.trans (k9.mono HB2.out.size))
  clear k9
  go_wp2_with fail
  go_ret
  exact ⟨by rfl, HB9.out⟩

set_option maxHeartbeats 16000000 in
set_option maxRecDepth 100000 in
theorem walk_no (s : ByteArray) (a : Addr) (w : World) (hT : LexT w) (het : ErrT w) (hv : ErrR w a) (hs : s.size ≤ 3000) (M : List Tk) (hl : tokL s.data.toList = .ok M) (hx : exprL s.data.toList = .error ((xP M).2.er, (xP M).2.line, (xP M).2.col)) :
    Calls Tryz.prog 3 #[.string s] w fun e w' => e = .returned (.bool true) ∧ Below w.heap.size w w' := by
  have HAw := Lib.hid (fun w1 (hb : Below w.heap.size w w1) => paAwake_calls a w1 (hT.below hb) (het.below hb) (errR_below hv hb))
  have t1 : decide ((3000 : Int) < (s.size : Int)) = false := decide_eq_false (by omega)
  obtain ⟨hM, hM6⟩ := tk_mok hl
  obtain ⟨m, hm⟩ : ∃ m, m = M.length := ⟨_, rfl⟩
  have HY : Hid (∀ w1, Calls Tryz.prog 7 #[.string s] w1 fun e w' => ∃ ta tc, e = .returned (.tuple #[.slice ta m tc, .int .i64 0, .int .i64 0, .int .i64 0]) ∧ TkIn w' 37 ta m M ∧ Below w1.heap.size w1 w') := Lib.hid (fun w1 => (refLexAll_calls s w1 (by omega)).mono (by
    rw [hl]
    rintro e w' ⟨⟨ta, tc, he, ht⟩, hb⟩
    rw [← hm] at he ht
    exact ⟨ta, tc, he, ht, hb⟩))
  have HO : Hid (∀ ta tc w1, TkIn w1 37 ta m M → Calls Tryz.prog 8 #[.slice ta m tc, .agg #[.int .i64 0, .int .i64 0, .int .i64 0, .int .i64 0, .int .i64 0], .slice none 0 0] w1 fun e w' => ∃ v, e = .returned (.tuple #[v, .agg #[.int .i64 ((xP M).2.a : Nat), .int .i64 ((xP M).2.er : Nat), .int .i64 ((xP M).2.line : Nat), .int .i64 ((xP M).2.col : Nat), .int .i64 (xP M).2.op]]) ∧ NsAt 0 w' v (xP M).1 ∧ Below w1.heap.size w1 w') := Lib.hid (fun ta tc w1 ht => by
    rw [hm] at ht ⊢
    refine (refX_calls ta tc M w1 ht hM hM6).mono ?_
    rintro e w' ⟨v, he, hn, hb⟩
    exact ⟨v, by rw [he]; rfl, hn, hb⟩)
  generalize (xP M).1 = xo at HO
  generalize (xP M).2 = p at HO hx
  have HX : Hid (Calls Tryz.prog 6 #[.string s] w fun e w' => p.er ≠ 0 ∧ e = .returned (.tuple #[.slice none 0 0, .agg #[.int .i64 (p.er : Nat), .int .i64 (p.line : Nat), .int .i64 (p.col : Nat)]]) ∧ Below w.heap.size w w') := Lib.hid ((exprF_calls s a w (by omega) hT het hv).mono (by
    rw [hx]
    rintro e w' ⟨⟨h0, he⟩, hb⟩
    exact ⟨h0, he, hb⟩))
  clear hT het hv hs hl hx hM hM6 hm
  go_enter Tryz.func3, Tryz.ntmps3
  go_wp2_with fail
  refine HX.out.mono ?_
  rintro e w1 ⟨hne, rfl, k1⟩
  have te : ((p.er : Int) == 0) = false := by rw [beq_eq_false_iff_ne]; omega
  have te2 : ((p.er : Int) != 0) = true := by rw [bne_iff_ne]; omega
  clear hne
  obtain ⟨b, hb⟩ : ∃ b, b = w1.heap.size := ⟨_, rfl⟩
  have HK : Hid (Ho (w1.alloc (.cells #[.int .i64 (p.er : Nat), .int .i64 (p.line : Nat), .int .i64 (p.col : Nat)] 26)) b #[.int .i64 (p.er : Nat), .int .i64 (p.line : Nat), .int .i64 (p.col : Nat)] 26) := Lib.hid (Ho.new _ _ _ hb)
  have HB1 := Lib.hid (k1.alloc k1.size (.cells #[.int .i64 (p.er : Nat), .int .i64 (p.line : Nat), .int .i64 (p.col : Nat)] 26))
  clear k1 HX
  go_wp2_with fail
  rw [← hb]
  generalize hW : w1.alloc (.cells #[.int .i64 (p.er : Nat), .int .i64 (p.line : Nat), .int .i64 (p.col : Nat)] 26) = W at HK HB1 ⊢
  clear hW hb
  refine (HY.out W).mono ?_
  rintro e w2 ⟨ta, tc, rfl, ht2, k2⟩
  have HB2 := Lib.hid (HB1.out.trans (k2.mono HB1.out.size))
  have HK2 := Lib.hid (HK.out.below k2)
  have HT2 := Lib.hid ht2
  clear k2 ht2 HK HB1 HY
  go_wp2_with fail
  refine (HO.out _ _ _ HT2.out).mono ?_
  rintro e w3 ⟨v3, rfl, hn3, k3⟩
  have HB3 := Lib.hid (HB2.out.trans (k3.mono HB2.out.size))
  have HK3 := Lib.hid (HK2.out.below k3)
  have HT3 := Lib.hid (HT2.out.below k3)
  have HN3 := Lib.hid hn3
  clear k3 hn3 HB2 HK2 HT2 HO
  go_upto_region 8 with fail
  have hA4 : Below w3.heap.size w3 (w3.alloc (.cells #[.int .i64 (p.a : Nat), .int .i64 (p.er : Nat), .int .i64 (p.line : Nat), .int .i64 (p.col : Nat), .int .i64 p.op] 33)) := (Below.refl _ _).alloc (Nat.le_refl _) _
  have hP4 : Ho (w3.alloc (.cells #[.int .i64 (p.a : Nat), .int .i64 (p.er : Nat), .int .i64 (p.line : Nat), .int .i64 (p.col : Nat), .int .i64 p.op] 33)) w3.heap.size #[.int .i64 (p.a : Nat), .int .i64 (p.er : Nat), .int .i64 (p.line : Nat), .int .i64 (p.col : Nat), .int .i64 p.op] 33 := Ho.new _ _ _ rfl
  have HB4 := Lib.hid (HB3.out.trans (hA4.mono HB3.out.size))
  have HK4 := Lib.hid (HK3.out.below hA4)
  have HT4 := Lib.hid (HT3.out.below hA4)
  have HN4 := Lib.hid (HN3.out.below hA4)
  clear HB3 HK3 HT3 HN3
  generalize w3.alloc (.cells #[.int .i64 (p.a : Nat), .int .i64 (p.er : Nat), .int .i64 (p.line : Nat), .int .i64 (p.col : Nat), .int .i64 p.op] 33) = w4 at hA4 hP4 HB4 HK4 HT4 HN4 ⊢
  obtain ⟨x0, x1, x2, x3, x4⟩ := pl5 hP4
  obtain ⟨c0, c1, c2, _, _, _⟩ := fl_cells HK4.out
  have hpl := hP4.lt
  have hbl := HK4.out.lt
  clear hA4 hP4 HK4
  have H1 := Lib.hid (HAw.out w4 HB4.out)
  clear HAw HT4 HN4
  go_wp2_with fail
  refine H1.out.mono ?_
  rintro e w9 ⟨rfl, k9⟩
  have HB9 := Lib.hid (HB4.out.trans (k9.mono HB4.out.size))
  clear k9
  go_wp2_with fail
  go_ret
  exact ⟨by rfl, HB9.out⟩

set_option maxHeartbeats 16000000 in
set_option maxRecDepth 100000 in
theorem walk_more (s : ByteArray) (a : Addr) (w : World) (hT : LexT w) (het : ErrT w) (hv : ErrR w a) (hs : s.size ≤ 3000) (M : List Tk) (hl : tokL s.data.toList = .ok M) (h0 : (xP M).2.er = 0) (hlt : (xP M).2.a < M.length) (hx : exprL s.data.toList = .error (16, (tkAt M (xP M).2.a).line, (tkAt M (xP M).2.a).col)) :
    Calls Tryz.prog 3 #[.string s] w fun e w' => e = .returned (.bool true) ∧ Below w.heap.size w w' := by
  have HAw := Lib.hid (fun w1 (hb : Below w.heap.size w w1) => paAwake_calls a w1 (hT.below hb) (het.below hb) (errR_below hv hb))
  have t1 : decide ((3000 : Int) < (s.size : Int)) = false := decide_eq_false (by omega)
  obtain ⟨hM, hM6⟩ := tk_mok hl
  obtain ⟨m, hm⟩ : ∃ m, m = M.length := ⟨_, rfl⟩
  have HY : Hid (∀ w1, Calls Tryz.prog 7 #[.string s] w1 fun e w' => ∃ ta tc, e = .returned (.tuple #[.slice ta m tc, .int .i64 0, .int .i64 0, .int .i64 0]) ∧ TkIn w' 37 ta m M ∧ Below w1.heap.size w1 w') := Lib.hid (fun w1 => (refLexAll_calls s w1 (by omega)).mono (by
    rw [hl]
    rintro e w' ⟨⟨ta, tc, he, ht⟩, hb⟩
    rw [← hm] at he ht
    exact ⟨ta, tc, he, ht, hb⟩))
  obtain ⟨hn1, hn2⟩ := xP_ok h0
  have HO : Hid (∀ ta tc w1, TkIn w1 37 ta m M → Calls Tryz.prog 8 #[.slice ta m tc, .agg #[.int .i64 0, .int .i64 0, .int .i64 0, .int .i64 0, .int .i64 0], .slice none 0 0] w1 fun e w' => ∃ v, e = .returned (.tuple #[v, .agg #[.int .i64 ((xP M).2.a : Nat), .int .i64 0, .int .i64 0, .int .i64 0, .int .i64 (xP M).2.op]]) ∧ NsAt 0 w' v (xP M).1 ∧ Below w1.heap.size w1 w') := Lib.hid (fun ta tc w1 ht => by
    rw [hm] at ht ⊢
    refine (refX_calls ta tc M w1 ht hM hM6).mono ?_
    rintro e w' ⟨v, he, hn, hb⟩
    exact ⟨v, by rw [he]; unfold nodR plV; rw [h0, hn1, hn2]; rfl, hn, hb⟩)
  generalize (xP M).1 = xo at HO
  generalize (xP M).2.op = po at HO
  generalize (xP M).2.a = pa at HO hx hlt
  have HLT := Lib.hid hlt
  have hlt2 : pa < m := by omega
  have hm6 : m ≤ 65536 := by omega
  obtain ⟨x, hxx⟩ : ∃ x, x = tkAt M pa := ⟨_, rfl⟩
  have HXX := Lib.hid hxx
  rw [← hxx] at hx
  have HX : Hid (Calls Tryz.prog 6 #[.string s] w fun e w' => 16 ≠ 0 ∧ e = .returned (.tuple #[.slice none 0 0, .agg #[.int .i64 (16 : Nat), .int .i64 (x.line : Nat), .int .i64 (x.col : Nat)]]) ∧ Below w.heap.size w w') := Lib.hid ((exprF_calls s a w (by omega) hT het hv).mono (by
    rw [hx]
    rintro e w' ⟨⟨h0, he⟩, hb⟩
    exact ⟨h0, he, hb⟩))
  have HM := Lib.hid hm
  have u1 : decide ((pa : Int) < (m : Int)) = true := decide_eq_true (by omega)
  clear hT het hv hs hl hx hM hM6 hm hlt hxx h0 hn1 hn2
  go_enter Tryz.func3, Tryz.ntmps3
  go_wp2_with fail
  refine HX.out.mono ?_
  rintro e w1 ⟨hne, rfl, k1⟩
  clear hne
  obtain ⟨b, hb⟩ : ∃ b, b = w1.heap.size := ⟨_, rfl⟩
  have HK : Hid (Ho (w1.alloc (.cells #[.int .i64 (16 : Nat), .int .i64 (x.line : Nat), .int .i64 (x.col : Nat)] 26)) b #[.int .i64 (16 : Nat), .int .i64 (x.line : Nat), .int .i64 (x.col : Nat)] 26) := Lib.hid (Ho.new _ _ _ hb)
  have HB1 := Lib.hid (k1.alloc k1.size (.cells #[.int .i64 (16 : Nat), .int .i64 (x.line : Nat), .int .i64 (x.col : Nat)] 26))
  clear k1 HX
  go_wp2_with fail
  rw [← hb]
  generalize hW : w1.alloc (.cells #[.int .i64 (16 : Nat), .int .i64 (x.line : Nat), .int .i64 (x.col : Nat)] 26) = W at HK HB1 ⊢
  clear hW hb
  refine (HY.out W).mono ?_
  rintro e w2 ⟨ta, tc, rfl, ht2, k2⟩
  have HB2 := Lib.hid (HB1.out.trans (k2.mono HB1.out.size))
  have HK2 := Lib.hid (HK.out.below k2)
  have HT2 := Lib.hid ht2
  clear k2 ht2 HK HB1 HY
  go_wp2_with fail
  refine (HO.out _ _ _ HT2.out).mono ?_
  rintro e w3 ⟨v3, rfl, hn3, k3⟩
  have HB3 := Lib.hid (HB2.out.trans (k3.mono HB2.out.size))
  have HK3 := Lib.hid (HK2.out.below k3)
  have HT3 := Lib.hid (HT2.out.below k3)
  have HN3 := Lib.hid hn3
  clear k3 hn3 HB2 HK2 HT2 HO
  go_upto_region 8 with fail
  have hA4 : Below w3.heap.size w3 (w3.alloc (.cells #[.int .i64 (pa : Nat), .int .i64 0, .int .i64 0, .int .i64 0, .int .i64 po] 33)) := (Below.refl _ _).alloc (Nat.le_refl _) _
  have hP4 : Ho (w3.alloc (.cells #[.int .i64 (pa : Nat), .int .i64 0, .int .i64 0, .int .i64 0, .int .i64 po] 33)) w3.heap.size #[.int .i64 (pa : Nat), .int .i64 0, .int .i64 0, .int .i64 0, .int .i64 po] 33 := Ho.new _ _ _ rfl
  have HB4 := Lib.hid (HB3.out.trans (hA4.mono HB3.out.size))
  have HK4 := Lib.hid (HK3.out.below hA4)
  have HT4 := Lib.hid (HT3.out.below hA4)
  have HN4 := Lib.hid (HN3.out.below hA4)
  clear HB3 HK3 HT3 HN3
  generalize w3.alloc (.cells #[.int .i64 (pa : Nat), .int .i64 0, .int .i64 0, .int .i64 0, .int .i64 po] 33) = w4 at hA4 hP4 HB4 HK4 HT4 HN4 ⊢
  obtain ⟨x0, x1, x2, x3, x4⟩ := pl5 hP4
  obtain ⟨c0, c1, c2, _, _, _⟩ := fl_cells HK4.out
  have hpl := hP4.lt
  have hbl := HK4.out.lt
  clear hA4 hP4 HK4
  have H1 := Lib.hid (HAw.out w4 HB4.out)
  obtain ⟨tb, off, rfl, htb, d0, d1, d2, d3⟩ := rtk_cells HT4.out HLT.out
  rw [← HXX.out] at d0 d1 d2 d3
  clear HAw HT4 HN4 HLT HXX
  go_wp2_with fail
  refine H1.out.mono ?_
  rintro e w9 ⟨rfl, k9⟩
  have HB9 := Lib.hid (HB4.out.trans (k9.mono HB4.out.size))
  clear k9
  go_wp2_with fail
  go_ret
  exact ⟨by rfl, HB9.out⟩

set_option maxHeartbeats 16000000 in
set_option maxRecDepth 100000 in
theorem walk_ok (s : ByteArray) (a : Addr) (w : World) (hT : LexT w) (het : ErrT w) (hv : ErrR w a) (hs : s.size ≤ 3000) (M : List Tk) (hl : tokL s.data.toList = .ok M) (h0 : (xP M).2.er = 0) (hlt : ¬ (xP M).2.a < M.length) (hx : exprL s.data.toList = .ok (xP M).1) :
    Calls Tryz.prog 3 #[.string s] w fun e w' => e = .returned (.bool true) ∧ Below w.heap.size w w' := by
  have HAw := Lib.hid (fun w1 (hb : Below w.heap.size w w1) => paAwake_calls a w1 (hT.below hb) (het.below hb) (errR_below hv hb))
  have t1 : decide ((3000 : Int) < (s.size : Int)) = false := decide_eq_false (by omega)
  obtain ⟨hM, hM6⟩ := tk_mok hl
  obtain ⟨m, hm⟩ : ∃ m, m = M.length := ⟨_, rfl⟩
  have HY : Hid (∀ w1, Calls Tryz.prog 7 #[.string s] w1 fun e w' => ∃ ta tc, e = .returned (.tuple #[.slice ta m tc, .int .i64 0, .int .i64 0, .int .i64 0]) ∧ TkIn w' 37 ta m M ∧ Below w1.heap.size w1 w') := Lib.hid (fun w1 => (refLexAll_calls s w1 (by omega)).mono (by
    rw [hl]
    rintro e w' ⟨⟨ta, tc, he, ht⟩, hb⟩
    rw [← hm] at he ht
    exact ⟨ta, tc, he, ht, hb⟩))
  obtain ⟨hn1, hn2⟩ := xP_ok h0
  have hxl := xP_len M
  have HO : Hid (∀ ta tc w1, TkIn w1 37 ta m M → Calls Tryz.prog 8 #[.slice ta m tc, .agg #[.int .i64 0, .int .i64 0, .int .i64 0, .int .i64 0, .int .i64 0], .slice none 0 0] w1 fun e w' => ∃ v, e = .returned (.tuple #[v, .agg #[.int .i64 ((xP M).2.a : Nat), .int .i64 0, .int .i64 0, .int .i64 0, .int .i64 (xP M).2.op]]) ∧ NsAt 0 w' v (xP M).1 ∧ Below w1.heap.size w1 w') := Lib.hid (fun ta tc w1 ht => by
    rw [hm] at ht ⊢
    refine (refX_calls ta tc M w1 ht hM hM6).mono ?_
    rintro e w' ⟨v, he, hn, hb⟩
    exact ⟨v, by rw [he]; unfold nodR plV; rw [h0, hn1, hn2]; rfl, hn, hb⟩)
  generalize (xP M).1 = xo at HO hx hxl
  generalize (xP M).2.op = po at HO
  generalize (xP M).2.a = pa at HO hlt
  obtain ⟨n, hn⟩ : ∃ n, n = xo.length := ⟨_, rfl⟩
  have HN := Lib.hid hn
  have hlt2 : ¬ pa < m := by omega
  have hm6 : m ≤ 65536 := by omega
  have hn6 : n ≤ 65536 := by omega
  have u1 : decide ((pa : Int) < (m : Int)) = false := decide_eq_false (by omega)
  have HX : Hid (Calls Tryz.prog 6 #[.string s] w fun e w' => ∃ v, e = .returned (.tuple #[v, .agg #[.int .i64 0, .int .i64 0, .int .i64 0]]) ∧ NsAt w.heap.size w' v xo ∧ Below w.heap.size w w') := Lib.hid ((exprF_calls s a w (by omega) hT het hv).mono (by
    rw [hx]
    rintro e w' ⟨⟨v, he, hn⟩, hb⟩
    exact ⟨v, he, hn, hb⟩))
  have q2 := guardEx
  clear hT het hv hs hl hx hM hM6 hm hlt h0 hn1 hn2 hxl hn
  go_enter Tryz.func3, Tryz.ntmps3
  go_wp2_with fail
  refine HX.out.mono ?_
  rintro e w1 ⟨v1, rfl, hn1, k1⟩
  obtain ⟨b, hb⟩ : ∃ b, b = w1.heap.size := ⟨_, rfl⟩
  have HK : Hid (Ho (w1.alloc (.cells #[.int .i64 0, .int .i64 0, .int .i64 0] 26)) b #[.int .i64 0, .int .i64 0, .int .i64 0] 26) := Lib.hid (Ho.new _ _ _ hb)
  have HB1 := Lib.hid (k1.alloc k1.size (.cells #[.int .i64 0, .int .i64 0, .int .i64 0] 26))
  have HV1 := Lib.hid (hn1.below ((Below.refl w1.heap.size w1).alloc (Nat.le_refl _) (.cells #[.int .i64 0, .int .i64 0, .int .i64 0] 26)))
  clear k1 HX hn1
  go_wp2_with fail
  rw [← hb]
  generalize hW : w1.alloc (.cells #[.int .i64 0, .int .i64 0, .int .i64 0] 26) = W at HK HB1 HV1 ⊢
  clear hW hb
  refine (HY.out W).mono ?_
  rintro e w2 ⟨ta, tc, rfl, ht2, k2⟩
  have HB2 := Lib.hid (HB1.out.trans (k2.mono HB1.out.size))
  have HK2 := Lib.hid (HK.out.below k2)
  have HT2 := Lib.hid ht2
  have HV2 := Lib.hid (HV1.out.below k2)
  clear k2 ht2 HK HB1 HY HV1
  go_wp2_with fail
  refine (HO.out _ _ _ HT2.out).mono ?_
  rintro e w3 ⟨v3, rfl, hn3, k3⟩
  have HB3 := Lib.hid (HB2.out.trans (k3.mono HB2.out.size))
  have HK3 := Lib.hid (HK2.out.below k3)
  have HT3 := Lib.hid (HT2.out.below k3)
  have HN3 := Lib.hid hn3
  have HV3 := Lib.hid (HV2.out.below k3)
  clear k3 hn3 HB2 HK2 HT2 HO HV2
  go_upto_region 8 with fail
  have hA4 : Below w3.heap.size w3 (w3.alloc (.cells #[.int .i64 (pa : Nat), .int .i64 0, .int .i64 0, .int .i64 0, .int .i64 po] 33)) := (Below.refl _ _).alloc (Nat.le_refl _) _
  have hP4 : Ho (w3.alloc (.cells #[.int .i64 (pa : Nat), .int .i64 0, .int .i64 0, .int .i64 0, .int .i64 po] 33)) w3.heap.size #[.int .i64 (pa : Nat), .int .i64 0, .int .i64 0, .int .i64 0, .int .i64 po] 33 := Ho.new _ _ _ rfl
  have HB4 := Lib.hid (HB3.out.trans (hA4.mono HB3.out.size))
  have HK4 := Lib.hid (HK3.out.below hA4)
  have HT4 := Lib.hid (HT3.out.below hA4)
  have HN4 := Lib.hid (HN3.out.below hA4)
  have HV4 := Lib.hid (HV3.out.below hA4)
  clear HB3 HK3 HT3 HN3 HV3
  generalize w3.alloc (.cells #[.int .i64 (pa : Nat), .int .i64 0, .int .i64 0, .int .i64 0, .int .i64 po] 33) = w4 at hA4 hP4 HB4 HK4 HT4 HN4 HV4 ⊢
  obtain ⟨x0, x1, x2, x3, x4⟩ := pl5 hP4
  obtain ⟨c0, c1, c2, _, _, _⟩ := fl_cells HK4.out
  have hpl := hP4.lt
  have hbl := HK4.out.lt
  clear hA4 hP4 HK4
  obtain ⟨va, vc, rfl⟩ := HV4.out.slice
  obtain ⟨ya, yc, rfl⟩ := HN4.out.slice
  rw [← HN.out] at HV4 HN4 ⊢
  go_wp2_with fail
  clear x0 x1 x2 x3 x4 c0 c1 c2 hpl hbl HT4
  go_loopw [12] (fun i wr => ∃ (j : Nat), j ≤ n ∧ i = .int .i64 j ∧ Hid (NsAt w.heap.size wr (.slice va n vc) xo) ∧ Hid (NsAt 0 wr (.slice ya n yc) xo) ∧ Hid (Below w.heap.size w wr)) (fun i _ => n - (intOf i).toNat)
  case atStart => exact ⟨0, Nat.zero_le _, rfl, HV4, HN4, HB4⟩
  case round =>
    clear HV4 HN4 HB4
    obtain ⟨j, hj, rfl, HV, HN2, HB⟩ := hrel
    by_cases h : j < n
    case neg =>
      have H1 := Lib.hid (HAw.out wr HB.out)
      go_wp2_with fail
      refine H1.out.mono ?_
      rintro e w9 ⟨rfl, k9⟩
      have HB9 := Lib.hid (HB.out.trans (k9.mono HB.out.size))
      clear k9
      go_wp2_with fail
      go_ret
      exact ⟨by rfl, HB9.out⟩
    case pos =>
      obtain ⟨x, hx⟩ : ∃ x, xo[j]? = some x := ⟨_, List.getElem?_eq_getElem (by rw [← HN.out]; exact h)⟩
      obtain ⟨g, gc, e9, hg, hc⟩ := HV.out.node hx
      cases e9
      obtain ⟨g', gc', e9, hg', hd⟩ := HN2.out.node hx
      cases e9
      have c0 : wr.cell? ⟨g, j * 10, none⟩ = some (.int .i64 x.op) := hc 0 _ rfl
      have c1 : wr.cell? ⟨g, j * 10 + 1, none⟩ = some (.int .i64 x.a) := hc 1 _ rfl
      have c2 : wr.cell? ⟨g, j * 10 + 2, none⟩ = some (.int .i64 x.b) := hc 2 _ rfl
      have c3 : wr.cell? ⟨g, j * 10 + 3, none⟩ = some (.string x.n) := hc 3 _ rfl
      have c4 : wr.cell? ⟨g, j * 10 + 4, none⟩ = some (.int .i64 x.v.k) := hc 4 _ rfl
      have c5 : wr.cell? ⟨g, j * 10 + 5, none⟩ = some (.int .i64 x.v.i) := hc 5 _ rfl
      have c6 : wr.cell? ⟨g, j * 10 + 6, none⟩ = some (.string x.v.s) := hc 6 _ rfl
      have c7 : wr.cell? ⟨g, j * 10 + 7, none⟩ = some (.bool x.v.b) := hc 7 _ rfl
      have c8 : wr.cell? ⟨g, j * 10 + 8, none⟩ = some (.int .i64 x.l) := hc 8 _ rfl
      have c9 : wr.cell? ⟨g, j * 10 + 9, none⟩ = some (.int .i64 x.c) := hc 9 _ rfl
      have d0 : wr.cell? ⟨g', j * 10, none⟩ = some (.int .i64 x.op) := hd 0 _ rfl
      have d1 : wr.cell? ⟨g', j * 10 + 1, none⟩ = some (.int .i64 x.a) := hd 1 _ rfl
      have d2 : wr.cell? ⟨g', j * 10 + 2, none⟩ = some (.int .i64 x.b) := hd 2 _ rfl
      have d3 : wr.cell? ⟨g', j * 10 + 3, none⟩ = some (.string x.n) := hd 3 _ rfl
      have d4 : wr.cell? ⟨g', j * 10 + 4, none⟩ = some (.int .i64 x.v.k) := hd 4 _ rfl
      have d5 : wr.cell? ⟨g', j * 10 + 5, none⟩ = some (.int .i64 x.v.i) := hd 5 _ rfl
      have d6 : wr.cell? ⟨g', j * 10 + 6, none⟩ = some (.string x.v.s) := hd 6 _ rfl
      have d7 : wr.cell? ⟨g', j * 10 + 7, none⟩ = some (.bool x.v.b) := hd 7 _ rfl
      have d8 : wr.cell? ⟨g', j * 10 + 8, none⟩ = some (.int .i64 x.l) := hd 8 _ rfl
      have d9 : wr.cell? ⟨g', j * 10 + 9, none⟩ = some (.int .i64 x.c) := hd 9 _ rfl
      have q1 := eqInEx x x
      rw [decide_eq_true (rfl : x = x)] at q1
      clear hc hd hx
      go_wp2_with fail
      go_quiet (fail)
      go_wp2_with fail
      go_roundw
      case rel => exact ⟨j + 1, h, by go_num, Lib.hid (HV.out.below (lx_drewN (Below.refl _ _) _)), Lib.hid (HN2.out.below (lx_drewN (Below.refl _ _) _)), Lib.hid (lx_drewN HB.out _)⟩
      case measure => simp [intOf]; omega

theorem walk (s : ByteArray) (w : World) (hT : LexT w) (het : ErrT w) (hv : ∃ a, ErrR w a) :
    Calls Tryz.prog 3 #[.string s] w fun e w' => e = .returned (.bool true) ∧ Below w.heap.size w w' := by
  obtain ⟨a, hv⟩ := hv
  by_cases hs : 3000 < s.size
  · exact walk_big s a w hT het hv hs
  have hs : s.size ≤ 3000 := by omega
  cases hl : tokL s.data.toList with
  | error z =>
    obtain ⟨er, el, ec⟩ := z
    exact walk_lex s a w hT het hv hs er el ec hl (by unfold exprL; rw [hl])
  | ok M =>
    have hX : exprL s.data.toList = exprX M := by unfold exprL; rw [hl]
    have hN := (tk_mok hl).1.nums
    by_cases h0 : (xP M).2.er = 0
    · by_cases hlt : (xP M).2.a < M.length
      · exact walk_more s a w hT het hv hs M hl h0 hlt (by rw [hX]; exact exprX_more hN h0 hlt)
      · exact walk_ok s a w hT het hv hs M hl h0 hlt (by rw [hX]; exact exprX_ok hN h0 hlt)
    · exact walk_no s a w hT het hv hs M hl (by rw [hX]; exact exprX_no hN h0)
end Go.Proofs.YtmknmmbfaljkbaaGreatDoor.parseExprs
