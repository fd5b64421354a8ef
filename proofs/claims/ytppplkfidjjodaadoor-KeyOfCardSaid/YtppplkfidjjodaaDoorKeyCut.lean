/- What key.Cut does with any bytes: the value whose key they begin with. -/
import Derived.Test.YtppplkfidjjodaaDoorKeyNumber
import Derived.Test.YtppplkfidjjodaaDoorKeyText
import Derived.Test.YtppplkfidjjodaaDoorValMake
namespace Go.Proofs.YtppplkfidjjodaaDoor
open Go.RowKit
set_option linter.unusedVariables false

theorem results_cell2 {fn : Func} {p u r : Tmp} {ty : TypeId} (h : fn.results = #[.cell p ty, .tmp u, .tmp r]) (tmps : Array Value) (P : Program) (w : World) :
    (results fn tmps).run P w =
      ((asAddr (tmps.getD p undef)).run P w).andThen fun a w₁ => ((loadVar ty a).run P w₁).andThen fun v w₂ => .ok (.tuple #[v, tmps.getD u undef, tmps.getD r undef]) w₂ := by
  simp only [results, h]
  simp [Sem.run_bind, Result.andThen]

/-- What is told of bytes, as a call's answer. -/
def KeyPost (l : List UInt8) (B : Nat) (w : World) (e : Ending) (w' : World) : Prop :=
  ∃ v n ok, KeyTold l v n ok ∧ e = .returned (.tuple #[.agg #[.int .i64 v.k, .int .i64 v.i, .string v.s, .bool v.b], .int .i64 (n : Nat), .bool ok]) ∧ Below B w w'
/-- Bytes in memory: none, or they lie in a row. -/
structure BIn (w : World) (a : Option Addr) (len cap : Nat) (l : List UInt8) : Prop where
  leng : l.length = len
  room : len ≤ cap
  row : 0 < len → ∃ g off, a = some ⟨g, off, none⟩ ∧ Bts w g off l
theorem BIn.below {w w' : World} {a : Option Addr} {len cap : Nat} {l : List UInt8} (h : BIn w a len cap l) (hb : Below w.heap.size w w') : BIn w' a len cap l :=
  ⟨h.leng, h.room, fun h0 => by obtain ⟨g, off, e, hr⟩ := h.row h0; exact ⟨g, off, e, hr.below hb⟩⟩
theorem Bts.tail {w : World} {g off : Nat} {c : UInt8} {r : List UInt8} (h : Bts w g off (c :: r)) : Bts w g (off + 1) r := by
  have := h.drop 1
  simpa using this
theorem Bts.nil (w : World) (g off : Nat) : Bts w g off [] := ⟨fun j c h => by simp at h⟩

set_option maxHeartbeats 1000000 in
theorem cutNil_calls (a : Option Addr) (cap : Nat) (w : World) :
    Calls Tryd.prog 13 #[.slice a 0 cap] w (KeyPost [] w.heap.size w) := by
  have HX := Lib.hid told_nil
  go_enter Tryd.func13, Tryd.ntmps13
  go_wp2_with fail
  refine bodyPost_ret (v := .tuple #[.agg #[.int .i64 0, .int .i64 0, .string ⟨#[]⟩, .bool false], .int .i64 0, .bool false]) ?_ rfl ⟨none0, 0, false, HX.out, rfl, ?_⟩
  · rw [results_cell2 rfl]
    go_simp
  · repeat' (first | exact Below.refl _ _ | refine Below.alloc ?_ (by simp <;> omega) _)

/-- The answer's own cells, behind calls. -/
structure Ans (w w' : World) : Prop where
  box : Boxed w.heap.size 0 0 ⟨#[]⟩ false w'
  free : Free4 w.heap.size w'
  below : Below w.heap.size w w'
  lt : w.heap.size < w'.heap.size
theorem Ans.new (w : World) : Ans w (w.alloc (.cells #[.int .i64 0, .int .i64 0, .string ⟨#[]⟩, .bool false] 33)) :=
  ⟨Boxed.new _ _ _ _ _ _, Free4.new _ _ _, (Below.refl _ _).alloc (Nat.le_refl _) _, by simp⟩
theorem Ans.step {w w1 w2 : World} (h : Ans w w1) (hb : Below w1.heap.size w1 w2) : Ans w w2 :=
  ⟨h.box.below hb h.lt, h.free.below hb h.lt, h.below.trans (hb.mono h.below.size), Nat.lt_of_lt_of_le h.lt hb.size⟩

set_option maxHeartbeats 1000000 in
theorem cutElse_calls (g off len cap : Nat) (c : UInt8) (r : List UInt8) (w : World) (h : Bts w g off (c :: r)) (hl : r.length + 1 = len) (hlc : len ≤ cap) (hb : len ≤ 1000000000) (h1 : c ≠ 1) (h2 : c ≠ 2) (h3 : c ≠ 3) :
    Calls Tryd.prog 13 #[.slice (some ⟨g, off, none⟩) len cap] w (KeyPost (c :: r) w.heap.size w) := by
  have HX := Lib.hid (told_kind (r := r) h1 h2 h3)
  have hc := h.at' 0 c rfl
  rw [Nat.add_zero] at hc
  have hg : g < w.heap.size := block_lt_of_cell hc
  have i0 : (0 : Int) < (len : Int) := by omega
  have t0 : ((len : Int) == 0) = false := by rw [beq_eq_false_iff_ne]; omega
  have i1 : (1 : Int) ≤ (len : Int) := by omega
  have e1 : ((c.toNat : Int) == 1) = false := by rw [beq_eq_false_iff_ne]; intro e; exact h1 (UInt8.toNat_inj.1 (by show c.toNat = 1; omega))
  have e2 : ((c.toNat : Int) == 2) = false := by rw [beq_eq_false_iff_ne]; intro e; exact h2 (UInt8.toNat_inj.1 (by show c.toNat = 2; omega))
  have e3 : ((c.toNat : Int) == 3) = false := by rw [beq_eq_false_iff_ne]; intro e; exact h3 (UInt8.toNat_inj.1 (by show c.toNat = 3; omega))
  clear h h1 h2 h3 hl
  by_cases hcap : cap = 1
  · subst hcap
    go_enter Tryd.func13, Tryd.ntmps13
    go_wp2_with fail
    refine bodyPost_ret (v := .tuple #[.agg #[.int .i64 0, .int .i64 0, .string ⟨#[]⟩, .bool false], .int .i64 0, .bool false]) ?_ rfl ⟨none0, 0, false, HX.out, rfl, ?_⟩
    · rw [results_cell2 rfl]
      go_simp
    · repeat' (first | exact Below.refl _ _ | refine Below.alloc ?_ (by simp <;> omega) _)
  · go_enter Tryd.func13, Tryd.ntmps13
    go_wp2_with fail
    refine bodyPost_ret (v := .tuple #[.agg #[.int .i64 0, .int .i64 0, .string ⟨#[]⟩, .bool false], .int .i64 0, .bool false]) ?_ rfl ⟨none0, 0, false, HX.out, rfl, ?_⟩
    · rw [results_cell2 rfl]
      go_simp
    · repeat' (first | exact Below.refl _ _ | refine Below.alloc ?_ (by simp <;> omega) _)

set_option maxHeartbeats 1000000 in
theorem cut1no_calls (g off len cap : Nat) (r : List UInt8) (w : World) (h : Bts w g off (1 :: r)) (hl : r.length + 1 = len) (hlc : len ≤ cap) (hb : len ≤ 1000000000) (h8 : r.length < 8) :
    Calls Tryd.prog 13 #[.slice (some ⟨g, off, none⟩) len cap] w (KeyPost (1 :: r) w.heap.size w) := by
  have HX := Lib.hid (told_num_no h8)
  have hc := h.at' 0 1 rfl
  rw [Nat.add_zero] at hc
  have hg : g < w.heap.size := block_lt_of_cell hc
  have i0 : (0 : Int) < (len : Int) := by omega
  have t0 : ((len : Int) == 0) = false := by rw [beq_eq_false_iff_ne]; omega
  have i1 : (1 : Int) ≤ (len : Int) := by omega
  have u0 : (((1 : UInt8).toNat : Nat) : Int) = 1 := rfl
  rw [u0] at hc
  have t8 : decide ((8 : Int) ≤ ((len - 1 : Nat) : Int)) = false := by simp; omega
  clear h hl h8 u0
  by_cases hcap : cap = 1
  · subst hcap
    obtain rfl : len = 1 := by omega
    go_enter Tryd.func13, Tryd.ntmps13
    go_wp2_with fail
    refine bodyPost_ret (v := .tuple #[.agg #[.int .i64 0, .int .i64 0, .string ⟨#[]⟩, .bool false], .int .i64 0, .bool false]) ?_ rfl ⟨none0, 0, false, HX.out, rfl, ?_⟩
    · rw [results_cell2 rfl]
      go_simp
    · repeat' (first | exact Below.refl _ _ | refine Below.alloc ?_ (by simp <;> omega) _)
  · go_enter Tryd.func13, Tryd.ntmps13
    go_wp2_with fail
    refine bodyPost_ret (v := .tuple #[.agg #[.int .i64 0, .int .i64 0, .string ⟨#[]⟩, .bool false], .int .i64 0, .bool false]) ?_ rfl ⟨none0, 0, false, HX.out, rfl, ?_⟩
    · rw [results_cell2 rfl]
      go_simp
    · repeat' (first | exact Below.refl _ _ | refine Below.alloc ?_ (by simp <;> omega) _)

set_option maxHeartbeats 2000000 in
theorem cut1_calls (g off len cap : Nat) (r : List UInt8) (w : World) (h : Bts w g off (1 :: r)) (hl : r.length + 1 = len) (hlc : len ≤ cap) (hb : len ≤ 1000000000) (h8 : 8 ≤ r.length) :
    Calls Tryd.prog 13 #[.slice (some ⟨g, off, none⟩) len cap] w (KeyPost (1 :: r) w.heap.size w) := by
  have HX := Lib.hid (told_num h8)
  have HN := Lib.hid (fun w1 (hw : Below w.heap.size w w1) => number_calls g (off + 1) (len - 1) (cap - 1) r w1 (h.tail.below hw) (by omega) (by omega) (by omega) (by omega))
  have hc := h.at' 0 1 rfl
  rw [Nat.add_zero] at hc
  have hg : g < w.heap.size := block_lt_of_cell hc
  have i0 : (0 : Int) < (len : Int) := by omega
  have t0 : ((len : Int) == 0) = false := by rw [beq_eq_false_iff_ne]; omega
  have i1 : (1 : Int) ≤ (len : Int) := by omega
  have u0 : (((1 : UInt8).toNat : Nat) : Int) = 1 := rfl
  rw [u0] at hc
  have t8 : decide ((8 : Int) ≤ ((len - 1 : Nat) : Int)) = true := by simp; omega
  have hcap : ¬ cap = 1 := by omega
  obtain ⟨x, hx⟩ : ∃ x, x = ((numOf (r.take 8) : Nat) : Int) - 9223372036854775808 := ⟨_, rfl⟩
  rw [← hx] at HX HN
  have HI := Lib.hid (fun w1 => vInt_calls x w1)
  have HA := Lib.hid (Ans.new w)
  clear h hl h8 u0 hx
  go_enter Tryd.func13, Tryd.ntmps13
  go_wp2_with fail
  refine (HN.out _ HA.out.below).mono ?_
  rintro e w1 ⟨rfl, rfl⟩
  go_wp2_with fail
  refine (HI.out _).mono ?_
  rintro e w2 ⟨rfl, k2⟩
  have HA2 := Lib.hid (HA.out.step k2)
  have hlt : w.heap.size < w2.heap.size := HA2.out.lt
  obtain ⟨d0, d1, d2, d3⟩ := HA2.out.box
  obtain ⟨f0, f1, f2, f3⟩ := HA2.out.free
  clear k2
  go_wp2_with fail
  refine bodyPost_ret (v := .tuple #[.agg #[.int .i64 1, .int .i64 x, .string ⟨#[]⟩, .bool false], .int .i64 9, .bool true]) ?_ rfl ⟨_, 9, true, HX.out, rfl, ?_⟩
  · rw [results_cell2 rfl]
    go_simp
  · exact below_set4 HA2.out.below (Nat.le_refl _) _ _ _ _

set_option maxHeartbeats 2000000 in
theorem cut3_calls (g off len cap : Nat) (r : List UInt8) (w : World) (h : Bts w g off (3 :: r)) (hl : r.length + 1 = len) (hlc : len ≤ cap) (hb : len ≤ 1000000000) :
    Calls Tryd.prog 13 #[.slice (some ⟨g, off, none⟩) len cap] w (KeyPost (3 :: r) w.heap.size w) := by
  have hc := h.at' 0 3 rfl
  rw [Nat.add_zero] at hc
  have hg : g < w.heap.size := block_lt_of_cell hc
  have i0 : (0 : Int) < (len : Int) := by omega
  have t0 : ((len : Int) == 0) = false := by rw [beq_eq_false_iff_ne]; omega
  have i1 : (1 : Int) ≤ (len : Int) := by omega
  have u0 : (((3 : UInt8).toNat : Nat) : Int) = 3 := rfl
  rw [u0] at hc
  cases r with
  | nil =>
    obtain rfl : len = 1 := by simpa using hl.symm
    have HX := Lib.hid (told_bool_no (r := []) (fun c x e => by cases e))
    clear h hl u0
    by_cases hcap : cap = 1
    · subst hcap
      go_enter Tryd.func13, Tryd.ntmps13
      go_wp2_with fail
      refine bodyPost_ret (v := .tuple #[.agg #[.int .i64 0, .int .i64 0, .string ⟨#[]⟩, .bool false], .int .i64 0, .bool false]) ?_ rfl ⟨none0, 0, false, HX.out, rfl, ?_⟩
      · rw [results_cell2 rfl]
        go_simp
      · repeat' (first | exact Below.refl _ _ | refine Below.alloc ?_ (by simp <;> omega) _)
    · go_enter Tryd.func13, Tryd.ntmps13
      go_wp2_with fail
      refine bodyPost_ret (v := .tuple #[.agg #[.int .i64 0, .int .i64 0, .string ⟨#[]⟩, .bool false], .int .i64 0, .bool false]) ?_ rfl ⟨none0, 0, false, HX.out, rfl, ?_⟩
      · rw [results_cell2 rfl]
        go_simp
      · repeat' (first | exact Below.refl _ _ | refine Below.alloc ?_ (by simp <;> omega) _)
  | cons c r =>
    have hd := h.tail.at' 0 c rfl
    rw [Nat.add_zero] at hd
    have hcap : ¬ cap = 1 := by simp at hl; omega
    have i2 : (0 : Int) < ((len - 1 : Nat) : Int) := by simp at hl; omega
    have t2 : decide ((0 : Int) < ((len - 1 : Nat) : Int)) = true := by simpa using i2
    by_cases hb1 : c.toNat ≤ 1
    · have hX := told_bool (r := r) hb1
      have t3 : decide ((c.toNat : Int) ≤ 1) = true := by simp; omega
      obtain ⟨b, hbe⟩ : ∃ b, b = (c == 1) := ⟨_, rfl⟩
      rw [← hbe] at hX
      have HX := Lib.hid hX
      have t4 : ((c.toNat : Int) == 1) = b := by
        rw [hbe, Bool.eq_iff_iff, beq_iff_eq, beq_iff_eq, ← UInt8.toNat_inj]
        show _ ↔ c.toNat = 1
        omega
      have HV := Lib.hid (fun w1 => vBool_calls b w1)
      have HA := Lib.hid (Ans.new w)
      clear h hl u0 hX hbe hb1
      go_enter Tryd.func13, Tryd.ntmps13
      go_wp2_with fail
      refine (HV.out _).mono ?_
      rintro e w2 ⟨rfl, k2⟩
      have HA2 := Lib.hid (HA.out.step k2)
      have hlt : w.heap.size < w2.heap.size := HA2.out.lt
      obtain ⟨d0, d1, d2, d3⟩ := HA2.out.box
      obtain ⟨f0, f1, f2, f3⟩ := HA2.out.free
      clear k2
      go_wp2_with fail
      refine bodyPost_ret (v := .tuple #[.agg #[.int .i64 3, .int .i64 0, .string ⟨#[]⟩, .bool b], .int .i64 2, .bool true]) ?_ rfl ⟨_, 2, true, HX.out, rfl, ?_⟩
      · rw [results_cell2 rfl]
        go_simp
      · exact below_set4 HA2.out.below (Nat.le_refl _) _ _ _ _
    · have HX := Lib.hid (told_bool_no (r := c :: r) (fun d x e => by obtain ⟨rfl, _⟩ := List.cons.inj e; exact hb1))
      have t3 : decide ((c.toNat : Int) ≤ 1) = false := by simp; omega
      clear h hl u0 hb1
      go_enter Tryd.func13, Tryd.ntmps13
      go_wp2_with fail
      refine bodyPost_ret (v := .tuple #[.agg #[.int .i64 0, .int .i64 0, .string ⟨#[]⟩, .bool false], .int .i64 0, .bool false]) ?_ rfl ⟨none0, 0, false, HX.out, rfl, ?_⟩
      · rw [results_cell2 rfl]
        go_simp
      · repeat' (first | exact Below.refl _ _ | refine Below.alloc ?_ (by simp <;> omega) _)

set_option maxHeartbeats 2000000 in
theorem cut2_calls (g off len cap : Nat) (r : List UInt8) (w : World) (h : Bts w g off (2 :: r)) (hl : r.length + 1 = len) (hlc : len ≤ cap) (hb : len ≤ 1000000000) :
    Calls Tryd.prog 13 #[.slice (some ⟨g, off, none⟩) len cap] w (KeyPost (2 :: r) w.heap.size w) := by
  have HA := Lib.hid (Ans.new w)
  have hc := h.at' 0 2 rfl
  rw [Nat.add_zero] at hc
  have hg : g < w.heap.size := block_lt_of_cell hc
  have i0 : (0 : Int) < (len : Int) := by omega
  have t0 : ((len : Int) == 0) = false := by rw [beq_eq_false_iff_ne]; omega
  have i1 : (1 : Int) ≤ (len : Int) := by omega
  have u0 : (((2 : UInt8).toNat : Nat) : Int) = 2 := rfl
  rw [u0] at hc
  by_cases hcap : cap = 1
  · subst hcap
    obtain rfl : len = 1 := by omega
    obtain rfl : r = [] := List.length_eq_zero_iff.1 (by omega)
    have HC := Lib.hid (fun w1 (hw : Below w.heap.size w w1) => cutText_calls g off 0 0 [] w1 (Bts.nil _ _ _) rfl (Nat.le_refl _) (by omega))
    clear h hl u0
    go_enter Tryd.func13, Tryd.ntmps13
    go_wp2_with fail
    refine (HC.out _ HA.out.below).mono ?_
    rintro e w1 ⟨t, n, ok, ht, rfl, k1⟩
    have HA1 := Lib.hid (HA.out.step k1)
    have hlt1 : w.heap.size < w1.heap.size := HA1.out.lt
    clear k1
    rcases ht with ⟨rfl, h1, h2, x, h3⟩ | ⟨rfl, rfl, rfl, h1⟩
    · have hX := told_text (x := x) h1
      rw [← h3, ← h2] at hX
      have HX := Lib.hid hX
      have hn : n ≤ 1000000000 := by
        have := congrArg List.length h3
        simp only [List.length_append, List.length_cons, List.length_nil] at this
        omega
      obtain ⟨s, hs⟩ : ∃ s : ByteArray, s = ⟨t.toArray⟩ := ⟨_, rfl⟩
      rw [← hs] at HX ⊢
      have HV := Lib.hid (fun w1 => vStr_calls s w1)
      clear hX h1 h2 h3 hs
      go_wp2_with fail
      refine (HV.out _).mono ?_
      rintro e w2 ⟨rfl, k2⟩
      have HA2 := Lib.hid (HA1.out.step k2)
      have hlt : w.heap.size < w2.heap.size := HA2.out.lt
      obtain ⟨d0, d1, d2, d3⟩ := HA2.out.box
      obtain ⟨f0, f1, f2, f3⟩ := HA2.out.free
      clear k2
      go_wp2_with fail
      refine bodyPost_ret (v := .tuple #[.agg #[.int .i64 2, .int .i64 0, .string s, .bool false], .int .i64 ((1 + n : Nat) : Int), .bool true]) ?_ rfl ⟨_, 1 + n, true, HX.out, rfl, ?_⟩
      · rw [results_cell2 rfl]
        go_simp
        try go_num
      · exact below_set4 HA2.out.below (Nat.le_refl _) _ _ _ _
    · have HX := Lib.hid h1
      obtain ⟨d0, d1, d2, d3⟩ := HA1.out.box
      obtain ⟨f0, f1, f2, f3⟩ := HA1.out.free
      clear h1
      go_wp2_with fail
      refine bodyPost_ret (v := .tuple #[.agg #[.int .i64 0, .int .i64 0, .string ⟨#[]⟩, .bool false], .int .i64 0, .bool false]) ?_ rfl ⟨none0, 0, false, HX.out, rfl, ?_⟩
      · rw [results_cell2 rfl]
        go_simp
      · exact below_set4 HA1.out.below (Nat.le_refl _) _ _ _ _
  · have HC := Lib.hid (fun w1 (hw : Below w.heap.size w w1) => cutText_calls g (off + 1) (len - 1) (cap - 1) r w1 (h.tail.below hw) (by omega) (by omega) (by omega))
    clear h u0
    go_enter Tryd.func13, Tryd.ntmps13
    go_wp2_with fail
    refine (HC.out _ HA.out.below).mono ?_
    rintro e w1 ⟨t, n, ok, ht, rfl, k1⟩
    have HA1 := Lib.hid (HA.out.step k1)
    have hlt1 : w.heap.size < w1.heap.size := HA1.out.lt
    clear k1
    rcases ht with ⟨rfl, h1, h2, x, h3⟩ | ⟨rfl, rfl, rfl, h1⟩
    · have hX := told_text (x := x) h1
      rw [← h3, ← h2] at hX
      have HX := Lib.hid hX
      have hn : n ≤ 1000000000 := by
        have := congrArg List.length h3
        simp only [List.length_append, List.length_cons] at this
        omega
      obtain ⟨s, hs⟩ : ∃ s : ByteArray, s = ⟨t.toArray⟩ := ⟨_, rfl⟩
      rw [← hs] at HX ⊢
      have HV := Lib.hid (fun w1 => vStr_calls s w1)
      clear hX h1 h2 h3 hs
      go_wp2_with fail
      refine (HV.out _).mono ?_
      rintro e w2 ⟨rfl, k2⟩
      have HA2 := Lib.hid (HA1.out.step k2)
      have hlt : w.heap.size < w2.heap.size := HA2.out.lt
      obtain ⟨d0, d1, d2, d3⟩ := HA2.out.box
      obtain ⟨f0, f1, f2, f3⟩ := HA2.out.free
      clear k2
      go_wp2_with fail
      refine bodyPost_ret (v := .tuple #[.agg #[.int .i64 2, .int .i64 0, .string s, .bool false], .int .i64 ((1 + n : Nat) : Int), .bool true]) ?_ rfl ⟨_, 1 + n, true, HX.out, rfl, ?_⟩
      · rw [results_cell2 rfl]
        go_simp
        try go_num
      · exact below_set4 HA2.out.below (Nat.le_refl _) _ _ _ _
    · have HX := Lib.hid h1
      obtain ⟨d0, d1, d2, d3⟩ := HA1.out.box
      obtain ⟨f0, f1, f2, f3⟩ := HA1.out.free
      clear h1
      go_wp2_with fail
      refine bodyPost_ret (v := .tuple #[.agg #[.int .i64 0, .int .i64 0, .string ⟨#[]⟩, .bool false], .int .i64 0, .bool false]) ?_ rfl ⟨none0, 0, false, HX.out, rfl, ?_⟩
      · rw [results_cell2 rfl]
        go_simp
      · exact below_set4 HA1.out.below (Nat.le_refl _) _ _ _ _

theorem cut_calls (a : Option Addr) (len cap : Nat) (l : List UInt8) (w : World) (h : BIn w a len cap l) (hb : len ≤ 1000000000) :
    Calls Tryd.prog 13 #[.slice a len cap] w (KeyPost l w.heap.size w) := by
  cases l with
  | nil =>
    obtain rfl : len = 0 := h.leng.symm
    exact cutNil_calls a cap w
  | cons c r =>
    have hl : r.length + 1 = len := h.leng
    obtain ⟨g, off, rfl, hr⟩ := h.row (by omega)
    by_cases h1 : c = 1
    · subst h1
      by_cases h8 : 8 ≤ r.length
      · exact cut1_calls g off len cap r w hr hl h.room hb h8
      · exact cut1no_calls g off len cap r w hr hl h.room hb (by omega)
    by_cases h2 : c = 2
    · subst h2
      exact cut2_calls g off len cap r w hr hl h.room hb
    by_cases h3 : c = 3
    · subst h3
      exact cut3_calls g off len cap r w hr hl h.room hb
    exact cutElse_calls g off len cap c r w hr hl h.room hb h1 h2 h3
end Go.Proofs.YtppplkfidjjodaaDoor
