/- What binding.compareSlots does with any two slots. -/
import Derived.Test.YtjohiehlnbgdaaaDoorLayCmp
import Derived.Test.YtjohiehlnbgdaaaDoorSlotGet
import Derived.Sort.Grow
import Derived.Sort.Statements
namespace Go.Proofs.YtjohiehlnbgdaaaDoor
open Go.RowKit
set_option linter.unusedVariables false

/-- What lies behind a call that has made blocks alone. -/
def Grew (w w' : World) : Prop := ∃ os, w' = Go.Sort.grow w os
theorem Grew.refl (w : World) : Grew w w := ⟨#[], by rw [Go.Sort.grow_empty]⟩
theorem Grew.alloc {w w' : World} (h : Grew w w') (o : Obj) : Grew w (w'.alloc o) := by
  obtain ⟨os, rfl⟩ := h
  exact ⟨os ++ #[o], by rw [Go.Sort.alloc_eq_grow, Go.Sort.grow_grow]⟩
theorem Grew.trans {a b c : World} (h : Grew a b) (k : Grew b c) : Grew a c := by
  obtain ⟨os, rfl⟩ := h
  obtain ⟨os', rfl⟩ := k
  exact ⟨os ++ os', by rw [Go.Sort.grow_grow]⟩
theorem Grew.below {w w' : World} (h : Grew w w') : Below w.heap.size w w' := by
  obtain ⟨os, rfl⟩ := h
  refine ⟨rfl, rfl, rfl, by simp [Go.Sort.grow], fun k hk => ?_⟩
  simp [Go.Sort.grow, Array.getElem?_append_left hk]

set_option maxHeartbeats 400000 in
theorem vLess_grew (v u : Vd) (w : World) :
    Calls Tryd.prog 60 #[.agg #[.int .i64 v.k, .int .i64 v.i, .string v.s, .bool v.b], .agg #[.int .i64 u.k, .int .i64 u.i, .string u.s, .bool u.b]] w fun e w' => e = .returned (.bool (lessD v u)) ∧ Grew w w' := by
  show Calls _ _ _ _ fun e w' => e = .returned (.bool (lessB v.k v.i v.s v.b u.k u.i u.s u.b)) ∧ Grew w w'
  go_enter Tryd.func60, Tryd.ntmps60
  go_wp2
  all_goals go_ret
  all_goals refine ⟨by simp_all [lessB], ?_⟩
  all_goals repeat' (first | exact Grew.refl _ | refine Grew.alloc ?_ _)

/-- What compareSlots says of two slots. -/
def cmpS (a b : Sd) : Int := if a.x = b.x then (if lessD a.v b.v then -1 else if lessD b.v a.v then 1 else 0) else Lib.compareInt a.x b.x

set_option maxHeartbeats 1000000 in
theorem cmpS_calls (a b : Sd) (w : World) :
    Calls Tryd.prog 48 #[.agg #[.int .i64 a.x, .int .i64 a.v.k, .int .i64 a.v.i, .string a.v.s, .bool a.v.b], .agg #[.int .i64 b.x, .int .i64 b.v.k, .int .i64 b.v.i, .string b.v.s, .bool b.v.b]] w fun e w' => e = .returned (.int .i64 (cmpS a b)) ∧ Grew w w' := by
  obtain ⟨w0, hw0⟩ : ∃ w0, (w.alloc (.cells #[.int .i64 a.x, .int .i64 a.v.k, .int .i64 a.v.i, .string a.v.s, .bool a.v.b] 36)).alloc (.cells #[.int .i64 b.x, .int .i64 b.v.k, .int .i64 b.v.i, .string b.v.s, .bool b.v.b] 36) = w0 := ⟨_, rfl⟩
  have hg : Grew w w0 := by rw [← hw0]; exact ((Grew.refl w).alloc _).alloc _
  have hA : LiesS w.heap.size 0 a w0 := by
    rw [← hw0]
    exact (LiesS.new a w 36).below ((Below.refl _ _).alloc (Nat.le_refl _) _) (by simp)
  have hB : LiesS (w.heap.size + 1) 0 b w0 := by
    rw [← hw0]
    have := LiesS.new b (w.alloc (.cells #[.int .i64 a.x, .int .i64 a.v.k, .int .i64 a.v.i, .string a.v.s, .bool a.v.b] 36)) 36
    rwa [World.size_alloc] at this
  have hsz : w0.heap.size = w.heap.size + 2 := by rw [← hw0]; simp
  have HG := Lib.hid hg
  have HA := Lib.hid hA
  have HB := Lib.hid hB
  have HC := Lib.hid (fun w1 => AnyG.cmp_Compare_int layCompare a.x b.x w1)
  change Hid (∀ w1, Calls Tryd.prog 46 _ _ _) at HC
  have HL := Lib.hid (fun (v u : Vd) w1 => vLess_grew v u w1)
  obtain ⟨a0, a1, a2, a3, a4⟩ := hA
  obtain ⟨b0, b1, b2, b3, b4⟩ := hB
  by_cases hx : a.x = b.x
  case neg =>
    have t1 : (a.x != b.x) = true := by rw [bne_iff_ne]; exact hx
    have HX : Hid (cmpS a b = Lib.compareInt a.x b.x) := Lib.hid (by rw [cmpS, if_neg hx])
    clear hx hg
    go_enter Tryd.func48, Tryd.ntmps48
    go_wp2_with fail
    refine (HC.out _).mono ?_
    rintro e w1 ⟨rfl, rfl⟩
    go_wp2_with fail
    go_ret
    exact ⟨by rw [HX.out]; rfl, HG.out⟩
  have t1 : (a.x != b.x) = false := by simp [hx]
  have H1 := Lib.hid (HL.out a.v b.v)
  have H2 := Lib.hid (HL.out b.v a.v)
  cases h1 : lessD a.v b.v
  case true =>
    have HX : Hid (cmpS a b = -1) := Lib.hid (by rw [cmpS, if_pos hx, if_pos h1])
    rw [h1] at H1
    clear hx hg h1
    go_enter Tryd.func48, Tryd.ntmps48
    go_wp2_with fail
    refine (H1.out _).mono ?_
    rintro e w1 ⟨rfl, k1⟩
    have HK := Lib.hid (HG.out.trans k1)
    clear k1
    go_wp2_with fail
    go_ret
    exact ⟨by rw [HX.out]; rfl, HK.out⟩
  have n1 : ¬ lessD a.v b.v = true := by rw [h1]; simp
  rw [h1] at H1
  cases h2 : lessD b.v a.v
  case true =>
    have HX : Hid (cmpS a b = 1) := Lib.hid (by rw [cmpS, if_pos hx, if_neg n1, if_pos h2])
    rw [h2] at H2
    clear hx hg h1 h2 n1
    go_enter Tryd.func48, Tryd.ntmps48
    go_wp2_with fail
    refine (H1.out _).mono ?_
    rintro e w1 ⟨rfl, k1⟩
    have HK := Lib.hid (HG.out.trans k1)
    obtain ⟨c0, c1, c2, c3, c4⟩ := HA.out.below k1.below (by omega)
    obtain ⟨d0, d1, d2, d3, d4⟩ := HB.out.below k1.below (by omega)
    clear k1
    go_wp2_with fail
    refine (H2.out _).mono ?_
    rintro e w2 ⟨rfl, k2⟩
    have HK2 := Lib.hid (HK.out.trans k2)
    clear k2
    go_wp2_with fail
    go_ret
    exact ⟨by rw [HX.out]; rfl, HK2.out⟩
  have n2 : ¬ lessD b.v a.v = true := by rw [h2]; simp
  have HX : Hid (cmpS a b = 0) := Lib.hid (by rw [cmpS, if_pos hx, if_neg n1, if_neg n2])
  rw [h2] at H2
  clear hx hg h1 h2 n1 n2
  go_enter Tryd.func48, Tryd.ntmps48
  go_wp2_with fail
  refine (H1.out _).mono ?_
  rintro e w1 ⟨rfl, k1⟩
  have HK := Lib.hid (HG.out.trans k1)
  obtain ⟨c0, c1, c2, c3, c4⟩ := HA.out.below k1.below (by omega)
  obtain ⟨d0, d1, d2, d3, d4⟩ := HB.out.below k1.below (by omega)
  clear k1
  go_wp2_with fail
  refine (H2.out _).mono ?_
  rintro e w2 ⟨rfl, k2⟩
  have HK2 := Lib.hid (HK.out.trans k2)
  clear k2
  go_wp2_with fail
  go_ret
  exact ⟨by rw [HX.out]; rfl, HK2.out⟩
end Go.Proofs.YtjohiehlnbgdaaaDoor
