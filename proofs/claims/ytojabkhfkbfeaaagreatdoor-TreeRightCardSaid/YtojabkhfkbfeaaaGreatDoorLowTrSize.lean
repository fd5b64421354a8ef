/- Contracts of a lower layer, several texts in one. -/
import Derived.Test.YtojabkhfkbfeaaaGreatDoorTreeCb
import Derived.Test.YtojabkhfkbfeaaaGreatDoorScRefNames
import Derived.Test.YtojabkhfkbfeaaaGreatDoorValRight
import Derived.Test.YtojabkhfkbfeaaaGreatDoorTreeMeas
/- TreeRefSize -/
namespace Go.Proofs.YtojabkhfkbfeaaaGreatDoor
open Go.RowKit
set_option linter.unusedVariables false

set_option maxHeartbeats 2000000 in
theorem refSize_out (a : Option Addr) (len cap : Nat) (L : List Ex) (i : Int) (w : World) (hlen : L.length = len) (hsm : len ≤ 1000000) (h : i < 0 ∨ (len : Int) ≤ i) :
    Calls Tryz.prog 109 #[.slice a len cap, .int .i64 i] w fun e w' => e = .returned (.int .i64 (sizeT L i : Nat)) ∧ Below w.heap.size w w' := by
  have HV : Hid (sizeT L i = 0) := Lib.hid (sizeT_out (by rw [hlen]; exact h))
  clear hlen
  by_cases hn : i < 0
  · have t0 : decide (i < 0) = true := decide_eq_true hn
    clear h
    go_enter Tryz.func109, Tryz.ntmps109
    go_wp2_with fail
    go_ret
    exact ⟨by rw [HV.out]; rfl, Below.refl _ _⟩
  · obtain ⟨n, rfl⟩ : ∃ n : Nat, i = n := ⟨i.toNat, by omega⟩
    have t1 : decide (len ≤ n) = true := decide_eq_true (by omega)
    have t2 : decide ((len : Int) ≤ (n : Int)) = true := decide_eq_true (by omega)
    clear h hn
    go_enter Tryz.func109, Tryz.ntmps109
    go_wp2_with fail
    go_ret
    exact ⟨by rw [HV.out]; rfl, Below.refl _ _⟩

set_option maxHeartbeats 20000000 in
set_option maxRecDepth 100000 in
theorem refSize_calls {T : TypeId} {O : Prop} (a : Option Addr) (len cap : Nat) (L : List Ex) (w0 : World) (h0 : GIn rEx T O 10 w0 a len L) (hl : len ≤ 1000000) :
    ∀ (m : Nat) (i : Int), (i + 1).toNat ≤ m → ∀ w, Below w0.heap.size w0 w → Calls Tryz.prog 109 #[.slice a len cap, .int .i64 i] w fun e w' => e = .returned (.int .i64 (sizeT L i : Nat)) ∧ Below w.heap.size w w' := by
  intro m
  induction m with
  | zero => exact fun i hi w hb => refSize_out a len cap L i w h0.leng hl (.inl (by omega))
  | succ m ih =>
    intro i hi w hb
    by_cases hout : i < 0 ∨ (len : Int) ≤ i
    · exact refSize_out a len cap L i w h0.leng hl hout
    obtain ⟨n, rfl⟩ : ∃ n : Nat, i = n := ⟨i.toNat, by omega⟩
    have hlt : n < len := by omega
    obtain ⟨x, hx⟩ := at_some h0.leng hlt
    obtain ⟨g, off, rfl, hg, hc, hok⟩ := (h0.belowF hb).flat hx
    have c0 : w.cell? ⟨g, off + n * 10, none⟩ = some (.int .i64 x.op) := hc 0 _ rfl
    have c1 : w.cell? ⟨g, off + n * 10 + 1, none⟩ = some (.int .i64 x.a) := hc 1 _ rfl
    have c2 : w.cell? ⟨g, off + n * 10 + 2, none⟩ = some (.int .i64 x.b) := hc 2 _ rfl
    have c3 : w.cell? ⟨g, off + n * 10 + 3, none⟩ = some (.string x.n) := hc 3 _ rfl
    have c4 : w.cell? ⟨g, off + n * 10 + 4, none⟩ = some (.int .i64 x.v.k) := hc 4 _ rfl
    have c5 : w.cell? ⟨g, off + n * 10 + 5, none⟩ = some (.int .i64 x.v.i) := hc 5 _ rfl
    have c6 : w.cell? ⟨g, off + n * 10 + 6, none⟩ = some (.string x.v.s) := hc 6 _ rfl
    have c7 : w.cell? ⟨g, off + n * 10 + 7, none⟩ = some (.bool x.v.b) := hc 7 _ rfl
    have c8 : w.cell? ⟨g, off + n * 10 + 8, none⟩ = some (.int .i64 x.l) := hc 8 _ rfl
    have c9 : w.cell? ⟨g, off + n * 10 + 9, none⟩ = some (.int .i64 x.c) := hc 9 _ rfl
    have hn : x.n.size ≤ 9223372036854775807 := hok.1
    have hs : x.v.s.size ≤ 9223372036854775807 := hok.2.1
    have HB : Hid (Below w.heap.size w ((w.alloc (.cells #[.int .i64 x.op, .int .i64 x.a, .int .i64 x.b, .string x.n, .int .i64 x.v.k, .int .i64 x.v.i, .string x.v.s, .bool x.v.b, .int .i64 x.l, .int .i64 x.c] 53)).alloc (.cells #[.int .i64 0, .int .i64 0, .string ⟨#[]⟩, .bool false] 41))) := Lib.hid (((Below.refl w.heap.size w).alloc (Nat.le_refl _) _).alloc (by simp) _)
    have HK0 : Hid (Below (w.heap.size + 2) ((w.alloc (.cells #[.int .i64 x.op, .int .i64 x.a, .int .i64 x.b, .string x.n, .int .i64 x.v.k, .int .i64 x.v.i, .string x.v.s, .bool x.v.b, .int .i64 x.l, .int .i64 x.c] 53)).alloc (.cells #[.int .i64 0, .int .i64 0, .string ⟨#[]⟩, .bool false] 41)) ((w.alloc (.cells #[.int .i64 x.op, .int .i64 x.a, .int .i64 x.b, .string x.n, .int .i64 x.v.k, .int .i64 x.v.i, .string x.v.s, .bool x.v.b, .int .i64 x.l, .int .i64 x.c] 53)).alloc (.cells #[.int .i64 0, .int .i64 0, .string ⟨#[]⟩, .bool false] 41))) := Lib.hid (Below.refl _ _)
    have HBK : Hid (∀ w1, Hid (Below (w.heap.size + 2) ((w.alloc (.cells #[.int .i64 x.op, .int .i64 x.a, .int .i64 x.b, .string x.n, .int .i64 x.v.k, .int .i64 x.v.i, .string x.v.s, .bool x.v.b, .int .i64 x.l, .int .i64 x.c] 53)).alloc (.cells #[.int .i64 0, .int .i64 0, .string ⟨#[]⟩, .bool false] 41)) w1) → Below w.heap.size w w1) := Lib.hid (fun _ h => HB.out.trans (h.out.mono (Nat.le_add_right _ 2)))
    have HI : Hid (∀ (i : Int), i < n → ∀ w1, Hid (Below (w.heap.size + 2) ((w.alloc (.cells #[.int .i64 x.op, .int .i64 x.a, .int .i64 x.b, .string x.n, .int .i64 x.v.k, .int .i64 x.v.i, .string x.v.s, .bool x.v.b, .int .i64 x.l, .int .i64 x.c] 53)).alloc (.cells #[.int .i64 0, .int .i64 0, .string ⟨#[]⟩, .bool false] 41)) w1) → Calls Tryz.prog 109 #[.slice (some ⟨g, off, none⟩) len cap, .int .i64 i] w1 fun e w' => e = .returned (.int .i64 (sizeT L i : Nat)) ∧ Below w1.heap.size w1 w') := Lib.hid (fun i hi2 w1 h1 => ih i (by omega) w1 (hb.trans ((HBK.out _ h1).mono hb.size)))
    have HS := Lib.hid (sizeT_at hx)
    have HR := Lib.hid (fun w1 => refVRight_calls x.v.k x.v.i x.v.s x.v.b w1 hs)
    have HR : Hid (∀ w1, Calls Tryz.prog 16 #[.agg #[.int .i64 x.v.k, .int .i64 x.v.i, .string x.v.s, .bool x.v.b]] w1 fun e w' => e = .returned (.bool (rightV x.v)) ∧ Below w1.heap.size w1 w') := HR
    have HN := Lib.hid (fun w1 => refName_calls x.n w1 hn)
    have q1 : ∀ w, (Op.equalIn 10000 41 (.agg #[.int .i64 x.v.k, .int .i64 x.v.i, .string x.v.s, .bool x.v.b]) (.agg #[.int .i64 0, .int .i64 0, .string ⟨#[]⟩, .bool false])).run Tryz.prog w = .ok (zeroV x.v) w := fun w => eqIn x.v.k x.v.i x.v.s x.v.b 0 0 ⟨#[]⟩ false w
    have qg := guardV
    have hle := sizeT_le L n
    have i1 : decide ((n : Int) < 0) = false := decide_eq_false (by omega)
    have i2 : decide (len ≤ n) = false := decide_eq_false (by omega)
    have i3 : -9223372036854775808 ≤ (n : Int) - 1 := by omega
    have i4 : (n : Int) - 1 ≤ 9223372036854775807 := by omega
    clear ih h0 hb hc hx hok hi hout
    by_cases h1 : x.op = 1
    case pos =>
      have t1 : (x.op == 1) = true := by simp [h1]
      have HS1 := HS.out
      rw [if_pos h1] at HS1
      replace HS1 := Lib.hid HS1
      clear h1 HS
      by_cases ha : x.a = 0
      case neg =>
        have ta : (x.a != 0) = true := by rw [bne_iff_ne]; exact ha
        have HV : Hid (sizeT L n = 0) := Lib.hid (by rw [HS1.out, if_neg (fun h => ha h.1)])
        go_enter Tryz.func109, Tryz.ntmps109
        go_wp2_with fail
        go_ret
        exact ⟨by first | (rw [HV.out]; rfl) | rfl, HBK.out _ HK0⟩
      have ta : (x.a != 0) = false := by simp [ha]
      have Ha_ := Lib.hid ha
      clear ha
      by_cases hb : x.b = 0
      case neg =>
        have tb : (x.b != 0) = true := by rw [bne_iff_ne]; exact hb
        have HV : Hid (sizeT L n = 0) := Lib.hid (by rw [HS1.out, if_neg (fun h => hb h.2.1)])
        go_enter Tryz.func109, Tryz.ntmps109
        go_wp2_with fail
        go_ret
        exact ⟨by first | (rw [HV.out]; rfl) | rfl, HBK.out _ HK0⟩
      have tb : (x.b != 0) = false := by simp [hb]
      have Hb_ := Lib.hid hb
      clear hb
      cases en : emptyB x.n
      case false =>
        have tn : x.n.toList.isEmpty = false := en
        have HV : Hid (sizeT L n = 0) := Lib.hid (by rw [HS1.out, en, if_neg (by simp)])
        go_enter Tryz.func109, Tryz.ntmps109
        go_wp2_with fail
        go_ret
        exact ⟨by first | (rw [HV.out]; rfl) | rfl, HBK.out _ HK0⟩
      have tn : x.n.toList.isEmpty = true := en
      cases er : rightV x.v
      case false =>
        rw [er] at HR
        have HV : Hid (sizeT L n = 0) := Lib.hid (by rw [HS1.out, er, if_neg (by simp)])
        go_enter Tryz.func109, Tryz.ntmps109
        go_wp2_with fail
        refine (HR.out _).mono ?_
        rintro e w1 ⟨rfl, k1⟩
        have HK1 := Lib.hid (below2_step HK0.out (by simp) k1)
        clear k1
        go_wp2_with fail
        go_ret
        exact ⟨by first | (rw [HV.out]; rfl) | rfl, HBK.out _ HK1⟩
      rw [er] at HR
      have HV : Hid (sizeT L n = 1) := Lib.hid (by rw [HS1.out, en, er, if_pos ⟨Ha_.out, Hb_.out, rfl, rfl⟩])
      go_enter Tryz.func109, Tryz.ntmps109
      go_wp2_with fail
      refine (HR.out _).mono ?_
      rintro e w1 ⟨rfl, k1⟩
      have HK1 := Lib.hid (below2_step HK0.out (by simp) k1)
      clear k1
      go_wp2_with fail
      go_ret
      exact ⟨by first | (rw [HV.out]; rfl) | rfl, HBK.out _ HK1⟩
    have t1 : (x.op == 1) = false := by simpa using h1
    by_cases h17 : x.op = 17
    case pos =>
      have t2 : (x.op == 17) = true := by simp [h17]
      have HS1 := HS.out
      rw [if_neg h1, if_pos h17] at HS1
      replace HS1 := Lib.hid HS1
      clear h1 h17 HS
      by_cases ha : x.a = 0
      case neg =>
        have ta : (x.a != 0) = true := by rw [bne_iff_ne]; exact ha
        have HV : Hid (sizeT L n = 0) := Lib.hid (by rw [HS1.out, if_neg (fun h => ha h.1)])
        go_enter Tryz.func109, Tryz.ntmps109
        go_wp2_with fail
        go_ret
        exact ⟨by first | (rw [HV.out]; rfl) | rfl, HBK.out _ HK0⟩
      have ta : (x.a != 0) = false := by simp [ha]
      have Ha_ := Lib.hid ha
      clear ha
      by_cases hb : x.b = 0
      case neg =>
        have tb : (x.b != 0) = true := by rw [bne_iff_ne]; exact hb
        have HV : Hid (sizeT L n = 0) := Lib.hid (by rw [HS1.out, if_neg (fun h => hb h.2.1)])
        go_enter Tryz.func109, Tryz.ntmps109
        go_wp2_with fail
        go_ret
        exact ⟨by first | (rw [HV.out]; rfl) | rfl, HBK.out _ HK0⟩
      have tb : (x.b != 0) = false := by simp [hb]
      have Hb_ := Lib.hid hb
      clear hb
      cases em : nameB x.n
      case false =>
        rw [em] at HN
        have HV : Hid (sizeT L n = 0) := Lib.hid (by rw [HS1.out, em, if_neg (by simp)])
        go_enter Tryz.func109, Tryz.ntmps109
        go_wp2_with fail
        refine (HN.out _).mono ?_
        rintro e w1 ⟨rfl, k1⟩
        have HK1 := Lib.hid (below2_step HK0.out (by simp) k1)
        clear k1
        go_wp2_with fail
        go_ret
        exact ⟨by first | (rw [HV.out]; rfl) | rfl, HBK.out _ HK1⟩
      rw [em] at HN
      cases ez : zeroV x.v
      case false =>
        rw [ez] at q1
        have HV : Hid (sizeT L n = 0) := Lib.hid (by rw [HS1.out, em, ez, if_neg (by simp)])
        go_enter Tryz.func109, Tryz.ntmps109
        go_wp2_with fail
        refine (HN.out _).mono ?_
        rintro e w1 ⟨rfl, k1⟩
        have HK1 := Lib.hid (below2_step HK0.out (by simp) k1)
        clear k1
        have z0_1_4 := (box2 HK1.out).1 4 _ rfl
        have z0_1_5 := (box2 HK1.out).1 5 _ rfl
        have z0_1_6 := (box2 HK1.out).1 6 _ rfl
        have z0_1_7 := (box2 HK1.out).1 7 _ rfl
        have z0_2_0 := (box2 HK1.out).2 0 _ rfl
        have z0_2_1 := (box2 HK1.out).2 1 _ rfl
        have z0_2_2 := (box2 HK1.out).2 2 _ rfl
        have z0_2_3 := (box2 HK1.out).2 3 _ rfl
        go_wp2_with fail
        go_ret
        exact ⟨by first | (rw [HV.out]; rfl) | rfl, HBK.out _ HK1⟩
      rw [ez] at q1
      have HV : Hid (sizeT L n = 1) := Lib.hid (by rw [HS1.out, em, ez, if_pos ⟨Ha_.out, Hb_.out, rfl, rfl⟩])
      go_enter Tryz.func109, Tryz.ntmps109
      go_wp2_with fail
      refine (HN.out _).mono ?_
      rintro e w1 ⟨rfl, k1⟩
      have HK1 := Lib.hid (below2_step HK0.out (by simp) k1)
      clear k1
      have z0_1_4 := (box2 HK1.out).1 4 _ rfl
      have z0_1_5 := (box2 HK1.out).1 5 _ rfl
      have z0_1_6 := (box2 HK1.out).1 6 _ rfl
      have z0_1_7 := (box2 HK1.out).1 7 _ rfl
      have z0_2_0 := (box2 HK1.out).2 0 _ rfl
      have z0_2_1 := (box2 HK1.out).2 1 _ rfl
      have z0_2_2 := (box2 HK1.out).2 2 _ rfl
      have z0_2_3 := (box2 HK1.out).2 3 _ rfl
      go_wp2_with fail
      go_ret
      exact ⟨by first | (rw [HV.out]; rfl) | rfl, HBK.out _ HK1⟩
    have t2 : (x.op == 17) = false := by simpa using h17
    have HS1 := HS.out
    rw [if_neg h1, if_neg h17] at HS1
    replace HS1 := Lib.hid HS1
    clear h1 h17 HS
    by_cases h4 : x.op < 4
    case pos =>
      have t4 : decide (x.op < 4) = true := decide_eq_true h4
      have HV : Hid (sizeT L n = 0) := Lib.hid (by rw [HS1.out, if_pos (.inl h4)])
      go_enter Tryz.func109, Tryz.ntmps109
      go_wp2_with fail
      go_ret
      exact ⟨by first | (rw [HV.out]; rfl) | rfl, HBK.out _ HK0⟩
    have t4 : decide (x.op < 4) = false := decide_eq_false h4
    by_cases h16 : 16 < x.op
    case pos =>
      have t16 : decide (16 < x.op) = true := decide_eq_true h16
      have HV : Hid (sizeT L n = 0) := Lib.hid (by rw [HS1.out, if_pos (.inr (.inl h16))])
      go_enter Tryz.func109, Tryz.ntmps109
      go_wp2_with fail
      go_ret
      exact ⟨by first | (rw [HV.out]; rfl) | rfl, HBK.out _ HK0⟩
    have t16 : decide (16 < x.op) = false := decide_eq_false h16
    cases en : emptyB x.n
    case false =>
      have tn : x.n.toList.isEmpty = false := en
      have HV : Hid (sizeT L n = 0) := Lib.hid (by rw [HS1.out, en, if_pos (by simp)])
      go_enter Tryz.func109, Tryz.ntmps109
      go_wp2_with fail
      go_ret
      exact ⟨by first | (rw [HV.out]; rfl) | rfl, HBK.out _ HK0⟩
    have tn : x.n.toList.isEmpty = true := en
    cases ez : zeroV x.v
    case false =>
      rw [ez] at q1
      have HV : Hid (sizeT L n = 0) := Lib.hid (by rw [HS1.out, ez, if_pos (by simp)])
      go_enter Tryz.func109, Tryz.ntmps109
      go_wp2_with fail
      go_ret
      exact ⟨by first | (rw [HV.out]; rfl) | rfl, HBK.out _ HK0⟩
    rw [ez] at q1
    have HS2 := HS1.out
    rw [en, ez, if_neg (by simp; omega)] at HS2
    replace HS2 := Lib.hid HS2
    clear HS1
    have HI1 := Lib.hid (fun w1 h1 => HI.out ((n : Int) - 1) (by omega) w1 h1)
    have hj1 : (sizeT L ((n : Int) - 1) : Int) ≤ n := by
      cases n with
      | zero => rw [sizeT_out (.inl (by omega))]; omega
      | succ j => have := sizeT_le L j; rw [show (((j + 1 : Nat) : Int) - 1) = (j : Int) by omega]; omega
    by_cases h5 : x.op ≤ 5
    case pos =>
      have t5 : decide (x.op ≤ 5) = true := decide_eq_true h5
      have HS3 := HS2.out
      rw [if_pos h5] at HS3
      replace HS3 := Lib.hid HS3
      clear HS2 h5
      by_cases ha : x.a = (n : Int) - 1
      case neg =>
        have ta : (x.a != (n : Int) - 1) = true := by rw [bne_iff_ne]; exact ha
        have HV : Hid (sizeT L n = 0) := Lib.hid (by rw [HS3.out, if_neg (fun h => ha h.1)])
        go_enter Tryz.func109, Tryz.ntmps109
        go_wp2_with fail
        go_ret
        exact ⟨by first | (rw [HV.out]; rfl) | rfl, HBK.out _ HK0⟩
      have ta : (x.a != (n : Int) - 1) = false := by simp [ha]
      have Ha_ := Lib.hid ha
      clear ha
      by_cases hb : x.b = 0
      case neg =>
        have tb : (x.b != 0) = true := by rw [bne_iff_ne]; exact hb
        have HV : Hid (sizeT L n = 0) := Lib.hid (by rw [HS3.out, if_neg (fun h => hb h.2.1)])
        go_enter Tryz.func109, Tryz.ntmps109
        go_wp2_with fail
        go_ret
        exact ⟨by first | (rw [HV.out]; rfl) | rfl, HBK.out _ HK0⟩
      have tb : (x.b != 0) = false := by simp [hb]
      have Hb_ := Lib.hid hb
      clear hb
      generalize sizeT L ((n : Int) - 1) = u at HI1 HS3 hj1
      by_cases hu : u = 0
      case pos =>
        subst hu
        have HV : Hid (sizeT L n = 0) := Lib.hid (by rw [HS3.out, if_neg (fun h => h.2.2 rfl)])
        go_enter Tryz.func109, Tryz.ntmps109
        go_wp2_with fail
        refine (HI1.out _ HK0).mono ?_
        rintro e w1 ⟨rfl, k1⟩
        have HK1 := Lib.hid (below2_step HK0.out (by simp) k1)
        clear k1
        go_wp2_with fail
        go_ret
        exact ⟨by first | (rw [HV.out]; rfl) | rfl, HBK.out _ HK1⟩
      have tu : ((u : Int) == 0) = false := by rw [beq_eq_false_iff_ne]; omega
      have hu0 : ¬ (u = 0) := hu
      have HV : Hid (sizeT L n = u + 1) := Lib.hid (by rw [HS3.out, if_pos ⟨Ha_.out, Hb_.out, hu⟩])
      go_enter Tryz.func109, Tryz.ntmps109
      go_wp2_with fail
      refine (HI1.out _ HK0).mono ?_
      rintro e w1 ⟨rfl, k1⟩
      have HK1 := Lib.hid (below2_step HK0.out (by simp) k1)
      clear k1
      go_wp2_with fail
      go_ret
      exact ⟨by first | (rw [HV.out]; rfl) | rfl, HBK.out _ HK1⟩
    have t5 : decide (x.op ≤ 5) = false := decide_eq_false h5
    have HS3 := HS2.out
    rw [if_neg h5] at HS3
    replace HS3 := Lib.hid HS3
    clear HS2 h5
    have HI2 := Lib.hid (fun w1 h1 => HI.out ((n : Int) - 1 - (sizeT L ((n : Int) - 1) : Nat)) (by omega) w1 h1)
    have hj2 : (sizeT L ((n : Int) - 1 - (sizeT L ((n : Int) - 1) : Nat)) : Int) ≤ n := by
      by_cases hneg : (n : Int) - 1 - (sizeT L ((n : Int) - 1) : Nat) < 0
      · rw [sizeT_out (.inl hneg)]; omega
      · have h3 := sizeT_le L ((n : Int) - 1 - (sizeT L ((n : Int) - 1) : Nat)).toNat
        rw [show ((((n : Int) - 1 - (sizeT L ((n : Int) - 1) : Nat)).toNat : Nat) : Int) = (n : Int) - 1 - (sizeT L ((n : Int) - 1) : Nat) by omega] at h3
        omega
    have HS4 : Hid (∀ u, u = sizeT L ((n : Int) - 1) → sizeT L n = if u ≠ 0 ∧ x.b = (n : Int) - 1 ∧ x.a = (n : Int) - 1 - (u : Nat) ∧ sizeT L ((n : Int) - 1 - (u : Nat)) ≠ 0 then sizeT L ((n : Int) - 1 - (u : Nat)) + u + 1 else 0) := Lib.hid (fun u hu => by subst hu; exact HS3.out)
    obtain ⟨u, hu⟩ : ∃ u, u = sizeT L ((n : Int) - 1) := ⟨_, rfl⟩
    have HS5 := Lib.hid (HS4.out u hu)
    rw [← hu] at HI1 HI2 hj1 hj2
    clear hu HS4 HS3
    by_cases hu : u = 0
    case pos =>
      subst hu
      have HV : Hid (sizeT L n = 0) := Lib.hid (by rw [HS5.out, if_neg (fun h => h.1 rfl)])
      go_enter Tryz.func109, Tryz.ntmps109
      go_wp2_with fail
      refine (HI1.out _ HK0).mono ?_
      rintro e w1 ⟨rfl, k1⟩
      have HK1 := Lib.hid (below2_step HK0.out (by simp) k1)
      clear k1
      go_wp2_with fail
      go_ret
      exact ⟨by first | (rw [HV.out]; rfl) | rfl, HBK.out _ HK1⟩
    have tu : ((u : Int) == 0) = false := by rw [beq_eq_false_iff_ne]; omega
    have hu0 : ¬ (u = 0) := hu
    have i5 : -9223372036854775808 ≤ (n : Int) - 1 - (u : Int) := by omega
    have i6 : (n : Int) - 1 - (u : Int) ≤ 9223372036854775807 := by omega
    by_cases hb : x.b = (n : Int) - 1
    case neg =>
      have tb : (x.b != (n : Int) - 1) = true := by rw [bne_iff_ne]; exact hb
      have HV : Hid (sizeT L n = 0) := Lib.hid (by rw [HS5.out, if_neg (fun h => hb h.2.1)])
      go_enter Tryz.func109, Tryz.ntmps109
      go_wp2_with fail
      refine (HI1.out _ HK0).mono ?_
      rintro e w1 ⟨rfl, k1⟩
      have HK1 := Lib.hid (below2_step HK0.out (by simp) k1)
      clear k1
      have z0_1_2 := (box2 HK1.out).1 2 _ rfl
      go_wp2_with fail
      go_ret
      exact ⟨by first | (rw [HV.out]; rfl) | rfl, HBK.out _ HK1⟩
    have tb : (x.b != (n : Int) - 1) = false := by simp [hb]
    have Hb_ := Lib.hid hb
    clear hb
    by_cases ha : x.a = (n : Int) - 1 - (u : Nat)
    case neg =>
      have ta : (x.a != (n : Int) - 1 - (u : Int)) = true := by rw [bne_iff_ne]; exact ha
      have HV : Hid (sizeT L n = 0) := Lib.hid (by rw [HS5.out, if_neg (fun h => ha h.2.2.1)])
      go_enter Tryz.func109, Tryz.ntmps109
      go_wp2_with fail
      refine (HI1.out _ HK0).mono ?_
      rintro e w1 ⟨rfl, k1⟩
      have HK1 := Lib.hid (below2_step HK0.out (by simp) k1)
      clear k1
      have z0_1_1 := (box2 HK1.out).1 1 _ rfl
      have z0_1_2 := (box2 HK1.out).1 2 _ rfl
      go_wp2_with fail
      go_ret
      exact ⟨by first | (rw [HV.out]; rfl) | rfl, HBK.out _ HK1⟩
    have ta : (x.a != (n : Int) - 1 - (u : Int)) = false := by simp [ha]
    have Ha_ := Lib.hid ha
    clear ha
    generalize sizeT L ((n : Int) - 1 - (u : Nat)) = v at HI2 HS5 hj2
    by_cases hv : v = 0
    case pos =>
      subst hv
      have HV : Hid (sizeT L n = 0) := Lib.hid (by rw [HS5.out, if_neg (fun h => h.2.2.2 rfl)])
      go_enter Tryz.func109, Tryz.ntmps109
      go_wp2_with fail
      refine (HI1.out _ HK0).mono ?_
      rintro e w1 ⟨rfl, k1⟩
      have HK1 := Lib.hid (below2_step HK0.out (by simp) k1)
      clear k1
      have z0_1_1 := (box2 HK1.out).1 1 _ rfl
      have z0_1_2 := (box2 HK1.out).1 2 _ rfl
      go_wp2_with fail
      refine (HI2.out _ HK1).mono ?_
      rintro e w2 ⟨rfl, k2⟩
      have HK2 := Lib.hid (below2_step HK1.out (by simp) k2)
      clear k2
      go_wp2_with fail
      go_ret
      exact ⟨by first | (rw [HV.out]; rfl) | rfl, HBK.out _ HK2⟩
    have tv : ((v : Int) == 0) = false := by rw [beq_eq_false_iff_ne]; omega
    have hv0 : ¬ (v = 0) := hv
    have i7 : (v : Int) + (u : Int) + 1 ≤ 9223372036854775807 := by omega
    have HV : Hid (sizeT L n = v + u + 1) := Lib.hid (by rw [HS5.out, if_pos ⟨hu, Hb_.out, Ha_.out, hv⟩])
    go_enter Tryz.func109, Tryz.ntmps109
    go_wp2_with fail
    refine (HI1.out _ HK0).mono ?_
    rintro e w1 ⟨rfl, k1⟩
    have HK1 := Lib.hid (below2_step HK0.out (by simp) k1)
    clear k1
    have z0_1_1 := (box2 HK1.out).1 1 _ rfl
    have z0_1_2 := (box2 HK1.out).1 2 _ rfl
    go_wp2_with fail
    refine (HI2.out _ HK1).mono ?_
    rintro e w2 ⟨rfl, k2⟩
    have HK2 := Lib.hid (below2_step HK1.out (by simp) k2)
    clear k2
    go_wp2_with fail
    go_ret
    exact ⟨by first | (rw [HV.out]; rfl) | rfl, HBK.out _ HK2⟩
end Go.Proofs.YtojabkhfkbfeaaaGreatDoor

/- TreeRefDepth -/
namespace Go.Proofs.YtojabkhfkbfeaaaGreatDoor
open Go.RowKit
set_option linter.unusedVariables false

theorem depthT_le (l : List Ex) : ∀ (n : Nat), depthT l n ≤ n + 1 := by
  intro n
  induction n using Nat.strongRecOn with
  | ind n ih =>
    have hI : ∀ i : Int, getS ((accT nodeD l []).take n) i ≤ n := fun i => by
      by_cases h0 : i < 0
      · unfold getS; rw [if_pos h0]; omega
      · by_cases hn : i < n
        · rw [getS_take hn]
          have := ih i.toNat (by omega)
          unfold depthT at this
          rw [show ((i.toNat : Nat) : Int) = i by omega] at this
          omega
        · unfold getS
          rw [if_neg h0, List.getD, List.getElem?_eq_none (by rw [List.length_take]; omega)]
          exact Nat.zero_le _
    cases h : l[n]? with
    | none =>
      have hl := List.getElem?_eq_none_iff.1 h
      unfold depthT getS
      rw [if_neg (by omega), List.getD, List.getElem?_eq_none (by rw [acc_len, List.length_nil]; omega)]
      exact Nat.zero_le _
    | some x =>
      have e : depthT l n = nodeD ((accT nodeD l []).take n) x := by
        rw [← acc_at nodeD h]
        unfold depthT getS
        rw [if_neg (by omega)]; rfl
      rw [e, nodeD]
      have h1 := hI x.a
      have h2 := hI x.b
      split
      · omega
      · split <;> omega

set_option maxHeartbeats 20000000 in
set_option maxRecDepth 100000 in
theorem refDepth_calls {T : TypeId} {O : Prop} (a : Option Addr) (len cap : Nat) (L : List Ex) (w0 : World) (h0 : GIn rEx T O 10 w0 a len L) (hl : len ≤ 1000000) :
    ∀ (m n : Nat), n < m → sizeT L n ≠ 0 → ∀ w, Below w0.heap.size w0 w → Calls Tryz.prog 110 #[.slice a len cap, .int .i64 n] w fun e w' => e = .returned (.int .i64 (depthT L n : Nat)) ∧ Below w.heap.size w w' := by
  intro m
  induction m with
  | zero => exact fun n hn => absurd hn (by omega)
  | succ m ih =>
    intro n hi hz w hb
    have hlt : n < len := by
      refine Nat.lt_of_not_le (fun h => hz (sizeT_out (.inr (by rw [h0.leng]; omega))))
    obtain ⟨x, hx⟩ := at_some h0.leng hlt
    obtain ⟨g, off, rfl, hg, hc, hok⟩ := (h0.belowF hb).flat hx
    have c0 : w.cell? ⟨g, off + n * 10, none⟩ = some (.int .i64 x.op) := hc 0 _ rfl
    have c1 : w.cell? ⟨g, off + n * 10 + 1, none⟩ = some (.int .i64 x.a) := hc 1 _ rfl
    have c2 : w.cell? ⟨g, off + n * 10 + 2, none⟩ = some (.int .i64 x.b) := hc 2 _ rfl
    have c3 : w.cell? ⟨g, off + n * 10 + 3, none⟩ = some (.string x.n) := hc 3 _ rfl
    have c4 : w.cell? ⟨g, off + n * 10 + 4, none⟩ = some (.int .i64 x.v.k) := hc 4 _ rfl
    have c5 : w.cell? ⟨g, off + n * 10 + 5, none⟩ = some (.int .i64 x.v.i) := hc 5 _ rfl
    have c6 : w.cell? ⟨g, off + n * 10 + 6, none⟩ = some (.string x.v.s) := hc 6 _ rfl
    have c7 : w.cell? ⟨g, off + n * 10 + 7, none⟩ = some (.bool x.v.b) := hc 7 _ rfl
    have c8 : w.cell? ⟨g, off + n * 10 + 8, none⟩ = some (.int .i64 x.l) := hc 8 _ rfl
    have c9 : w.cell? ⟨g, off + n * 10 + 9, none⟩ = some (.int .i64 x.c) := hc 9 _ rfl
    have hn : x.n.size ≤ 9223372036854775807 := hok.1
    have hs : x.v.s.size ≤ 9223372036854775807 := hok.2.1
    have HB : Hid (Below w.heap.size w (w.alloc (.cells #[.int .i64 x.op, .int .i64 x.a, .int .i64 x.b, .string x.n, .int .i64 x.v.k, .int .i64 x.v.i, .string x.v.s, .bool x.v.b, .int .i64 x.l, .int .i64 x.c] 53))) := Lib.hid ((Below.refl w.heap.size w).alloc (Nat.le_refl _) _)
    have HK0 : Hid (Below (w.heap.size + 1) (w.alloc (.cells #[.int .i64 x.op, .int .i64 x.a, .int .i64 x.b, .string x.n, .int .i64 x.v.k, .int .i64 x.v.i, .string x.v.s, .bool x.v.b, .int .i64 x.l, .int .i64 x.c] 53)) (w.alloc (.cells #[.int .i64 x.op, .int .i64 x.a, .int .i64 x.b, .string x.n, .int .i64 x.v.k, .int .i64 x.v.i, .string x.v.s, .bool x.v.b, .int .i64 x.l, .int .i64 x.c] 53))) := Lib.hid (Below.refl _ _)
    have HBK : Hid (∀ w1, Hid (Below (w.heap.size + 1) (w.alloc (.cells #[.int .i64 x.op, .int .i64 x.a, .int .i64 x.b, .string x.n, .int .i64 x.v.k, .int .i64 x.v.i, .string x.v.s, .bool x.v.b, .int .i64 x.l, .int .i64 x.c] 53)) w1) → Below w.heap.size w w1) := Lib.hid (fun _ h => HB.out.trans (h.out.mono (Nat.le_succ _)))
    have HI : Hid (∀ (j : Nat), j < n → sizeT L j ≠ 0 → ∀ w1, Hid (Below (w.heap.size + 1) (w.alloc (.cells #[.int .i64 x.op, .int .i64 x.a, .int .i64 x.b, .string x.n, .int .i64 x.v.k, .int .i64 x.v.i, .string x.v.s, .bool x.v.b, .int .i64 x.l, .int .i64 x.c] 53)) w1) → Calls Tryz.prog 110 #[.slice (some ⟨g, off, none⟩) len cap, .int .i64 j] w1 fun e w' => e = .returned (.int .i64 (depthT L j : Nat)) ∧ Below w1.heap.size w1 w') := Lib.hid (fun j hj hzj w1 h1 => ih j (by omega) hzj w1 (hb.trans ((HBK.out _ h1).mono hb.size)))
    have hp := sizeT_parts hx hz
    have HX := Lib.hid hx
    clear ih h0 hb hc hx hok hz
    rcases hp with hp | ⟨h4, h5, ha, hb, hza⟩ | ⟨h6, h16, hb, ha0, hab, hza, hzb⟩
    · have HV := Lib.hid (depthT_leaf HX.out hp)
      by_cases h1 : x.op = 1
      · have t1 : (x.op == 1) = true := by simp [h1]
        clear h1 hp
        go_enter Tryz.func110, Tryz.ntmps110
        go_wp2_with fail
        go_ret
        exact ⟨by rw [HV.out]; rfl, HBK.out _ HK0⟩
      · have t1 : (x.op == 1) = false := by simpa using h1
        have t2 : (x.op == 17) = true := by rw [beq_iff_eq]; omega
        clear h1 hp
        go_enter Tryz.func110, Tryz.ntmps110
        go_wp2_with fail
        go_ret
        exact ⟨by rw [HV.out]; rfl, HBK.out _ HK0⟩
    · have hap : ¬ x.a < 0 := fun h => hza (sizeT_out (.inl h))
      have hd := depthT_at HX.out (by omega) (by omega)
      rw [if_neg (by omega), if_neg (by omega)] at hd
      have HV := Lib.hid hd
      clear hd
      obtain ⟨j, hj⟩ : ∃ j : Nat, x.a = j := ⟨x.a.toNat, by omega⟩
      rw [hj] at hza HV
      have HI1 := Lib.hid (fun w1 h1 => HI.out j (by omega) hza w1 h1)
      have t1 : (x.op == 1) = false := by rw [beq_eq_false_iff_ne]; omega
      have t2 : (x.op == 17) = false := by rw [beq_eq_false_iff_ne]; omega
      have t5 : decide (5 < x.op) = false := decide_eq_false (by omega)
      have hjl : j < 1000000 := by omega
      have hd2 : depthT L j ≤ j + 1 := depthT_le L j
      rw [hj] at c1 HK0 HBK HB HI1
      clear h4 h5 ha hb hza HI HX
      generalize depthT L j = u at HI1 HV hd2
      go_enter Tryz.func110, Tryz.ntmps110
      go_wp2_with fail
      refine (HI1.out _ HK0).mono ?_
      rintro e w1 ⟨rfl, k1⟩
      have HK1 := Lib.hid (below1_step HK0.out (by simp) k1)
      clear k1
      have z0 := box1 HK1.out 0 _ rfl
      go_wp2_with fail
      go_ret
      exact ⟨by rw [HV.out]; rfl, HBK.out _ HK1⟩
    · have hd := depthT_at HX.out (by omega) (by omega)
      rw [if_neg (by omega), if_pos (by omega)] at hd
      obtain ⟨j, hj⟩ : ∃ j : Nat, x.a = j := ⟨x.a.toNat, by omega⟩
      obtain ⟨q, hq⟩ : ∃ q : Nat, x.b = q := ⟨x.b.toNat, by omega⟩
      rw [hj] at hza hd
      rw [hq] at hzb hd
      have HV := Lib.hid hd
      clear hd
      have HI1 := Lib.hid (fun w1 h1 => HI.out j (by omega) hza w1 h1)
      have HI2 := Lib.hid (fun w1 h1 => HI.out q (by omega) hzb w1 h1)
      have t1 : (x.op == 1) = false := by rw [beq_eq_false_iff_ne]; omega
      have t2 : (x.op == 17) = false := by rw [beq_eq_false_iff_ne]; omega
      have t5 : decide (5 < x.op) = true := decide_eq_true (by omega)
      have hd1 : depthT L j ≤ 1000001 := by have := depthT_le L j; omega
      have hd2 : depthT L q ≤ 1000001 := by have := depthT_le L q; omega
      rw [hj] at c1 HK0 HBK HB HI1 HI2
      rw [hq] at c2 HK0 HBK HB HI1 HI2
      clear h6 h16 ha0 hab hza hzb hb HI HX
      generalize depthT L j = u at HI1 HV hd1
      generalize depthT L q = v at HI2 HV hd2
      by_cases hmx : u < v
      all_goals have hmy : decide ((u : Int) < (v : Int)) = decide (u < v) := by rw [decide_eq_decide]; omega
      case pos =>
        have HV2 : Hid (depthT L n = v + 1) := Lib.hid (by rw [HV.out]; omega)
        rw [decide_eq_true hmx] at hmy
        have hmz : (u : Int) < (v : Int) := by omega
        go_enter Tryz.func110, Tryz.ntmps110
        go_wp2_with fail
        refine (HI1.out _ HK0).mono ?_
        rintro e w1 ⟨rfl, k1⟩
        have HK1 := Lib.hid (below1_step HK0.out (by simp) k1)
        clear k1
        have z0 := box1 HK1.out 0 _ rfl
        have z2 := box1 HK1.out 2 _ rfl
        go_wp2_with fail
        refine (HI2.out _ HK1).mono ?_
        rintro e w2 ⟨rfl, k2⟩
        have HK2 := Lib.hid (below1_step HK1.out (by simp) k2)
        clear k2
        go_wp2_with fail
        go_ret
        exact ⟨by rw [HV2.out]; rfl, HBK.out _ HK2⟩
      case neg =>
        have HV2 : Hid (depthT L n = u + 1) := Lib.hid (by rw [HV.out]; omega)
        rw [decide_eq_false hmx] at hmy
        have hmz : ¬ (u : Int) < (v : Int) := by omega
        go_enter Tryz.func110, Tryz.ntmps110
        go_wp2_with fail
        refine (HI1.out _ HK0).mono ?_
        rintro e w1 ⟨rfl, k1⟩
        have HK1 := Lib.hid (below1_step HK0.out (by simp) k1)
        clear k1
        have z0 := box1 HK1.out 0 _ rfl
        have z2 := box1 HK1.out 2 _ rfl
        go_wp2_with fail
        refine (HI2.out _ HK1).mono ?_
        rintro e w2 ⟨rfl, k2⟩
        have HK2 := Lib.hid (below1_step HK1.out (by simp) k2)
        clear k2
        go_wp2_with fail
        go_ret
        exact ⟨by rw [HV2.out]; rfl, HBK.out _ HK2⟩

set_option maxHeartbeats 2000000 in
set_option maxRecDepth 100000 in
theorem whole_calls {T : TypeId} {O : Prop} (a : Option Addr) (len cap : Nat) (L : List Ex) (b i : Int) (w : World) (h : GIn rEx T O 10 w a len L) (hl : len ≤ 1000000) :
    Calls Tryz.prog 66 #[.slice a len cap, .int .i64 b, .int .i64 i] w fun e w' => e = .returned (.bool (wholeB L b i)) ∧ Below w.heap.size w w' := by
  have HSz := Lib.hid (refSize_calls a len cap L w h hl _ i (Nat.le_refl _) w (Below.refl _ _))
  have HD := Lib.hid (fun (n : Nat) (hz : sizeT L n ≠ 0) w1 (hb : Below w.heap.size w w1) => refDepth_calls a len cap L w h hl (n + 1) n (by omega) hz w1 hb)
  have HV : Hid (wholeB L b i = (decide (sizeT L i ≠ 0) && decide (i - (sizeT L i : Nat) + 1 = b) && decide (depthT L i ≤ 64))) := Lib.hid rfl
  have hleng := h.leng
  clear h
  by_cases hz : sizeT L i = 0
  case pos =>
    have HV2 : Hid (wholeB L b i = false) := Lib.hid (by rw [HV.out, hz]; rfl)
    rw [hz] at HSz
    clear hz HV hleng
    go_enter Tryz.func66, Tryz.ntmps66
    go_wp2_with fail
    refine HSz.out.mono ?_
    rintro e w1 ⟨rfl, k1⟩
    go_wp2_with fail
    go_ret
    exact ⟨by rw [HV2.out]; rfl, k1⟩
  obtain ⟨n, rfl⟩ : ∃ n : Nat, i = n := ⟨i.toNat, by
    have : ¬ i < 0 := fun h => hz (sizeT_out (.inl h))
    omega⟩
  have hn : n < len := Nat.lt_of_not_le (fun h => hz (sizeT_out (.inr (by rw [hleng]; omega))))
  have hle := sizeT_le L n
  have HDn := Lib.hid (HD.out n hz)
  have hdl := depthT_le L n
  clear HD hleng
  rw [decide_eq_true hz] at HV
  generalize sizeT L n = s at HSz HV hz hle
  generalize depthT L n = d at HDn HV hdl
  have t0 : decide (0 < s) = true := decide_eq_true (by omega)
  have t0' : decide ((0 : Int) < (s : Int)) = true := decide_eq_true (by omega)
  have hs0 : 0 < s := by omega
  have i1 : -9223372036854775808 ≤ (n : Int) - (s : Int) := by omega
  have i2 : (n : Int) - (s : Int) + 1 ≤ 9223372036854775807 := by omega
  have i3 : (n : Int) - (s : Int) ≤ 9223372036854775807 := by omega
  have i4 : -9223372036854775808 ≤ (n : Int) - (s : Int) + 1 := by omega
  clear hz
  by_cases hb : (n : Int) - (s : Nat) + 1 = b
  case neg =>
    have HV2 : Hid (wholeB L b n = false) := Lib.hid (by rw [HV.out, decide_eq_false hb]; rfl)
    have t1 : ((n : Int) - (s : Int) + 1 == b) = false := by rw [beq_eq_false_iff_ne]; exact hb
    clear hb HV
    go_enter Tryz.func66, Tryz.ntmps66
    go_wp2_with fail
    refine HSz.out.mono ?_
    rintro e w1 ⟨rfl, k1⟩
    go_wp2_with fail
    go_ret
    exact ⟨by rw [HV2.out]; rfl, k1⟩
  case pos =>
    have HV2 : Hid (wholeB L b n = decide (d ≤ 64)) := Lib.hid (by rw [HV.out, decide_eq_true hb]; rfl)
    have t1 : ((n : Int) - (s : Int) + 1 == b) = true := by rw [beq_iff_eq]; exact hb
    have t2 : decide ((d : Int) ≤ 64) = decide (d ≤ 64) := by rw [decide_eq_decide]; omega
    clear hb HV
    generalize wholeB L b n = r at HV2 ⊢
    go_enter Tryz.func66, Tryz.ntmps66
    go_wp2_with fail
    refine HSz.out.mono ?_
    rintro e w1 ⟨rfl, k1⟩
    have K1 := Lib.hid k1
    clear k1
    go_wp2_with fail
    refine (HDn.out _ K1.out).mono ?_
    rintro e w2 ⟨rfl, k2⟩
    have K2 := Lib.hid (K1.out.trans (k2.mono K1.out.size))
    clear k2
    by_cases hd : d ≤ 64
    · rw [decide_eq_true hd] at t2 HV2
      go_wp2_with fail
      go_ret
      exact ⟨by rw [HV2.out]; first | rfl | (simp; omega), K2.out⟩
    · rw [decide_eq_false hd] at t2 HV2
      go_wp2_with fail
      go_ret
      exact ⟨by rw [HV2.out]; first | rfl | (simp; omega), K2.out⟩
end Go.Proofs.YtojabkhfkbfeaaaGreatDoor

/- TreeRefSym -/
namespace Go.Proofs.YtojabkhfkbfeaaaGreatDoor
open Go.RowKit
set_option linter.unusedVariables false

theorem sym_all (s : Sy) : symB s = (s.ar.all argB && nameB s.n) := rfl
set_option maxHeartbeats 20000000 in
set_option maxRecDepth 100000 in
theorem refSym_calls {Y : TyT} {O : Prop} (s : Sy) (cs : List Value) (w : World) (hr : rSy Y O w cs s) :
    Calls Tryz.prog 17 #[.agg cs.toArray] w fun e w' => e = .returned (.bool (symB s)) ∧ Below w.heap.size w w' := by
  obtain ⟨a, c, rfl, h1, hok⟩ := hr
  have hsn : s.n.size ≤ 9223372036854775807 := hok
  have H := Lib.hid h1
  have hsm := h1.small
  have HS := Lib.hid (sym_all s)
  have HB : Hid (Below w.heap.size w (w.alloc (.cells #[.string s.n, .slice a s.ar.length c, .int .i64 s.l, .int .i64 s.c] 47))) := Lib.hid ((Below.refl w.heap.size w).alloc (Nat.le_refl _) _)
  have HK0 : Hid (Below (w.heap.size + 1) (w.alloc (.cells #[.string s.n, .slice a s.ar.length c, .int .i64 s.l, .int .i64 s.c] 47)) (w.alloc (.cells #[.string s.n, .slice a s.ar.length c, .int .i64 s.l, .int .i64 s.c] 47))) := Lib.hid (Below.refl _ _)
  have HBK : Hid (∀ w1, Hid (Below (w.heap.size + 1) (w.alloc (.cells #[.string s.n, .slice a s.ar.length c, .int .i64 s.l, .int .i64 s.c] 47)) w1) → Below w.heap.size w w1) := Lib.hid (fun _ h => HB.out.trans (h.out.mono (Nat.le_succ _)))
  have HN0 := Lib.hid (fun w1 => refName_calls s.n w1 hsn)
  clear h1 hok
  go_enter Tryz.func17, Tryz.ntmps17
  go_wp2_with fail
  go_loopw [3] (fun i wr => ∃ (n : Nat), n ≤ s.ar.length ∧ i = .int .i64 n ∧ Hid (s.ar.all argB = (s.ar.drop n).all argB) ∧ Hid (Below (w.heap.size + 1) (w.alloc (.cells #[.string s.n, .slice a s.ar.length c, .int .i64 s.l, .int .i64 s.c] 47)) wr)) (fun i _ => s.ar.length - (intOf i).toNat)
  case atStart => exact ⟨0, Nat.zero_le _, rfl, Lib.hid rfl, HK0⟩
  case round =>
    obtain ⟨n, hn, rfl, HT, HL⟩ := hrel
    have z0 : wr.cell? ⟨w.heap.size, 0, none⟩ = some (.string s.n) := box1 HL.out 0 _ rfl
    have z1 : wr.cell? ⟨w.heap.size, 1, none⟩ = some (.slice a s.ar.length c) := box1 HL.out 1 _ rfl
    by_cases h : n < s.ar.length
    case neg =>
      have HX := Lib.hid (all_end HT.out (by omega))
      have HV : Hid (symB s = nameB s.n) := Lib.hid (by rw [HS.out, HX.out]; rfl)
      generalize nameB s.n = r at HN0 HV
      go_wp2_with fail
      refine (HN0.out _).mono ?_
      rintro e w1 ⟨rfl, k1⟩
      go_wp2_with fail
      go_ret
      exact ⟨by rw [HV.out]; rfl, (HBK.out _ HL).trans (k1.mono (HBK.out _ HL).size)⟩
    case pos =>
      obtain ⟨x, hx⟩ := at_some (L := s.ar) rfl h
      have HX := Lib.hid hx
      have HW := Lib.hid (HBK.out _ HL)
      obtain ⟨g, off, e1, hg, hc, hok⟩ := (H.out.belowF HW.out).flat hx
      have hxn : x.n.size ≤ 9223372036854775807 := hok.1
      have hxs : x.v.s.size ≤ 9223372036854775807 := hok.2.1
      rw [e1] at z1
      have c0 : wr.cell? ⟨g, off + n * 8, none⟩ = some (.int .i64 x.k) := hc 0 _ rfl
      have c1 : wr.cell? ⟨g, off + n * 8 + 1, none⟩ = some (.string x.n) := hc 1 _ rfl
      have c2 : wr.cell? ⟨g, off + n * 8 + 2, none⟩ = some (.int .i64 x.v.k) := hc 2 _ rfl
      have c3 : wr.cell? ⟨g, off + n * 8 + 3, none⟩ = some (.int .i64 x.v.i) := hc 3 _ rfl
      have c4 : wr.cell? ⟨g, off + n * 8 + 4, none⟩ = some (.string x.v.s) := hc 4 _ rfl
      have c5 : wr.cell? ⟨g, off + n * 8 + 5, none⟩ = some (.bool x.v.b) := hc 5 _ rfl
      have c6 : wr.cell? ⟨g, off + n * 8 + 6, none⟩ = some (.int .i64 x.l) := hc 6 _ rfl
      have c7 : wr.cell? ⟨g, off + n * 8 + 7, none⟩ = some (.int .i64 x.c) := hc 7 _ rfl
      have HB2 : Hid (Below wr.heap.size wr ((wr.alloc (.cells #[.int .i64 x.k, .string x.n, .int .i64 x.v.k, .int .i64 x.v.i, .string x.v.s, .bool x.v.b, .int .i64 x.l, .int .i64 x.c] 101)).alloc (.cells #[.int .i64 0, .int .i64 0, .string ⟨#[]⟩, .bool false] 41))) := Lib.hid (((Below.refl wr.heap.size wr).alloc (Nat.le_refl _) _).alloc (by simp) _)
      have HM0 : Hid (Below (wr.heap.size + 2) ((wr.alloc (.cells #[.int .i64 x.k, .string x.n, .int .i64 x.v.k, .int .i64 x.v.i, .string x.v.s, .bool x.v.b, .int .i64 x.l, .int .i64 x.c] 101)).alloc (.cells #[.int .i64 0, .int .i64 0, .string ⟨#[]⟩, .bool false] 41)) ((wr.alloc (.cells #[.int .i64 x.k, .string x.n, .int .i64 x.v.k, .int .i64 x.v.i, .string x.v.s, .bool x.v.b, .int .i64 x.l, .int .i64 x.c] 101)).alloc (.cells #[.int .i64 0, .int .i64 0, .string ⟨#[]⟩, .bool false] 41))) := Lib.hid (Below.refl _ _)
      have HLB : Hid (∀ w1, Hid (Below (wr.heap.size + 2) ((wr.alloc (.cells #[.int .i64 x.k, .string x.n, .int .i64 x.v.k, .int .i64 x.v.i, .string x.v.s, .bool x.v.b, .int .i64 x.l, .int .i64 x.c] 101)).alloc (.cells #[.int .i64 0, .int .i64 0, .string ⟨#[]⟩, .bool false] 41)) w1) → Below (w.heap.size + 1) (w.alloc (.cells #[.string s.n, .slice a s.ar.length c, .int .i64 s.l, .int .i64 s.c] 47)) w1) := Lib.hid (fun _ h => HL.out.trans ((HB2.out.trans (h.out.mono (Nat.le_add_right _ 2))).mono (by have := HL.out.size; simpa using this)))
      have HR : Hid (∀ w1, Calls Tryz.prog 16 #[.agg #[.int .i64 x.v.k, .int .i64 x.v.i, .string x.v.s, .bool x.v.b]] w1 fun e w' => e = .returned (.bool (rightV x.v)) ∧ Below w1.heap.size w1 w') := Lib.hid (fun w1 => refVRight_calls x.v.k x.v.i x.v.s x.v.b w1 hxs)
      have HN := Lib.hid (fun w1 => refName_calls x.n w1 hxn)
      have q1 : ∀ w, (Op.equalIn 10000 41 (.agg #[.int .i64 x.v.k, .int .i64 x.v.i, .string x.v.s, .bool x.v.b]) (.agg #[.int .i64 0, .int .i64 0, .string ⟨#[]⟩, .bool false])).run Tryz.prog w = .ok (zeroV x.v) w := fun w => eqIn x.v.k x.v.i x.v.s x.v.b 0 0 ⟨#[]⟩ false w
      have qg := guardV
      have HA : Hid (argB x = if x.k = 1 then emptyB x.n && rightV x.v else if x.k = 2 then nameB x.n && zeroV x.v else if x.k = 3 then emptyB x.n && zeroV x.v else false) := Lib.hid rfl
      have HH : Hid (argB x = false → symB s = false) := Lib.hid (fun e => by rw [HS.out, all_hit HT.out HX.out e]; rfl)
      have HE : Hid (argB x = true → s.ar.all argB = (s.ar.drop (n + 1)).all argB) := Lib.hid (fun e => all_step HT.out HX.out e)
      clear hc hx hok e1
      by_cases h1 : x.k = 1
      case pos =>
        have t1 : (x.k == 1) = true := by rw [beq_iff_eq]; omega
        have t2 : (x.k == 2) = false := by rw [beq_eq_false_iff_ne]; omega
        have t3 : (x.k == 3) = false := by rw [beq_eq_false_iff_ne]; omega
        have t4 : decide (x.k < 1) = false := decide_eq_false (by omega)
        have t5 : decide (3 < x.k) = false := decide_eq_false (by omega)
        replace HA : Hid (argB x = (emptyB x.n && rightV x.v)) := Lib.hid (by rw [HA.out, if_pos h1])
        clear h1
        cases en : emptyB x.n
        case false =>
          have tn : x.n.toList.isEmpty = false := en
          have HV : Hid (argB x = false) := Lib.hid (by rw [HA.out, en]; rfl)
          go_wp2_with fail
          go_ret
          exact ⟨by rw [HH.out HV.out]; rfl, (HB.out.trans ((HLB.out _ HM0).mono (Nat.le_succ _)))⟩
        have tn : x.n.toList.isEmpty = true := en
        cases er : rightV x.v
        case false =>
          rw [er] at HR
          have HV : Hid (argB x = false) := Lib.hid (by rw [HA.out, en, er]; rfl)
          go_wp2_with fail
          refine (HR.out _).mono ?_
          rintro e w1 ⟨rfl, k1⟩
          have HM1 := Lib.hid (below2_step HM0.out (by simp) k1)
          clear k1
          have y0 := (box2 HM1.out).1 0 _ rfl
          have y1 := (box2 HM1.out).1 1 _ rfl
          have y2 := (box2 HM1.out).1 2 _ rfl
          have y3 := (box2 HM1.out).1 3 _ rfl
          have y4 := (box2 HM1.out).1 4 _ rfl
          have y5 := (box2 HM1.out).1 5 _ rfl
          have y0_ := (box2 HM1.out).2 0 _ rfl
          have y1_ := (box2 HM1.out).2 1 _ rfl
          have y2_ := (box2 HM1.out).2 2 _ rfl
          have y3_ := (box2 HM1.out).2 3 _ rfl
          go_wp2_with fail
          go_ret
          exact ⟨by rw [HH.out HV.out]; rfl, (HB.out.trans ((HLB.out _ HM1).mono (Nat.le_succ _)))⟩
        rw [er] at HR
        have HV : Hid (argB x = true) := Lib.hid (by rw [HA.out, en, er]; rfl)
        go_wp2_with fail
        refine (HR.out _).mono ?_
        rintro e w1 ⟨rfl, k1⟩
        have HM1 := Lib.hid (below2_step HM0.out (by simp) k1)
        clear k1
        have y0 := (box2 HM1.out).1 0 _ rfl
        have y1 := (box2 HM1.out).1 1 _ rfl
        have y2 := (box2 HM1.out).1 2 _ rfl
        have y3 := (box2 HM1.out).1 3 _ rfl
        have y4 := (box2 HM1.out).1 4 _ rfl
        have y5 := (box2 HM1.out).1 5 _ rfl
        have y0_ := (box2 HM1.out).2 0 _ rfl
        have y1_ := (box2 HM1.out).2 1 _ rfl
        have y2_ := (box2 HM1.out).2 2 _ rfl
        have y3_ := (box2 HM1.out).2 3 _ rfl
        go_wp2_with fail
        go_roundw
        case rel => first | exact ⟨n + 1, by omega, by go_num, Lib.hid (HE.out HV.out), Lib.hid (HLB.out _ HM1)⟩ | ((repeat apply Exists.intro); exact ⟨⟨n + 1, by omega, by go_num, Lib.hid (HE.out HV.out), Lib.hid (HLB.out _ HM1)⟩, rfl⟩)
        case measure => simp [intOf] <;> omega
      by_cases h2 : x.k = 2
      case pos =>
        have t1 : (x.k == 1) = false := by rw [beq_eq_false_iff_ne]; omega
        have t2 : (x.k == 2) = true := by rw [beq_iff_eq]; omega
        have t3 : (x.k == 3) = false := by rw [beq_eq_false_iff_ne]; omega
        have t4 : decide (x.k < 1) = false := decide_eq_false (by omega)
        have t5 : decide (3 < x.k) = false := decide_eq_false (by omega)
        replace HA : Hid (argB x = (nameB x.n && zeroV x.v)) := Lib.hid (by rw [HA.out, if_neg h1, if_pos h2])
        clear h1 h2
        cases em : nameB x.n
        case false =>
          rw [em] at HN
          have HV : Hid (argB x = false) := Lib.hid (by rw [HA.out, em]; rfl)
          go_wp2_with fail
          refine (HN.out _).mono ?_
          rintro e w1 ⟨rfl, k1⟩
          have HM1 := Lib.hid (below2_step HM0.out (by simp) k1)
          clear k1
          have y0 := (box2 HM1.out).1 0 _ rfl
          have y1 := (box2 HM1.out).1 1 _ rfl
          have y2 := (box2 HM1.out).1 2 _ rfl
          have y3 := (box2 HM1.out).1 3 _ rfl
          have y4 := (box2 HM1.out).1 4 _ rfl
          have y5 := (box2 HM1.out).1 5 _ rfl
          have y0_ := (box2 HM1.out).2 0 _ rfl
          have y1_ := (box2 HM1.out).2 1 _ rfl
          have y2_ := (box2 HM1.out).2 2 _ rfl
          have y3_ := (box2 HM1.out).2 3 _ rfl
          go_wp2_with fail
          go_ret
          exact ⟨by rw [HH.out HV.out]; rfl, (HB.out.trans ((HLB.out _ HM1).mono (Nat.le_succ _)))⟩
        rw [em] at HN
        cases ez : zeroV x.v
        case false =>
          rw [ez] at q1
          have HV : Hid (argB x = false) := Lib.hid (by rw [HA.out, em, ez]; rfl)
          go_wp2_with fail
          refine (HN.out _).mono ?_
          rintro e w1 ⟨rfl, k1⟩
          have HM1 := Lib.hid (below2_step HM0.out (by simp) k1)
          clear k1
          have y0 := (box2 HM1.out).1 0 _ rfl
          have y1 := (box2 HM1.out).1 1 _ rfl
          have y2 := (box2 HM1.out).1 2 _ rfl
          have y3 := (box2 HM1.out).1 3 _ rfl
          have y4 := (box2 HM1.out).1 4 _ rfl
          have y5 := (box2 HM1.out).1 5 _ rfl
          have y0_ := (box2 HM1.out).2 0 _ rfl
          have y1_ := (box2 HM1.out).2 1 _ rfl
          have y2_ := (box2 HM1.out).2 2 _ rfl
          have y3_ := (box2 HM1.out).2 3 _ rfl
          go_wp2_with fail
          go_ret
          exact ⟨by rw [HH.out HV.out]; rfl, (HB.out.trans ((HLB.out _ HM1).mono (Nat.le_succ _)))⟩
        rw [ez] at q1
        have HV : Hid (argB x = true) := Lib.hid (by rw [HA.out, em, ez]; rfl)
        go_wp2_with fail
        refine (HN.out _).mono ?_
        rintro e w1 ⟨rfl, k1⟩
        have HM1 := Lib.hid (below2_step HM0.out (by simp) k1)
        clear k1
        have y0 := (box2 HM1.out).1 0 _ rfl
        have y1 := (box2 HM1.out).1 1 _ rfl
        have y2 := (box2 HM1.out).1 2 _ rfl
        have y3 := (box2 HM1.out).1 3 _ rfl
        have y4 := (box2 HM1.out).1 4 _ rfl
        have y5 := (box2 HM1.out).1 5 _ rfl
        have y0_ := (box2 HM1.out).2 0 _ rfl
        have y1_ := (box2 HM1.out).2 1 _ rfl
        have y2_ := (box2 HM1.out).2 2 _ rfl
        have y3_ := (box2 HM1.out).2 3 _ rfl
        go_wp2_with fail
        go_roundw
        case rel => first | exact ⟨n + 1, by omega, by go_num, Lib.hid (HE.out HV.out), Lib.hid (HLB.out _ HM1)⟩ | ((repeat apply Exists.intro); exact ⟨⟨n + 1, by omega, by go_num, Lib.hid (HE.out HV.out), Lib.hid (HLB.out _ HM1)⟩, rfl⟩)
        case measure => simp [intOf] <;> omega
      by_cases h3 : x.k = 3
      case pos =>
        have t1 : (x.k == 1) = false := by rw [beq_eq_false_iff_ne]; omega
        have t2 : (x.k == 2) = false := by rw [beq_eq_false_iff_ne]; omega
        have t3 : (x.k == 3) = true := by rw [beq_iff_eq]; omega
        have t4 : decide (x.k < 1) = false := decide_eq_false (by omega)
        have t5 : decide (3 < x.k) = false := decide_eq_false (by omega)
        replace HA : Hid (argB x = (emptyB x.n && zeroV x.v)) := Lib.hid (by rw [HA.out, if_neg h1, if_neg h2, if_pos h3])
        clear h1 h2 h3
        cases en : emptyB x.n
        case false =>
          have tn : x.n.toList.isEmpty = false := en
          have HV : Hid (argB x = false) := Lib.hid (by rw [HA.out, en]; rfl)
          go_wp2_with fail
          go_ret
          exact ⟨by rw [HH.out HV.out]; rfl, (HB.out.trans ((HLB.out _ HM0).mono (Nat.le_succ _)))⟩
        have tn : x.n.toList.isEmpty = true := en
        cases ez : zeroV x.v
        case false =>
          rw [ez] at q1
          have HV : Hid (argB x = false) := Lib.hid (by rw [HA.out, en, ez]; rfl)
          go_wp2_with fail
          go_ret
          exact ⟨by rw [HH.out HV.out]; rfl, (HB.out.trans ((HLB.out _ HM0).mono (Nat.le_succ _)))⟩
        rw [ez] at q1
        have HV : Hid (argB x = true) := Lib.hid (by rw [HA.out, en, ez]; rfl)
        go_wp2_with fail
        go_roundw
        case rel => first | exact ⟨n + 1, by omega, by go_num, Lib.hid (HE.out HV.out), Lib.hid (HLB.out _ HM0)⟩ | ((repeat apply Exists.intro); exact ⟨⟨n + 1, by omega, by go_num, Lib.hid (HE.out HV.out), Lib.hid (HLB.out _ HM0)⟩, rfl⟩)
        case measure => simp [intOf] <;> omega
      have HV : Hid (argB x = false) := Lib.hid (by rw [HA.out, if_neg h1, if_neg h2, if_neg h3])
      have t1 : (x.k == 1) = false := by simpa using h1
      have t2 : (x.k == 2) = false := by simpa using h2
      have t3 : (x.k == 3) = false := by simpa using h3
      by_cases h4 : x.k < 1
      case pos =>
        have t4 : decide (x.k < 1) = true := decide_eq_true h4
        clear h1 h2 h3 h4
        go_wp2_with fail
        go_ret
        exact ⟨by rw [HH.out HV.out]; rfl, (HB.out.trans ((HLB.out _ HM0).mono (Nat.le_succ _)))⟩
      have t4 : decide (x.k < 1) = false := decide_eq_false h4
      have t5 : decide (3 < x.k) = true := decide_eq_true (by omega)
      clear h1 h2 h3 h4
      go_wp2_with fail
      go_ret
      exact ⟨by rw [HH.out HV.out]; rfl, (HB.out.trans ((HLB.out _ HM0).mono (Nat.le_succ _)))⟩
end Go.Proofs.YtojabkhfkbfeaaaGreatDoor

/- TreeRefTrans -/
namespace Go.Proofs.YtojabkhfkbfeaaaGreatDoor
open Go.RowKit
set_option linter.unusedVariables false

theorem wholeB_at {l : List Ex} {b i : Int} (h : wholeB l b i = true) : 0 ≤ i ∧ i < (l.length : Int) := by
  unfold wholeB at h
  rw [Bool.and_eq_true, Bool.and_eq_true, decide_eq_true_iff] at h
  refine ⟨Int.not_lt.1 fun k => h.1.1 (sizeT_out (.inl k)), Int.not_le.1 fun k => h.1.1 (sizeT_out (.inr k))⟩
theorem rtrans_eq (x : Ts) : transB x = (nameB x.f.t && nameB x.t.t && symB x.on && (if x.g = -1 then setsB x.ns x.ss 0 else wholeB x.ns 0 x.g && setsB x.ns x.ss (x.g + 1))) := rfl
theorem sets_at {l : List Ex} {L : List Se} {n : Nat} {y : Se} {b : Int} (hx : L[n]? = some y) : setsB l (L.drop n) b = (nameB y.n.t && wholeB l b y.e && setsB l (L.drop (n + 1)) (y.e + 1)) := by
  rw [all_drop hx]; rfl
theorem sets_end {l : List Ex} {L : List Se} {n : Nat} {b : Int} (hn : L.length ≤ n) : setsB l (L.drop n) b = decide (b = (l.length : Int)) := by
  rw [List.drop_eq_nil_iff.2 hn]; rfl
set_option maxHeartbeats 20000000 in
set_option maxRecDepth 100000 in
theorem refTr_calls {Y : TyT} {O : Prop} (x : Ts) (cs : List Value) (w : World) (hr : rTs Y O w cs x) (hl : x.ns.length ≤ 1000000) :
    Calls Tryz.prog 18 #[.agg cs.toArray] w fun e w' => e = .returned (.bool (transB x)) ∧ Below w.heap.size w w' := by
  obtain ⟨oa, oc, na, nc, sa, sc, rfl, g1, g2, g3, hok⟩ := hr
  have HS := Lib.hid (rtrans_eq x)
  have HB : Hid (Below w.heap.size w (w.alloc (.cells #[.string x.f.t, .int .i64 x.f.l, .int .i64 x.f.c, .string x.t.t, .int .i64 x.t.l, .int .i64 x.t.c, .string x.on.n, .slice oa x.on.ar.length oc, .int .i64 x.on.l, .int .i64 x.on.c, .slice na x.ns.length nc, .int .i64 x.g, .slice sa x.ss.length sc] 51))) := Lib.hid ((Below.refl w.heap.size w).alloc (Nat.le_refl _) _)
  have HK0 : Hid (Below (w.heap.size + 1) (w.alloc (.cells #[.string x.f.t, .int .i64 x.f.l, .int .i64 x.f.c, .string x.t.t, .int .i64 x.t.l, .int .i64 x.t.c, .string x.on.n, .slice oa x.on.ar.length oc, .int .i64 x.on.l, .int .i64 x.on.c, .slice na x.ns.length nc, .int .i64 x.g, .slice sa x.ss.length sc] 51)) (w.alloc (.cells #[.string x.f.t, .int .i64 x.f.l, .int .i64 x.f.c, .string x.t.t, .int .i64 x.t.l, .int .i64 x.t.c, .string x.on.n, .slice oa x.on.ar.length oc, .int .i64 x.on.l, .int .i64 x.on.c, .slice na x.ns.length nc, .int .i64 x.g, .slice sa x.ss.length sc] 51))) := Lib.hid (Below.refl _ _)
  have HBK : Hid (∀ w1, Hid (Below (w.heap.size + 1) (w.alloc (.cells #[.string x.f.t, .int .i64 x.f.l, .int .i64 x.f.c, .string x.t.t, .int .i64 x.t.l, .int .i64 x.t.c, .string x.on.n, .slice oa x.on.ar.length oc, .int .i64 x.on.l, .int .i64 x.on.c, .slice na x.ns.length nc, .int .i64 x.g, .slice sa x.ss.length sc] 51)) w1) → Below w.heap.size w w1) := Lib.hid (fun _ h => HB.out.trans (h.out.mono (Nat.le_succ _)))
  have HNf := Lib.hid (fun w1 => refName_calls x.f.t w1 hok.1)
  have HNt := Lib.hid (fun w1 => refName_calls x.t.t w1 hok.2.1)
  have HSy := Lib.hid (fun w1 (hb : Below w.heap.size w w1) => refSym_calls x.on [.string x.on.n, .slice oa x.on.ar.length oc, .int .i64 x.on.l, .int .i64 x.on.c] w1 (⟨oa, oc, rfl, g1.belowF hb, hok.2.2⟩ : rSy Y O w1 _ x.on))
  have HWh := Lib.hid (fun (b i : Int) w1 (hb : Below w.heap.size w w1) => whole_calls na _ nc x.ns b i w1 (g2.belowF hb) hl)
  have HG := Lib.hid g3
  have s1 := g1.small
  have s2 := g2.small
  have s3 := g3.small
  clear g1 g2 g3 hok
  cases e0 : nameB x.f.t
  case false =>
    rw [e0] at HS HNf
    go_enter Tryz.func18, Tryz.ntmps18
    go_wp2_with fail
    refine (HNf.out _).mono ?_
    rintro e w1 ⟨rfl, k⟩
    have HK1 := Lib.hid (below1_step HK0.out (by simp) k)
    clear k
    go_wp2_with fail
    go_ret
    exact ⟨by rw [HS.out]; rfl, HBK.out _ HK1⟩
  rw [e0] at HS HNf
  cases e1 : nameB x.t.t
  case false =>
    rw [e1] at HS HNt
    go_enter Tryz.func18, Tryz.ntmps18
    go_wp2_with fail
    refine (HNf.out _).mono ?_
    rintro e w1 ⟨rfl, k⟩
    have HK1 := Lib.hid (below1_step HK0.out (by simp) k)
    clear k
    have z3_1 := box1 HK1.out 3 _ rfl
    have z6_1 := box1 HK1.out 6 _ rfl
    have z7_1 := box1 HK1.out 7 _ rfl
    have z8_1 := box1 HK1.out 8 _ rfl
    have z9_1 := box1 HK1.out 9 _ rfl
    go_wp2_with fail
    refine (HNt.out _).mono ?_
    rintro e w2 ⟨rfl, k⟩
    have HK2 := Lib.hid (below1_step HK1.out (by simp) k)
    clear k
    go_wp2_with fail
    go_ret
    exact ⟨by rw [HS.out]; rfl, HBK.out _ HK2⟩
  rw [e1] at HS HNt
  cases e2 : symB x.on
  case false =>
    rw [e2] at HS HSy
    go_enter Tryz.func18, Tryz.ntmps18
    go_wp2_with fail
    refine (HNf.out _).mono ?_
    rintro e w1 ⟨rfl, k⟩
    have HK1 := Lib.hid (below1_step HK0.out (by simp) k)
    clear k
    have z3_1 := box1 HK1.out 3 _ rfl
    have z6_1 := box1 HK1.out 6 _ rfl
    have z7_1 := box1 HK1.out 7 _ rfl
    have z8_1 := box1 HK1.out 8 _ rfl
    have z9_1 := box1 HK1.out 9 _ rfl
    go_wp2_with fail
    refine (HNt.out _).mono ?_
    rintro e w2 ⟨rfl, k⟩
    have HK2 := Lib.hid (below1_step HK1.out (by simp) k)
    clear k
    have z6_2 := box1 HK2.out 6 _ rfl
    have z7_2 := box1 HK2.out 7 _ rfl
    have z8_2 := box1 HK2.out 8 _ rfl
    have z9_2 := box1 HK2.out 9 _ rfl
    go_wp2_with fail
    refine (HSy.out _ (HBK.out _ HK2)).mono ?_
    rintro e w3 ⟨rfl, k⟩
    have HK3 := Lib.hid (below1_step HK2.out (by simp) k)
    clear k
    go_wp2_with fail
    go_ret
    exact ⟨by rw [HS.out]; rfl, HBK.out _ HK3⟩
  rw [e2] at HS HSy
  by_cases hg : x.g = -1
  case pos =>
    have HT0 : Hid (transB x = setsB x.ns (x.ss.drop 0) 0) := Lib.hid (by rw [HS.out, if_pos hg]; rfl)
    have t1 : (x.g != -1) = false := by simp [hg]
    clear hg
    go_enter Tryz.func18, Tryz.ntmps18
    go_wp2_with fail
    refine (HNf.out _).mono ?_
    rintro e w1 ⟨rfl, k⟩
    have HK1 := Lib.hid (below1_step HK0.out (by simp) k)
    clear k
    have z3_1 := box1 HK1.out 3 _ rfl
    have z6_1 := box1 HK1.out 6 _ rfl
    have z7_1 := box1 HK1.out 7 _ rfl
    have z8_1 := box1 HK1.out 8 _ rfl
    have z9_1 := box1 HK1.out 9 _ rfl
    go_wp2_with fail
    refine (HNt.out _).mono ?_
    rintro e w2 ⟨rfl, k⟩
    have HK2 := Lib.hid (below1_step HK1.out (by simp) k)
    clear k
    have z6_2 := box1 HK2.out 6 _ rfl
    have z7_2 := box1 HK2.out 7 _ rfl
    have z8_2 := box1 HK2.out 8 _ rfl
    have z9_2 := box1 HK2.out 9 _ rfl
    go_wp2_with fail
    refine (HSy.out _ (HBK.out _ HK2)).mono ?_
    rintro e w3 ⟨rfl, k⟩
    have HK3 := Lib.hid (below1_step HK2.out (by simp) k)
    clear k
    have z10_3 := box1 HK3.out 10 _ rfl
    have z11_3 := box1 HK3.out 11 _ rfl
    have z12_3 := box1 HK3.out 12 _ rfl
    go_wp2_with fail
    go_loopw [3, 4] (fun f i wr => ∃ (n : Nat) (b : Int), n ≤ x.ss.length ∧ i = .int .i64 n ∧ f = .int .i64 b ∧ 0 ≤ b ∧ b ≤ 1000000 ∧ Hid (transB x = setsB x.ns (x.ss.drop n) b) ∧ Hid (Below (w.heap.size + 1) (w.alloc (.cells #[.string x.f.t, .int .i64 x.f.l, .int .i64 x.f.c, .string x.t.t, .int .i64 x.t.l, .int .i64 x.t.c, .string x.on.n, .slice oa x.on.ar.length oc, .int .i64 x.on.l, .int .i64 x.on.c, .slice na x.ns.length nc, .int .i64 x.g, .slice sa x.ss.length sc] 51)) wr)) (fun _ i _ => x.ss.length - (intOf i).toNat)
    case atStart => exact ⟨0, 0, Nat.zero_le _, rfl, rfl, by omega, by omega, HT0, HK3⟩
    case round =>
      clear HT0
      obtain ⟨n, b, hn, rfl, rfl, hb0, hb1, HT, HL⟩ := hrel
      have z10 := box1 HL.out 10 _ rfl
      have z12 := box1 HL.out 12 _ rfl
      by_cases h : n < x.ss.length
      case neg =>
        have HX := Lib.hid (HT.out.trans (sets_end (by omega)))
        have t0 := int_dec b (x.ns.length : Int)
        generalize decide (b = (x.ns.length : Int)) = r at HX t0
        go_wp2_with fail
        go_ret
        exact ⟨by rw [HX.out]; rfl, HBK.out _ HL⟩
      case pos =>
        obtain ⟨y, hy⟩ := at_some (L := x.ss) rfl h
        have HW := Lib.hid (HBK.out _ HL)
        have HY := Lib.hid (HT.out.trans (sets_at hy))
        obtain ⟨g, off, e1, hg, hc, hok⟩ := (HG.out.belowF HW.out).flat hy
        rw [e1] at z12
        have c0 : wr.cell? ⟨g, off + n * 4, none⟩ = some (.string y.n.t) := hc 0 _ rfl
        have c3 : wr.cell? ⟨g, off + n * 4 + 3, none⟩ = some (.int .i64 y.e) := hc 3 _ rfl
        have hws : w.heap.size < wr.heap.size := by have := HL.out.size; simp at this; omega
        have HSW : Hid (∀ W, Below wr.heap.size wr W → (W.cell? ⟨w.heap.size, 10, none⟩ = some (.slice na x.ns.length nc) ∧ W.cell? ⟨w.heap.size, 12, none⟩ = some (.slice (some ⟨g, off, none⟩) x.ss.length sc) ∧ W.cell? ⟨g, off + n * 4, none⟩ = some (.string y.n.t) ∧ W.cell? ⟨g, off + n * 4 + 3, none⟩ = some (.int .i64 y.e))) := Lib.hid (fun W hb => ⟨(hb.cell (p := ⟨w.heap.size, 10, none⟩) hws).trans z10, (hb.cell (p := ⟨w.heap.size, 12, none⟩) hws).trans z12, (hb.cell (p := ⟨g, off + n * 4, none⟩) hg).trans c0, (hb.cell (p := ⟨g, off + n * 4 + 3, none⟩) hg).trans c3⟩)
        have HNy := Lib.hid (fun w1 => refName_calls y.n.t w1 hok)
        have HD : Hid (Below wr.heap.size wr wr.drew) := Lib.hid ((Below.refl _ _).drew)
        have HLW : Hid (∀ w1, Below wr.heap.size wr w1 → Below (w.heap.size + 1) (w.alloc (.cells #[.string x.f.t, .int .i64 x.f.l, .int .i64 x.f.c, .string x.t.t, .int .i64 x.t.l, .int .i64 x.t.c, .string x.on.n, .slice oa x.on.ar.length oc, .int .i64 x.on.l, .int .i64 x.on.c, .slice na x.ns.length nc, .int .i64 x.g, .slice sa x.ss.length sc] 51)) w1) := Lib.hid (fun _ hb => HL.out.trans (hb.mono (by have := HL.out.size; simpa using this)))
        clear hc hok hy z10 c0 c3 e1
        cases ey : nameB y.n.t
        case false =>
          rw [ey] at HNy HY
          go_wp2_with fail
          clear z12
          refine wp_region_held_drew (S := (fun W => W.cell? ⟨w.heap.size, 10, none⟩ = some (.slice na x.ns.length nc) ∧ W.cell? ⟨w.heap.size, 12, none⟩ = some (.slice (some ⟨g, off, none⟩) x.ss.length sc) ∧ W.cell? ⟨g, off + n * 4, none⟩ = some (.string y.n.t) ∧ W.cell? ⟨g, off + n * 4 + 3, none⟩ = some (.int .i64 y.e))) (by kernel_rfl) (HSW.out _ HD.out) (fun hH0 => ?_)
          refine wpAnyH_take (i := 0) (v := .pointer (some ⟨w.heap.size, 12, none⟩)) rfl (by kernel_rfl) (by kernel_rfl) (by kernel_rfl) (fun _ _ _ h => h) (Or.inl ⟨by kernel_rfl, fun wS hSw => by (try dsimp only at hSw); go_simp⟩) hH0 ?_
          refine wpAnyH_take (i := 1) (v := .slice (some ⟨g, off, none⟩) x.ss.length sc) rfl (by kernel_rfl) (by kernel_rfl) (by kernel_rfl) (fun _ _ _ h => h) (Or.inl ⟨by kernel_rfl, fun wS hSw => by (try dsimp only at hSw); go_simp⟩) hH0 ?_
          refine wpAnyH_take (i := 2) (v := .int .i64 (n : Nat)) rfl (by kernel_rfl) (by kernel_rfl) (by kernel_rfl) (fun _ _ _ h => h) (Or.inl ⟨by kernel_rfl, fun wS hSw => by (try dsimp only at hSw); go_simp⟩) hH0 ?_
          refine wpAnyH_take (i := 3) (v := .pointer (some ⟨g, off + n * 4, none⟩)) rfl (by kernel_rfl) (by kernel_rfl) (by kernel_rfl) (fun _ _ _ h => h) (Or.inl ⟨by kernel_rfl, fun wS hSw => by (try dsimp only at hSw); go_simp⟩) hH0 ?_
          refine wpAnyH_take (i := 4) (v := .pointer (some ⟨g, off + n * 4, none⟩)) rfl (by kernel_rfl) (by kernel_rfl) (by kernel_rfl) (fun _ _ _ h => h) (Or.inl ⟨by kernel_rfl, fun wS hSw => by (try dsimp only at hSw); go_simp⟩) hH0 ?_
          refine wpAnyH_take (i := 5) (v := .pointer (some ⟨g, off + n * 4, none⟩)) rfl (by kernel_rfl) (by kernel_rfl) (by kernel_rfl) (fun _ _ _ h => h) (Or.inl ⟨by kernel_rfl, fun wS hSw => by (try dsimp only at hSw); go_simp⟩) hH0 ?_
          refine wpAnyH_take (i := 6) (v := .string y.n.t) rfl (by kernel_rfl) (by kernel_rfl) (by kernel_rfl) (fun _ _ _ h => h) (Or.inl ⟨by kernel_rfl, fun wS hSw => by (try dsimp only at hSw); go_simp⟩) hH0 ?_
          refine wpAnyH_ready (rs := [7]) (by kernel_rfl) (by simp) ?_
          refine AllReadyH.cons rfl (fun K hK => ?_) AllReadyH.nil
          rw [if_pos (by kernel_rfl)]
          go_simp
          refine (HNy.out _).mono ?_
          rintro e w1_ ⟨rfl, k⟩
          have HY1 := Lib.hid (HD.out.trans (k.mono (by simp)))
          clear k
          refine hK.out _ _ (HSW.out _ HY1.out) (fun hH1 => ?_)
          clear hK K
          refine wpAnyH_take (i := 8) (v := .bool true) rfl (by kernel_rfl) (by kernel_rfl) (by kernel_rfl) (fun _ _ _ h => h) (Or.inl ⟨by kernel_rfl, fun wS hSw => by (try dsimp only at hSw); go_simp⟩) hH1 ?_
          refine wpAnyH_take (i := 9) (v := .bool true) rfl (by kernel_rfl) (by kernel_rfl) (by kernel_rfl) (fun _ _ _ h => h) (Or.inl ⟨by kernel_rfl, fun wS hSw => by (try dsimp only at hSw); go_simp⟩) hH1 ?_
          refine wpAnyH_take (i := 10) (v := undef) rfl (by kernel_rfl) (by kernel_rfl) (by kernel_rfl) (fun _ _ _ h => h) (Or.inr ⟨by kernel_rfl, rfl⟩) hH1 ?_
          refine wpAnyH_take (i := 11) (v := undef) rfl (by kernel_rfl) (by kernel_rfl) (by kernel_rfl) (fun _ _ _ h => h) (Or.inr ⟨by kernel_rfl, rfl⟩) hH1 ?_
          refine wpAnyH_take (i := 12) (v := undef) rfl (by kernel_rfl) (by kernel_rfl) (by kernel_rfl) (fun _ _ _ h => h) (Or.inr ⟨by kernel_rfl, rfl⟩) hH1 ?_
          refine wpAnyH_take (i := 13) (v := undef) rfl (by kernel_rfl) (by kernel_rfl) (by kernel_rfl) (fun _ _ _ h => h) (Or.inr ⟨by kernel_rfl, rfl⟩) hH1 ?_
          refine wpAnyH_take (i := 14) (v := undef) rfl (by kernel_rfl) (by kernel_rfl) (by kernel_rfl) (fun _ _ _ h => h) (Or.inr ⟨by kernel_rfl, rfl⟩) hH1 ?_
          refine wpAnyH_take (i := 15) (v := undef) rfl (by kernel_rfl) (by kernel_rfl) (by kernel_rfl) (fun _ _ _ h => h) (Or.inr ⟨by kernel_rfl, rfl⟩) hH1 ?_
          refine wpAnyH_take (i := 16) (v := undef) rfl (by kernel_rfl) (by kernel_rfl) (by kernel_rfl) (fun _ _ _ h => h) (Or.inr ⟨by kernel_rfl, rfl⟩) hH1 ?_
          refine wpAnyH_take (i := 17) (v := undef) rfl (by kernel_rfl) (by kernel_rfl) (by kernel_rfl) (fun _ _ _ h => h) (Or.inr ⟨by kernel_rfl, rfl⟩) hH1 ?_
          refine wpAnyH_take (i := 18) (v := undef) rfl (by kernel_rfl) (by kernel_rfl) (by kernel_rfl) (fun _ _ _ h => h) (Or.inr ⟨by kernel_rfl, rfl⟩) hH1 ?_
          refine wpAnyH_take (i := 19) (v := undef) rfl (by kernel_rfl) (by kernel_rfl) (by kernel_rfl) (fun _ _ _ h => h) (Or.inr ⟨by kernel_rfl, rfl⟩) hH1 ?_
          refine wpAnyH_take (i := 20) (v := undef) rfl (by kernel_rfl) (by kernel_rfl) (by kernel_rfl) (fun _ _ _ h => h) (Or.inr ⟨by kernel_rfl, rfl⟩) hH1 ?_
          refine wpAnyH_take (i := 21) (v := .bool true) rfl (by kernel_rfl) (by kernel_rfl) (by kernel_rfl) (fun _ _ _ h => h) (Or.inl ⟨by kernel_rfl, fun wS hSw => by (try dsimp only at hSw); go_simp⟩) hH1 ?_
          refine wpAnyH_done (by kernel_rfl) ?_ _
          go_simp
          go_wp2_with fail
          go_ret
          exact ⟨by rw [HY.out]; rfl, HB.out.trans ((HLW.out _ HY1.out).mono (Nat.le_succ _))⟩
        rw [ey] at HNy HY
        have HWy := Lib.hid (fun w1 (hb : Below wr.heap.size wr w1) => HWh.out b y.e w1 (HW.out.trans (hb.mono HW.out.size)))
        cases ew : wholeB x.ns b y.e
        case false =>
          rw [ew] at HWy HY
          go_wp2_with fail
          clear z12
          refine wp_region_held_drew (S := (fun W => W.cell? ⟨w.heap.size, 10, none⟩ = some (.slice na x.ns.length nc) ∧ W.cell? ⟨w.heap.size, 12, none⟩ = some (.slice (some ⟨g, off, none⟩) x.ss.length sc) ∧ W.cell? ⟨g, off + n * 4, none⟩ = some (.string y.n.t) ∧ W.cell? ⟨g, off + n * 4 + 3, none⟩ = some (.int .i64 y.e))) (by kernel_rfl) (HSW.out _ HD.out) (fun hH0 => ?_)
          refine wpAnyH_take (i := 0) (v := .pointer (some ⟨w.heap.size, 12, none⟩)) rfl (by kernel_rfl) (by kernel_rfl) (by kernel_rfl) (fun _ _ _ h => h) (Or.inl ⟨by kernel_rfl, fun wS hSw => by (try dsimp only at hSw); go_simp⟩) hH0 ?_
          refine wpAnyH_take (i := 1) (v := .slice (some ⟨g, off, none⟩) x.ss.length sc) rfl (by kernel_rfl) (by kernel_rfl) (by kernel_rfl) (fun _ _ _ h => h) (Or.inl ⟨by kernel_rfl, fun wS hSw => by (try dsimp only at hSw); go_simp⟩) hH0 ?_
          refine wpAnyH_take (i := 2) (v := .int .i64 (n : Nat)) rfl (by kernel_rfl) (by kernel_rfl) (by kernel_rfl) (fun _ _ _ h => h) (Or.inl ⟨by kernel_rfl, fun wS hSw => by (try dsimp only at hSw); go_simp⟩) hH0 ?_
          refine wpAnyH_take (i := 3) (v := .pointer (some ⟨g, off + n * 4, none⟩)) rfl (by kernel_rfl) (by kernel_rfl) (by kernel_rfl) (fun _ _ _ h => h) (Or.inl ⟨by kernel_rfl, fun wS hSw => by (try dsimp only at hSw); go_simp⟩) hH0 ?_
          refine wpAnyH_take (i := 4) (v := .pointer (some ⟨g, off + n * 4, none⟩)) rfl (by kernel_rfl) (by kernel_rfl) (by kernel_rfl) (fun _ _ _ h => h) (Or.inl ⟨by kernel_rfl, fun wS hSw => by (try dsimp only at hSw); go_simp⟩) hH0 ?_
          refine wpAnyH_take (i := 5) (v := .pointer (some ⟨g, off + n * 4, none⟩)) rfl (by kernel_rfl) (by kernel_rfl) (by kernel_rfl) (fun _ _ _ h => h) (Or.inl ⟨by kernel_rfl, fun wS hSw => by (try dsimp only at hSw); go_simp⟩) hH0 ?_
          refine wpAnyH_take (i := 6) (v := .string y.n.t) rfl (by kernel_rfl) (by kernel_rfl) (by kernel_rfl) (fun _ _ _ h => h) (Or.inl ⟨by kernel_rfl, fun wS hSw => by (try dsimp only at hSw); go_simp⟩) hH0 ?_
          refine wpAnyH_ready (rs := [7]) (by kernel_rfl) (by simp) ?_
          refine AllReadyH.cons rfl (fun K hK => ?_) AllReadyH.nil
          rw [if_pos (by kernel_rfl)]
          go_simp
          refine (HNy.out _).mono ?_
          rintro e w1_ ⟨rfl, k⟩
          have HY1 := Lib.hid (HD.out.trans (k.mono (by simp)))
          clear k
          refine hK.out _ _ (HSW.out _ HY1.out) (fun hH1 => ?_)
          clear hK K
          refine wpAnyH_take (i := 8) (v := .bool false) rfl (by kernel_rfl) (by kernel_rfl) (by kernel_rfl) (fun _ _ _ h => h) (Or.inl ⟨by kernel_rfl, fun wS hSw => by (try dsimp only at hSw); go_simp⟩) hH1 ?_
          refine wpAnyH_take (i := 9) (v := .bool false) rfl (by kernel_rfl) (by kernel_rfl) (by kernel_rfl) (fun _ _ _ h => h) (Or.inl ⟨by kernel_rfl, fun wS hSw => by (try dsimp only at hSw); go_simp⟩) hH1 ?_
          refine wpAnyH_take (i := 10) (v := .pointer (some ⟨w.heap.size, 10, none⟩)) rfl (by kernel_rfl) (by kernel_rfl) (by kernel_rfl) (fun _ _ _ h => h) (Or.inl ⟨by kernel_rfl, fun wS hSw => by (try dsimp only at hSw); go_simp⟩) hH1 ?_
          refine wpAnyH_take (i := 11) (v := .slice na x.ns.length nc) rfl (by kernel_rfl) (by kernel_rfl) (by kernel_rfl) (fun _ _ _ h => h) (Or.inl ⟨by kernel_rfl, fun wS hSw => by (try dsimp only at hSw); go_simp⟩) hH1 ?_
          refine wpAnyH_take (i := 12) (v := .int .i64 b) rfl (by kernel_rfl) (by kernel_rfl) (by kernel_rfl) (fun _ _ _ h => h) (Or.inl ⟨by kernel_rfl, fun wS hSw => by (try dsimp only at hSw); go_simp⟩) hH1 ?_
          refine wpAnyH_take (i := 13) (v := .pointer (some ⟨w.heap.size, 12, none⟩)) rfl (by kernel_rfl) (by kernel_rfl) (by kernel_rfl) (fun _ _ _ h => h) (Or.inl ⟨by kernel_rfl, fun wS hSw => by (try dsimp only at hSw); go_simp⟩) hH1 ?_
          refine wpAnyH_take (i := 14) (v := .slice (some ⟨g, off, none⟩) x.ss.length sc) rfl (by kernel_rfl) (by kernel_rfl) (by kernel_rfl) (fun _ _ _ h => h) (Or.inl ⟨by kernel_rfl, fun wS hSw => by (try dsimp only at hSw); go_simp⟩) hH1 ?_
          refine wpAnyH_take (i := 15) (v := .int .i64 (n : Nat)) rfl (by kernel_rfl) (by kernel_rfl) (by kernel_rfl) (fun _ _ _ h => h) (Or.inl ⟨by kernel_rfl, fun wS hSw => by (try dsimp only at hSw); go_simp⟩) hH1 ?_
          refine wpAnyH_take (i := 16) (v := .pointer (some ⟨g, off + n * 4, none⟩)) rfl (by kernel_rfl) (by kernel_rfl) (by kernel_rfl) (fun _ _ _ h => h) (Or.inl ⟨by kernel_rfl, fun wS hSw => by (try dsimp only at hSw); go_simp⟩) hH1 ?_
          refine wpAnyH_take (i := 17) (v := .pointer (some ⟨g, off + n * 4 + 3, none⟩)) rfl (by kernel_rfl) (by kernel_rfl) (by kernel_rfl) (fun _ _ _ h => h) (Or.inl ⟨by kernel_rfl, fun wS hSw => by (try dsimp only at hSw); go_simp⟩) hH1 ?_
          refine wpAnyH_take (i := 18) (v := .int .i64 y.e) rfl (by kernel_rfl) (by kernel_rfl) (by kernel_rfl) (fun _ _ _ h => h) (Or.inl ⟨by kernel_rfl, fun wS hSw => by (try dsimp only at hSw); go_simp⟩) hH1 ?_
          refine wpAnyH_ready (rs := [19]) (by kernel_rfl) (by simp) ?_
          refine AllReadyH.cons rfl (fun K hK => ?_) AllReadyH.nil
          rw [if_pos (by kernel_rfl)]
          go_simp
          refine (HWy.out _ HY1.out).mono ?_
          rintro e w2_ ⟨rfl, k⟩
          have HY2 := Lib.hid (HY1.out.trans (k.mono HY1.out.size))
          clear k
          refine hK.out _ _ (HSW.out _ HY2.out) (fun hH2 => ?_)
          clear hK K
          refine wpAnyH_take (i := 20) (v := .bool true) rfl (by kernel_rfl) (by kernel_rfl) (by kernel_rfl) (fun _ _ _ h => h) (Or.inl ⟨by kernel_rfl, fun wS hSw => by (try dsimp only at hSw); go_simp⟩) hH2 ?_
          refine wpAnyH_take (i := 21) (v := .bool true) rfl (by kernel_rfl) (by kernel_rfl) (by kernel_rfl) (fun _ _ _ h => h) (Or.inl ⟨by kernel_rfl, fun wS hSw => by (try dsimp only at hSw); go_simp⟩) hH2 ?_
          refine wpAnyH_done (by kernel_rfl) ?_ _
          go_simp
          go_wp2_with fail
          go_ret
          exact ⟨by rw [HY.out]; rfl, HB.out.trans ((HLW.out _ HY2.out).mono (Nat.le_succ _))⟩
        rw [ew] at HWy HY
        have hwa := wholeB_at ew
        have i1 : 0 ≤ y.e := hwa.1
        have i2 : y.e < 1000000 := by omega
        clear hwa
        go_wp2_with fail
        clear z12
        refine wp_region_held_drew (S := (fun W => W.cell? ⟨w.heap.size, 10, none⟩ = some (.slice na x.ns.length nc) ∧ W.cell? ⟨w.heap.size, 12, none⟩ = some (.slice (some ⟨g, off, none⟩) x.ss.length sc) ∧ W.cell? ⟨g, off + n * 4, none⟩ = some (.string y.n.t) ∧ W.cell? ⟨g, off + n * 4 + 3, none⟩ = some (.int .i64 y.e))) (by kernel_rfl) (HSW.out _ HD.out) (fun hH0 => ?_)
        refine wpAnyH_take (i := 0) (v := .pointer (some ⟨w.heap.size, 12, none⟩)) rfl (by kernel_rfl) (by kernel_rfl) (by kernel_rfl) (fun _ _ _ h => h) (Or.inl ⟨by kernel_rfl, fun wS hSw => by (try dsimp only at hSw); go_simp⟩) hH0 ?_
        refine wpAnyH_take (i := 1) (v := .slice (some ⟨g, off, none⟩) x.ss.length sc) rfl (by kernel_rfl) (by kernel_rfl) (by kernel_rfl) (fun _ _ _ h => h) (Or.inl ⟨by kernel_rfl, fun wS hSw => by (try dsimp only at hSw); go_simp⟩) hH0 ?_
        refine wpAnyH_take (i := 2) (v := .int .i64 (n : Nat)) rfl (by kernel_rfl) (by kernel_rfl) (by kernel_rfl) (fun _ _ _ h => h) (Or.inl ⟨by kernel_rfl, fun wS hSw => by (try dsimp only at hSw); go_simp⟩) hH0 ?_
        refine wpAnyH_take (i := 3) (v := .pointer (some ⟨g, off + n * 4, none⟩)) rfl (by kernel_rfl) (by kernel_rfl) (by kernel_rfl) (fun _ _ _ h => h) (Or.inl ⟨by kernel_rfl, fun wS hSw => by (try dsimp only at hSw); go_simp⟩) hH0 ?_
        refine wpAnyH_take (i := 4) (v := .pointer (some ⟨g, off + n * 4, none⟩)) rfl (by kernel_rfl) (by kernel_rfl) (by kernel_rfl) (fun _ _ _ h => h) (Or.inl ⟨by kernel_rfl, fun wS hSw => by (try dsimp only at hSw); go_simp⟩) hH0 ?_
        refine wpAnyH_take (i := 5) (v := .pointer (some ⟨g, off + n * 4, none⟩)) rfl (by kernel_rfl) (by kernel_rfl) (by kernel_rfl) (fun _ _ _ h => h) (Or.inl ⟨by kernel_rfl, fun wS hSw => by (try dsimp only at hSw); go_simp⟩) hH0 ?_
        refine wpAnyH_take (i := 6) (v := .string y.n.t) rfl (by kernel_rfl) (by kernel_rfl) (by kernel_rfl) (fun _ _ _ h => h) (Or.inl ⟨by kernel_rfl, fun wS hSw => by (try dsimp only at hSw); go_simp⟩) hH0 ?_
        refine wpAnyH_ready (rs := [7]) (by kernel_rfl) (by simp) ?_
        refine AllReadyH.cons rfl (fun K hK => ?_) AllReadyH.nil
        rw [if_pos (by kernel_rfl)]
        go_simp
        refine (HNy.out _).mono ?_
        rintro e w1_ ⟨rfl, k⟩
        have HY1 := Lib.hid (HD.out.trans (k.mono (by simp)))
        clear k
        refine hK.out _ _ (HSW.out _ HY1.out) (fun hH1 => ?_)
        clear hK K
        refine wpAnyH_take (i := 8) (v := .bool false) rfl (by kernel_rfl) (by kernel_rfl) (by kernel_rfl) (fun _ _ _ h => h) (Or.inl ⟨by kernel_rfl, fun wS hSw => by (try dsimp only at hSw); go_simp⟩) hH1 ?_
        refine wpAnyH_take (i := 9) (v := .bool false) rfl (by kernel_rfl) (by kernel_rfl) (by kernel_rfl) (fun _ _ _ h => h) (Or.inl ⟨by kernel_rfl, fun wS hSw => by (try dsimp only at hSw); go_simp⟩) hH1 ?_
        refine wpAnyH_take (i := 10) (v := .pointer (some ⟨w.heap.size, 10, none⟩)) rfl (by kernel_rfl) (by kernel_rfl) (by kernel_rfl) (fun _ _ _ h => h) (Or.inl ⟨by kernel_rfl, fun wS hSw => by (try dsimp only at hSw); go_simp⟩) hH1 ?_
        refine wpAnyH_take (i := 11) (v := .slice na x.ns.length nc) rfl (by kernel_rfl) (by kernel_rfl) (by kernel_rfl) (fun _ _ _ h => h) (Or.inl ⟨by kernel_rfl, fun wS hSw => by (try dsimp only at hSw); go_simp⟩) hH1 ?_
        refine wpAnyH_take (i := 12) (v := .int .i64 b) rfl (by kernel_rfl) (by kernel_rfl) (by kernel_rfl) (fun _ _ _ h => h) (Or.inl ⟨by kernel_rfl, fun wS hSw => by (try dsimp only at hSw); go_simp⟩) hH1 ?_
        refine wpAnyH_take (i := 13) (v := .pointer (some ⟨w.heap.size, 12, none⟩)) rfl (by kernel_rfl) (by kernel_rfl) (by kernel_rfl) (fun _ _ _ h => h) (Or.inl ⟨by kernel_rfl, fun wS hSw => by (try dsimp only at hSw); go_simp⟩) hH1 ?_
        refine wpAnyH_take (i := 14) (v := .slice (some ⟨g, off, none⟩) x.ss.length sc) rfl (by kernel_rfl) (by kernel_rfl) (by kernel_rfl) (fun _ _ _ h => h) (Or.inl ⟨by kernel_rfl, fun wS hSw => by (try dsimp only at hSw); go_simp⟩) hH1 ?_
        refine wpAnyH_take (i := 15) (v := .int .i64 (n : Nat)) rfl (by kernel_rfl) (by kernel_rfl) (by kernel_rfl) (fun _ _ _ h => h) (Or.inl ⟨by kernel_rfl, fun wS hSw => by (try dsimp only at hSw); go_simp⟩) hH1 ?_
        refine wpAnyH_take (i := 16) (v := .pointer (some ⟨g, off + n * 4, none⟩)) rfl (by kernel_rfl) (by kernel_rfl) (by kernel_rfl) (fun _ _ _ h => h) (Or.inl ⟨by kernel_rfl, fun wS hSw => by (try dsimp only at hSw); go_simp⟩) hH1 ?_
        refine wpAnyH_take (i := 17) (v := .pointer (some ⟨g, off + n * 4 + 3, none⟩)) rfl (by kernel_rfl) (by kernel_rfl) (by kernel_rfl) (fun _ _ _ h => h) (Or.inl ⟨by kernel_rfl, fun wS hSw => by (try dsimp only at hSw); go_simp⟩) hH1 ?_
        refine wpAnyH_take (i := 18) (v := .int .i64 y.e) rfl (by kernel_rfl) (by kernel_rfl) (by kernel_rfl) (fun _ _ _ h => h) (Or.inl ⟨by kernel_rfl, fun wS hSw => by (try dsimp only at hSw); go_simp⟩) hH1 ?_
        refine wpAnyH_ready (rs := [19]) (by kernel_rfl) (by simp) ?_
        refine AllReadyH.cons rfl (fun K hK => ?_) AllReadyH.nil
        rw [if_pos (by kernel_rfl)]
        go_simp
        refine (HWy.out _ HY1.out).mono ?_
        rintro e w2_ ⟨rfl, k⟩
        have HY2 := Lib.hid (HY1.out.trans (k.mono HY1.out.size))
        clear k
        refine hK.out _ _ (HSW.out _ HY2.out) (fun hH2 => ?_)
        clear hK K
        refine wpAnyH_take (i := 20) (v := .bool false) rfl (by kernel_rfl) (by kernel_rfl) (by kernel_rfl) (fun _ _ _ h => h) (Or.inl ⟨by kernel_rfl, fun wS hSw => by (try dsimp only at hSw); go_simp⟩) hH2 ?_
        refine wpAnyH_take (i := 21) (v := .bool false) rfl (by kernel_rfl) (by kernel_rfl) (by kernel_rfl) (fun _ _ _ h => h) (Or.inl ⟨by kernel_rfl, fun wS hSw => by (try dsimp only at hSw); go_simp⟩) hH2 ?_
        refine wpAnyH_done (by kernel_rfl) ?_ _
        go_simp
        obtain ⟨z10, z12, c0, c3⟩ := HSW.out _ HY2.out
        clear hH0 hH1 hH2
        go_wp2_with fail
        go_roundw
        case rel => exact ⟨n + 1, y.e + 1, by omega, by go_num, rfl, by omega, by omega, Lib.hid (HY.out.trans rfl), Lib.hid (HLW.out _ HY2.out)⟩
        case measure => simp [intOf] <;> omega
  have t1 : (x.g != -1) = true := by rw [bne_iff_ne]; exact hg
  have HS2 : Hid (transB x = (wholeB x.ns 0 x.g && setsB x.ns x.ss (x.g + 1))) := Lib.hid (by rw [HS.out, if_neg hg]; rfl)
  clear hg HS
  have HWg := Lib.hid (fun w1 (hb : Below w.heap.size w w1) => HWh.out 0 x.g w1 hb)
  cases ew : wholeB x.ns 0 x.g
  case false =>
    rw [ew] at HWg HS2
    go_enter Tryz.func18, Tryz.ntmps18
    go_wp2_with fail
    refine (HNf.out _).mono ?_
    rintro e w1 ⟨rfl, k⟩
    have HK1 := Lib.hid (below1_step HK0.out (by simp) k)
    clear k
    have z3_1 := box1 HK1.out 3 _ rfl
    have z6_1 := box1 HK1.out 6 _ rfl
    have z7_1 := box1 HK1.out 7 _ rfl
    have z8_1 := box1 HK1.out 8 _ rfl
    have z9_1 := box1 HK1.out 9 _ rfl
    go_wp2_with fail
    refine (HNt.out _).mono ?_
    rintro e w2 ⟨rfl, k⟩
    have HK2 := Lib.hid (below1_step HK1.out (by simp) k)
    clear k
    have z6_2 := box1 HK2.out 6 _ rfl
    have z7_2 := box1 HK2.out 7 _ rfl
    have z8_2 := box1 HK2.out 8 _ rfl
    have z9_2 := box1 HK2.out 9 _ rfl
    go_wp2_with fail
    refine (HSy.out _ (HBK.out _ HK2)).mono ?_
    rintro e w3 ⟨rfl, k⟩
    have HK3 := Lib.hid (below1_step HK2.out (by simp) k)
    clear k
    have z10_3 := box1 HK3.out 10 _ rfl
    have z11_3 := box1 HK3.out 11 _ rfl
    have z12_3 := box1 HK3.out 12 _ rfl
    go_wp2_with fail
    refine (HWg.out _ (HBK.out _ HK3)).mono ?_
    rintro e w4 ⟨rfl, k⟩
    have HK4 := Lib.hid (below1_step HK3.out (by simp) k)
    clear k
    go_wp2_with fail
    go_ret
    exact ⟨by rw [HS2.out]; rfl, HBK.out _ HK4⟩
  have hwa := wholeB_at ew
  have j1 : 0 ≤ x.g := hwa.1
  have j2 : x.g < 1000000 := by omega
  clear hwa
  rw [ew] at HWg HS2
  have HT0 : Hid (transB x = setsB x.ns (x.ss.drop 0) (x.g + 1)) := Lib.hid (HS2.out.trans rfl)
  go_enter Tryz.func18, Tryz.ntmps18
  go_wp2_with fail
  refine (HNf.out _).mono ?_
  rintro e w1 ⟨rfl, k⟩
  have HK1 := Lib.hid (below1_step HK0.out (by simp) k)
  clear k
  have z3_1 := box1 HK1.out 3 _ rfl
  have z6_1 := box1 HK1.out 6 _ rfl
  have z7_1 := box1 HK1.out 7 _ rfl
  have z8_1 := box1 HK1.out 8 _ rfl
  have z9_1 := box1 HK1.out 9 _ rfl
  go_wp2_with fail
  refine (HNt.out _).mono ?_
  rintro e w2 ⟨rfl, k⟩
  have HK2 := Lib.hid (below1_step HK1.out (by simp) k)
  clear k
  have z6_2 := box1 HK2.out 6 _ rfl
  have z7_2 := box1 HK2.out 7 _ rfl
  have z8_2 := box1 HK2.out 8 _ rfl
  have z9_2 := box1 HK2.out 9 _ rfl
  go_wp2_with fail
  refine (HSy.out _ (HBK.out _ HK2)).mono ?_
  rintro e w3 ⟨rfl, k⟩
  have HK3 := Lib.hid (below1_step HK2.out (by simp) k)
  clear k
  have z10_3 := box1 HK3.out 10 _ rfl
  have z11_3 := box1 HK3.out 11 _ rfl
  have z12_3 := box1 HK3.out 12 _ rfl
  go_wp2_with fail
  refine (HWg.out _ (HBK.out _ HK3)).mono ?_
  rintro e w4 ⟨rfl, k⟩
  have HK4 := Lib.hid (below1_step HK3.out (by simp) k)
  clear k
  have z11_4 := box1 HK4.out 11 _ rfl
  go_wp2_with fail
  go_loopw [3, 4] (fun f i wr => ∃ (n : Nat) (b : Int), n ≤ x.ss.length ∧ i = .int .i64 n ∧ f = .int .i64 b ∧ 0 ≤ b ∧ b ≤ 1000000 ∧ Hid (transB x = setsB x.ns (x.ss.drop n) b) ∧ Hid (Below (w.heap.size + 1) (w.alloc (.cells #[.string x.f.t, .int .i64 x.f.l, .int .i64 x.f.c, .string x.t.t, .int .i64 x.t.l, .int .i64 x.t.c, .string x.on.n, .slice oa x.on.ar.length oc, .int .i64 x.on.l, .int .i64 x.on.c, .slice na x.ns.length nc, .int .i64 x.g, .slice sa x.ss.length sc] 51)) wr)) (fun _ i _ => x.ss.length - (intOf i).toNat)
  case atStart => exact ⟨0, x.g + 1, Nat.zero_le _, rfl, rfl, by omega, by omega, HT0, HK4⟩
  case round =>
    clear HT0
    obtain ⟨n, b, hn, rfl, rfl, hb0, hb1, HT, HL⟩ := hrel
    have z10 := box1 HL.out 10 _ rfl
    have z12 := box1 HL.out 12 _ rfl
    by_cases h : n < x.ss.length
    case neg =>
      have HX := Lib.hid (HT.out.trans (sets_end (by omega)))
      have t0 := int_dec b (x.ns.length : Int)
      generalize decide (b = (x.ns.length : Int)) = r at HX t0
      go_wp2_with fail
      go_ret
      exact ⟨by rw [HX.out]; rfl, HBK.out _ HL⟩
    case pos =>
      obtain ⟨y, hy⟩ := at_some (L := x.ss) rfl h
      have HW := Lib.hid (HBK.out _ HL)
      have HY := Lib.hid (HT.out.trans (sets_at hy))
      obtain ⟨g, off, e1, hg, hc, hok⟩ := (HG.out.belowF HW.out).flat hy
      rw [e1] at z12
      have c0 : wr.cell? ⟨g, off + n * 4, none⟩ = some (.string y.n.t) := hc 0 _ rfl
      have c3 : wr.cell? ⟨g, off + n * 4 + 3, none⟩ = some (.int .i64 y.e) := hc 3 _ rfl
      have hws : w.heap.size < wr.heap.size := by have := HL.out.size; simp at this; omega
      have HSW : Hid (∀ W, Below wr.heap.size wr W → (W.cell? ⟨w.heap.size, 10, none⟩ = some (.slice na x.ns.length nc) ∧ W.cell? ⟨w.heap.size, 12, none⟩ = some (.slice (some ⟨g, off, none⟩) x.ss.length sc) ∧ W.cell? ⟨g, off + n * 4, none⟩ = some (.string y.n.t) ∧ W.cell? ⟨g, off + n * 4 + 3, none⟩ = some (.int .i64 y.e))) := Lib.hid (fun W hb => ⟨(hb.cell (p := ⟨w.heap.size, 10, none⟩) hws).trans z10, (hb.cell (p := ⟨w.heap.size, 12, none⟩) hws).trans z12, (hb.cell (p := ⟨g, off + n * 4, none⟩) hg).trans c0, (hb.cell (p := ⟨g, off + n * 4 + 3, none⟩) hg).trans c3⟩)
      have HNy := Lib.hid (fun w1 => refName_calls y.n.t w1 hok)
      have HD : Hid (Below wr.heap.size wr wr.drew) := Lib.hid ((Below.refl _ _).drew)
      have HLW : Hid (∀ w1, Below wr.heap.size wr w1 → Below (w.heap.size + 1) (w.alloc (.cells #[.string x.f.t, .int .i64 x.f.l, .int .i64 x.f.c, .string x.t.t, .int .i64 x.t.l, .int .i64 x.t.c, .string x.on.n, .slice oa x.on.ar.length oc, .int .i64 x.on.l, .int .i64 x.on.c, .slice na x.ns.length nc, .int .i64 x.g, .slice sa x.ss.length sc] 51)) w1) := Lib.hid (fun _ hb => HL.out.trans (hb.mono (by have := HL.out.size; simpa using this)))
      clear hc hok hy z10 c0 c3 e1
      cases ey : nameB y.n.t
      case false =>
        rw [ey] at HNy HY
        go_wp2_with fail
        clear z12
        refine wp_region_held_drew (S := (fun W => W.cell? ⟨w.heap.size, 10, none⟩ = some (.slice na x.ns.length nc) ∧ W.cell? ⟨w.heap.size, 12, none⟩ = some (.slice (some ⟨g, off, none⟩) x.ss.length sc) ∧ W.cell? ⟨g, off + n * 4, none⟩ = some (.string y.n.t) ∧ W.cell? ⟨g, off + n * 4 + 3, none⟩ = some (.int .i64 y.e))) (by kernel_rfl) (HSW.out _ HD.out) (fun hH0 => ?_)
        refine wpAnyH_take (i := 0) (v := .pointer (some ⟨w.heap.size, 12, none⟩)) rfl (by kernel_rfl) (by kernel_rfl) (by kernel_rfl) (fun _ _ _ h => h) (Or.inl ⟨by kernel_rfl, fun wS hSw => by (try dsimp only at hSw); go_simp⟩) hH0 ?_
        refine wpAnyH_take (i := 1) (v := .slice (some ⟨g, off, none⟩) x.ss.length sc) rfl (by kernel_rfl) (by kernel_rfl) (by kernel_rfl) (fun _ _ _ h => h) (Or.inl ⟨by kernel_rfl, fun wS hSw => by (try dsimp only at hSw); go_simp⟩) hH0 ?_
        refine wpAnyH_take (i := 2) (v := .int .i64 (n : Nat)) rfl (by kernel_rfl) (by kernel_rfl) (by kernel_rfl) (fun _ _ _ h => h) (Or.inl ⟨by kernel_rfl, fun wS hSw => by (try dsimp only at hSw); go_simp⟩) hH0 ?_
        refine wpAnyH_take (i := 3) (v := .pointer (some ⟨g, off + n * 4, none⟩)) rfl (by kernel_rfl) (by kernel_rfl) (by kernel_rfl) (fun _ _ _ h => h) (Or.inl ⟨by kernel_rfl, fun wS hSw => by (try dsimp only at hSw); go_simp⟩) hH0 ?_
        refine wpAnyH_take (i := 4) (v := .pointer (some ⟨g, off + n * 4, none⟩)) rfl (by kernel_rfl) (by kernel_rfl) (by kernel_rfl) (fun _ _ _ h => h) (Or.inl ⟨by kernel_rfl, fun wS hSw => by (try dsimp only at hSw); go_simp⟩) hH0 ?_
        refine wpAnyH_take (i := 5) (v := .pointer (some ⟨g, off + n * 4, none⟩)) rfl (by kernel_rfl) (by kernel_rfl) (by kernel_rfl) (fun _ _ _ h => h) (Or.inl ⟨by kernel_rfl, fun wS hSw => by (try dsimp only at hSw); go_simp⟩) hH0 ?_
        refine wpAnyH_take (i := 6) (v := .string y.n.t) rfl (by kernel_rfl) (by kernel_rfl) (by kernel_rfl) (fun _ _ _ h => h) (Or.inl ⟨by kernel_rfl, fun wS hSw => by (try dsimp only at hSw); go_simp⟩) hH0 ?_
        refine wpAnyH_ready (rs := [7]) (by kernel_rfl) (by simp) ?_
        refine AllReadyH.cons rfl (fun K hK => ?_) AllReadyH.nil
        rw [if_pos (by kernel_rfl)]
        go_simp
        refine (HNy.out _).mono ?_
        rintro e w1_ ⟨rfl, k⟩
        have HY1 := Lib.hid (HD.out.trans (k.mono (by simp)))
        clear k
        refine hK.out _ _ (HSW.out _ HY1.out) (fun hH1 => ?_)
        clear hK K
        refine wpAnyH_take (i := 8) (v := .bool true) rfl (by kernel_rfl) (by kernel_rfl) (by kernel_rfl) (fun _ _ _ h => h) (Or.inl ⟨by kernel_rfl, fun wS hSw => by (try dsimp only at hSw); go_simp⟩) hH1 ?_
        refine wpAnyH_take (i := 9) (v := .bool true) rfl (by kernel_rfl) (by kernel_rfl) (by kernel_rfl) (fun _ _ _ h => h) (Or.inl ⟨by kernel_rfl, fun wS hSw => by (try dsimp only at hSw); go_simp⟩) hH1 ?_
        refine wpAnyH_take (i := 10) (v := undef) rfl (by kernel_rfl) (by kernel_rfl) (by kernel_rfl) (fun _ _ _ h => h) (Or.inr ⟨by kernel_rfl, rfl⟩) hH1 ?_
        refine wpAnyH_take (i := 11) (v := undef) rfl (by kernel_rfl) (by kernel_rfl) (by kernel_rfl) (fun _ _ _ h => h) (Or.inr ⟨by kernel_rfl, rfl⟩) hH1 ?_
        refine wpAnyH_take (i := 12) (v := undef) rfl (by kernel_rfl) (by kernel_rfl) (by kernel_rfl) (fun _ _ _ h => h) (Or.inr ⟨by kernel_rfl, rfl⟩) hH1 ?_
        refine wpAnyH_take (i := 13) (v := undef) rfl (by kernel_rfl) (by kernel_rfl) (by kernel_rfl) (fun _ _ _ h => h) (Or.inr ⟨by kernel_rfl, rfl⟩) hH1 ?_
        refine wpAnyH_take (i := 14) (v := undef) rfl (by kernel_rfl) (by kernel_rfl) (by kernel_rfl) (fun _ _ _ h => h) (Or.inr ⟨by kernel_rfl, rfl⟩) hH1 ?_
        refine wpAnyH_take (i := 15) (v := undef) rfl (by kernel_rfl) (by kernel_rfl) (by kernel_rfl) (fun _ _ _ h => h) (Or.inr ⟨by kernel_rfl, rfl⟩) hH1 ?_
        refine wpAnyH_take (i := 16) (v := undef) rfl (by kernel_rfl) (by kernel_rfl) (by kernel_rfl) (fun _ _ _ h => h) (Or.inr ⟨by kernel_rfl, rfl⟩) hH1 ?_
        refine wpAnyH_take (i := 17) (v := undef) rfl (by kernel_rfl) (by kernel_rfl) (by kernel_rfl) (fun _ _ _ h => h) (Or.inr ⟨by kernel_rfl, rfl⟩) hH1 ?_
        refine wpAnyH_take (i := 18) (v := undef) rfl (by kernel_rfl) (by kernel_rfl) (by kernel_rfl) (fun _ _ _ h => h) (Or.inr ⟨by kernel_rfl, rfl⟩) hH1 ?_
        refine wpAnyH_take (i := 19) (v := undef) rfl (by kernel_rfl) (by kernel_rfl) (by kernel_rfl) (fun _ _ _ h => h) (Or.inr ⟨by kernel_rfl, rfl⟩) hH1 ?_
        refine wpAnyH_take (i := 20) (v := undef) rfl (by kernel_rfl) (by kernel_rfl) (by kernel_rfl) (fun _ _ _ h => h) (Or.inr ⟨by kernel_rfl, rfl⟩) hH1 ?_
        refine wpAnyH_take (i := 21) (v := .bool true) rfl (by kernel_rfl) (by kernel_rfl) (by kernel_rfl) (fun _ _ _ h => h) (Or.inl ⟨by kernel_rfl, fun wS hSw => by (try dsimp only at hSw); go_simp⟩) hH1 ?_
        refine wpAnyH_done (by kernel_rfl) ?_ _
        go_simp
        go_wp2_with fail
        go_ret
        exact ⟨by rw [HY.out]; rfl, HB.out.trans ((HLW.out _ HY1.out).mono (Nat.le_succ _))⟩
      rw [ey] at HNy HY
      have HWy := Lib.hid (fun w1 (hb : Below wr.heap.size wr w1) => HWh.out b y.e w1 (HW.out.trans (hb.mono HW.out.size)))
      cases ew : wholeB x.ns b y.e
      case false =>
        rw [ew] at HWy HY
        go_wp2_with fail
        clear z12
        refine wp_region_held_drew (S := (fun W => W.cell? ⟨w.heap.size, 10, none⟩ = some (.slice na x.ns.length nc) ∧ W.cell? ⟨w.heap.size, 12, none⟩ = some (.slice (some ⟨g, off, none⟩) x.ss.length sc) ∧ W.cell? ⟨g, off + n * 4, none⟩ = some (.string y.n.t) ∧ W.cell? ⟨g, off + n * 4 + 3, none⟩ = some (.int .i64 y.e))) (by kernel_rfl) (HSW.out _ HD.out) (fun hH0 => ?_)
        refine wpAnyH_take (i := 0) (v := .pointer (some ⟨w.heap.size, 12, none⟩)) rfl (by kernel_rfl) (by kernel_rfl) (by kernel_rfl) (fun _ _ _ h => h) (Or.inl ⟨by kernel_rfl, fun wS hSw => by (try dsimp only at hSw); go_simp⟩) hH0 ?_
        refine wpAnyH_take (i := 1) (v := .slice (some ⟨g, off, none⟩) x.ss.length sc) rfl (by kernel_rfl) (by kernel_rfl) (by kernel_rfl) (fun _ _ _ h => h) (Or.inl ⟨by kernel_rfl, fun wS hSw => by (try dsimp only at hSw); go_simp⟩) hH0 ?_
        refine wpAnyH_take (i := 2) (v := .int .i64 (n : Nat)) rfl (by kernel_rfl) (by kernel_rfl) (by kernel_rfl) (fun _ _ _ h => h) (Or.inl ⟨by kernel_rfl, fun wS hSw => by (try dsimp only at hSw); go_simp⟩) hH0 ?_
        refine wpAnyH_take (i := 3) (v := .pointer (some ⟨g, off + n * 4, none⟩)) rfl (by kernel_rfl) (by kernel_rfl) (by kernel_rfl) (fun _ _ _ h => h) (Or.inl ⟨by kernel_rfl, fun wS hSw => by (try dsimp only at hSw); go_simp⟩) hH0 ?_
        refine wpAnyH_take (i := 4) (v := .pointer (some ⟨g, off + n * 4, none⟩)) rfl (by kernel_rfl) (by kernel_rfl) (by kernel_rfl) (fun _ _ _ h => h) (Or.inl ⟨by kernel_rfl, fun wS hSw => by (try dsimp only at hSw); go_simp⟩) hH0 ?_
        refine wpAnyH_take (i := 5) (v := .pointer (some ⟨g, off + n * 4, none⟩)) rfl (by kernel_rfl) (by kernel_rfl) (by kernel_rfl) (fun _ _ _ h => h) (Or.inl ⟨by kernel_rfl, fun wS hSw => by (try dsimp only at hSw); go_simp⟩) hH0 ?_
        refine wpAnyH_take (i := 6) (v := .string y.n.t) rfl (by kernel_rfl) (by kernel_rfl) (by kernel_rfl) (fun _ _ _ h => h) (Or.inl ⟨by kernel_rfl, fun wS hSw => by (try dsimp only at hSw); go_simp⟩) hH0 ?_
        refine wpAnyH_ready (rs := [7]) (by kernel_rfl) (by simp) ?_
        refine AllReadyH.cons rfl (fun K hK => ?_) AllReadyH.nil
        rw [if_pos (by kernel_rfl)]
        go_simp
        refine (HNy.out _).mono ?_
        rintro e w1_ ⟨rfl, k⟩
        have HY1 := Lib.hid (HD.out.trans (k.mono (by simp)))
        clear k
        refine hK.out _ _ (HSW.out _ HY1.out) (fun hH1 => ?_)
        clear hK K
        refine wpAnyH_take (i := 8) (v := .bool false) rfl (by kernel_rfl) (by kernel_rfl) (by kernel_rfl) (fun _ _ _ h => h) (Or.inl ⟨by kernel_rfl, fun wS hSw => by (try dsimp only at hSw); go_simp⟩) hH1 ?_
        refine wpAnyH_take (i := 9) (v := .bool false) rfl (by kernel_rfl) (by kernel_rfl) (by kernel_rfl) (fun _ _ _ h => h) (Or.inl ⟨by kernel_rfl, fun wS hSw => by (try dsimp only at hSw); go_simp⟩) hH1 ?_
        refine wpAnyH_take (i := 10) (v := .pointer (some ⟨w.heap.size, 10, none⟩)) rfl (by kernel_rfl) (by kernel_rfl) (by kernel_rfl) (fun _ _ _ h => h) (Or.inl ⟨by kernel_rfl, fun wS hSw => by (try dsimp only at hSw); go_simp⟩) hH1 ?_
        refine wpAnyH_take (i := 11) (v := .slice na x.ns.length nc) rfl (by kernel_rfl) (by kernel_rfl) (by kernel_rfl) (fun _ _ _ h => h) (Or.inl ⟨by kernel_rfl, fun wS hSw => by (try dsimp only at hSw); go_simp⟩) hH1 ?_
        refine wpAnyH_take (i := 12) (v := .int .i64 b) rfl (by kernel_rfl) (by kernel_rfl) (by kernel_rfl) (fun _ _ _ h => h) (Or.inl ⟨by kernel_rfl, fun wS hSw => by (try dsimp only at hSw); go_simp⟩) hH1 ?_
        refine wpAnyH_take (i := 13) (v := .pointer (some ⟨w.heap.size, 12, none⟩)) rfl (by kernel_rfl) (by kernel_rfl) (by kernel_rfl) (fun _ _ _ h => h) (Or.inl ⟨by kernel_rfl, fun wS hSw => by (try dsimp only at hSw); go_simp⟩) hH1 ?_
        refine wpAnyH_take (i := 14) (v := .slice (some ⟨g, off, none⟩) x.ss.length sc) rfl (by kernel_rfl) (by kernel_rfl) (by kernel_rfl) (fun _ _ _ h => h) (Or.inl ⟨by kernel_rfl, fun wS hSw => by (try dsimp only at hSw); go_simp⟩) hH1 ?_
        refine wpAnyH_take (i := 15) (v := .int .i64 (n : Nat)) rfl (by kernel_rfl) (by kernel_rfl) (by kernel_rfl) (fun _ _ _ h => h) (Or.inl ⟨by kernel_rfl, fun wS hSw => by (try dsimp only at hSw); go_simp⟩) hH1 ?_
        refine wpAnyH_take (i := 16) (v := .pointer (some ⟨g, off + n * 4, none⟩)) rfl (by kernel_rfl) (by kernel_rfl) (by kernel_rfl) (fun _ _ _ h => h) (Or.inl ⟨by kernel_rfl, fun wS hSw => by (try dsimp only at hSw); go_simp⟩) hH1 ?_
        refine wpAnyH_take (i := 17) (v := .pointer (some ⟨g, off + n * 4 + 3, none⟩)) rfl (by kernel_rfl) (by kernel_rfl) (by kernel_rfl) (fun _ _ _ h => h) (Or.inl ⟨by kernel_rfl, fun wS hSw => by (try dsimp only at hSw); go_simp⟩) hH1 ?_
        refine wpAnyH_take (i := 18) (v := .int .i64 y.e) rfl (by kernel_rfl) (by kernel_rfl) (by kernel_rfl) (fun _ _ _ h => h) (Or.inl ⟨by kernel_rfl, fun wS hSw => by (try dsimp only at hSw); go_simp⟩) hH1 ?_
        refine wpAnyH_ready (rs := [19]) (by kernel_rfl) (by simp) ?_
        refine AllReadyH.cons rfl (fun K hK => ?_) AllReadyH.nil
        rw [if_pos (by kernel_rfl)]
        go_simp
        refine (HWy.out _ HY1.out).mono ?_
        rintro e w2_ ⟨rfl, k⟩
        have HY2 := Lib.hid (HY1.out.trans (k.mono HY1.out.size))
        clear k
        refine hK.out _ _ (HSW.out _ HY2.out) (fun hH2 => ?_)
        clear hK K
        refine wpAnyH_take (i := 20) (v := .bool true) rfl (by kernel_rfl) (by kernel_rfl) (by kernel_rfl) (fun _ _ _ h => h) (Or.inl ⟨by kernel_rfl, fun wS hSw => by (try dsimp only at hSw); go_simp⟩) hH2 ?_
        refine wpAnyH_take (i := 21) (v := .bool true) rfl (by kernel_rfl) (by kernel_rfl) (by kernel_rfl) (fun _ _ _ h => h) (Or.inl ⟨by kernel_rfl, fun wS hSw => by (try dsimp only at hSw); go_simp⟩) hH2 ?_
        refine wpAnyH_done (by kernel_rfl) ?_ _
        go_simp
        go_wp2_with fail
        go_ret
        exact ⟨by rw [HY.out]; rfl, HB.out.trans ((HLW.out _ HY2.out).mono (Nat.le_succ _))⟩
      rw [ew] at HWy HY
      have hwa := wholeB_at ew
      have i1 : 0 ≤ y.e := hwa.1
      have i2 : y.e < 1000000 := by omega
      clear hwa
      go_wp2_with fail
      clear z12
      refine wp_region_held_drew (S := (fun W => W.cell? ⟨w.heap.size, 10, none⟩ = some (.slice na x.ns.length nc) ∧ W.cell? ⟨w.heap.size, 12, none⟩ = some (.slice (some ⟨g, off, none⟩) x.ss.length sc) ∧ W.cell? ⟨g, off + n * 4, none⟩ = some (.string y.n.t) ∧ W.cell? ⟨g, off + n * 4 + 3, none⟩ = some (.int .i64 y.e))) (by kernel_rfl) (HSW.out _ HD.out) (fun hH0 => ?_)
      refine wpAnyH_take (i := 0) (v := .pointer (some ⟨w.heap.size, 12, none⟩)) rfl (by kernel_rfl) (by kernel_rfl) (by kernel_rfl) (fun _ _ _ h => h) (Or.inl ⟨by kernel_rfl, fun wS hSw => by (try dsimp only at hSw); go_simp⟩) hH0 ?_
      refine wpAnyH_take (i := 1) (v := .slice (some ⟨g, off, none⟩) x.ss.length sc) rfl (by kernel_rfl) (by kernel_rfl) (by kernel_rfl) (fun _ _ _ h => h) (Or.inl ⟨by kernel_rfl, fun wS hSw => by (try dsimp only at hSw); go_simp⟩) hH0 ?_
      refine wpAnyH_take (i := 2) (v := .int .i64 (n : Nat)) rfl (by kernel_rfl) (by kernel_rfl) (by kernel_rfl) (fun _ _ _ h => h) (Or.inl ⟨by kernel_rfl, fun wS hSw => by (try dsimp only at hSw); go_simp⟩) hH0 ?_
      refine wpAnyH_take (i := 3) (v := .pointer (some ⟨g, off + n * 4, none⟩)) rfl (by kernel_rfl) (by kernel_rfl) (by kernel_rfl) (fun _ _ _ h => h) (Or.inl ⟨by kernel_rfl, fun wS hSw => by (try dsimp only at hSw); go_simp⟩) hH0 ?_
      refine wpAnyH_take (i := 4) (v := .pointer (some ⟨g, off + n * 4, none⟩)) rfl (by kernel_rfl) (by kernel_rfl) (by kernel_rfl) (fun _ _ _ h => h) (Or.inl ⟨by kernel_rfl, fun wS hSw => by (try dsimp only at hSw); go_simp⟩) hH0 ?_
      refine wpAnyH_take (i := 5) (v := .pointer (some ⟨g, off + n * 4, none⟩)) rfl (by kernel_rfl) (by kernel_rfl) (by kernel_rfl) (fun _ _ _ h => h) (Or.inl ⟨by kernel_rfl, fun wS hSw => by (try dsimp only at hSw); go_simp⟩) hH0 ?_
      refine wpAnyH_take (i := 6) (v := .string y.n.t) rfl (by kernel_rfl) (by kernel_rfl) (by kernel_rfl) (fun _ _ _ h => h) (Or.inl ⟨by kernel_rfl, fun wS hSw => by (try dsimp only at hSw); go_simp⟩) hH0 ?_
      refine wpAnyH_ready (rs := [7]) (by kernel_rfl) (by simp) ?_
      refine AllReadyH.cons rfl (fun K hK => ?_) AllReadyH.nil
      rw [if_pos (by kernel_rfl)]
      go_simp
      refine (HNy.out _).mono ?_
      rintro e w1_ ⟨rfl, k⟩
      have HY1 := Lib.hid (HD.out.trans (k.mono (by simp)))
      clear k
      refine hK.out _ _ (HSW.out _ HY1.out) (fun hH1 => ?_)
      clear hK K
      refine wpAnyH_take (i := 8) (v := .bool false) rfl (by kernel_rfl) (by kernel_rfl) (by kernel_rfl) (fun _ _ _ h => h) (Or.inl ⟨by kernel_rfl, fun wS hSw => by (try dsimp only at hSw); go_simp⟩) hH1 ?_
      refine wpAnyH_take (i := 9) (v := .bool false) rfl (by kernel_rfl) (by kernel_rfl) (by kernel_rfl) (fun _ _ _ h => h) (Or.inl ⟨by kernel_rfl, fun wS hSw => by (try dsimp only at hSw); go_simp⟩) hH1 ?_
      refine wpAnyH_take (i := 10) (v := .pointer (some ⟨w.heap.size, 10, none⟩)) rfl (by kernel_rfl) (by kernel_rfl) (by kernel_rfl) (fun _ _ _ h => h) (Or.inl ⟨by kernel_rfl, fun wS hSw => by (try dsimp only at hSw); go_simp⟩) hH1 ?_
      refine wpAnyH_take (i := 11) (v := .slice na x.ns.length nc) rfl (by kernel_rfl) (by kernel_rfl) (by kernel_rfl) (fun _ _ _ h => h) (Or.inl ⟨by kernel_rfl, fun wS hSw => by (try dsimp only at hSw); go_simp⟩) hH1 ?_
      refine wpAnyH_take (i := 12) (v := .int .i64 b) rfl (by kernel_rfl) (by kernel_rfl) (by kernel_rfl) (fun _ _ _ h => h) (Or.inl ⟨by kernel_rfl, fun wS hSw => by (try dsimp only at hSw); go_simp⟩) hH1 ?_
      refine wpAnyH_take (i := 13) (v := .pointer (some ⟨w.heap.size, 12, none⟩)) rfl (by kernel_rfl) (by kernel_rfl) (by kernel_rfl) (fun _ _ _ h => h) (Or.inl ⟨by kernel_rfl, fun wS hSw => by (try dsimp only at hSw); go_simp⟩) hH1 ?_
      refine wpAnyH_take (i := 14) (v := .slice (some ⟨g, off, none⟩) x.ss.length sc) rfl (by kernel_rfl) (by kernel_rfl) (by kernel_rfl) (fun _ _ _ h => h) (Or.inl ⟨by kernel_rfl, fun wS hSw => by (try dsimp only at hSw); go_simp⟩) hH1 ?_
      refine wpAnyH_take (i := 15) (v := .int .i64 (n : Nat)) rfl (by kernel_rfl) (by kernel_rfl) (by kernel_rfl) (fun _ _ _ h => h) (Or.inl ⟨by kernel_rfl, fun wS hSw => by (try dsimp only at hSw); go_simp⟩) hH1 ?_
      refine wpAnyH_take (i := 16) (v := .pointer (some ⟨g, off + n * 4, none⟩)) rfl (by kernel_rfl) (by kernel_rfl) (by kernel_rfl) (fun _ _ _ h => h) (Or.inl ⟨by kernel_rfl, fun wS hSw => by (try dsimp only at hSw); go_simp⟩) hH1 ?_
      refine wpAnyH_take (i := 17) (v := .pointer (some ⟨g, off + n * 4 + 3, none⟩)) rfl (by kernel_rfl) (by kernel_rfl) (by kernel_rfl) (fun _ _ _ h => h) (Or.inl ⟨by kernel_rfl, fun wS hSw => by (try dsimp only at hSw); go_simp⟩) hH1 ?_
      refine wpAnyH_take (i := 18) (v := .int .i64 y.e) rfl (by kernel_rfl) (by kernel_rfl) (by kernel_rfl) (fun _ _ _ h => h) (Or.inl ⟨by kernel_rfl, fun wS hSw => by (try dsimp only at hSw); go_simp⟩) hH1 ?_
      refine wpAnyH_ready (rs := [19]) (by kernel_rfl) (by simp) ?_
      refine AllReadyH.cons rfl (fun K hK => ?_) AllReadyH.nil
      rw [if_pos (by kernel_rfl)]
      go_simp
      refine (HWy.out _ HY1.out).mono ?_
      rintro e w2_ ⟨rfl, k⟩
      have HY2 := Lib.hid (HY1.out.trans (k.mono HY1.out.size))
      clear k
      refine hK.out _ _ (HSW.out _ HY2.out) (fun hH2 => ?_)
      clear hK K
      refine wpAnyH_take (i := 20) (v := .bool false) rfl (by kernel_rfl) (by kernel_rfl) (by kernel_rfl) (fun _ _ _ h => h) (Or.inl ⟨by kernel_rfl, fun wS hSw => by (try dsimp only at hSw); go_simp⟩) hH2 ?_
      refine wpAnyH_take (i := 21) (v := .bool false) rfl (by kernel_rfl) (by kernel_rfl) (by kernel_rfl) (fun _ _ _ h => h) (Or.inl ⟨by kernel_rfl, fun wS hSw => by (try dsimp only at hSw); go_simp⟩) hH2 ?_
      refine wpAnyH_done (by kernel_rfl) ?_ _
      go_simp
      obtain ⟨z10, z12, c0, c3⟩ := HSW.out _ HY2.out
      clear hH0 hH1 hH2
      go_wp2_with fail
      go_roundw
      case rel => exact ⟨n + 1, y.e + 1, by omega, by go_num, rfl, by omega, by omega, Lib.hid (HY.out.trans rfl), Lib.hid (HLW.out _ HY2.out)⟩
      case measure => simp [intOf] <;> omega
end Go.Proofs.YtojabkhfkbfeaaaGreatDoor
