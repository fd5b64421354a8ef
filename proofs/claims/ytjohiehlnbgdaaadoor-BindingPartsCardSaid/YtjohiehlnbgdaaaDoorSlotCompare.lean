/- What slices.CompareFunc and binding.compare do with slots. -/
import Derived.Test.YtjohiehlnbgdaaaDoorSlotCmp
namespace Go.Proofs.YtjohiehlnbgdaaaDoor
open Go.RowKit
set_option linter.unusedVariables false

/-- What compareSlots says of two lists, at the first slot at which it says anything. -/
def cmpLex : List Sd → List Sd → Int
  | [], [] => 0
  | [], _ :: _ => -1
  | _ :: _, [] => 1
  | a :: A, b :: B => if cmpS a b = 0 then cmpLex A B else cmpS a b
def cmpL (A B : List Sd) : Int := if A.length = B.length then cmpLex A B else Lib.compareInt A.length B.length
theorem lex_step {A B : List Sd} {n : Nat} (h1 : n < A.length) (h2 : n < B.length) (H : cmpLex A B = cmpLex (A.drop n) (B.drop n)) :
    cmpLex A B = if cmpS (A.getD n default) (B.getD n default) = 0 then cmpLex (A.drop (n + 1)) (B.drop (n + 1)) else cmpS (A.getD n default) (B.getD n default) := by
  rw [H, drop_at A n h1, drop_at B n h2, cmpLex]

set_option maxHeartbeats 2000000 in
set_option maxRecDepth 100000 in
theorem compareFunc_calls (a b : Option Addr) (len ca cb : Nat) (A B : List Sd) (w : World) (hsA : SIn w a len A) (hsB : SIn w b len B) :
    Calls Tryd.prog 47 #[.slice a len ca, .slice b len cb, .func (.func 48) #[] #[]] w fun e w' => e = .returned (.int .i64 (cmpLex A B)) ∧ Grew w w' := by
  have HA := Lib.hid hsA
  have HB := Lib.hid hsB
  have HLA := Lib.hid hsA.leng
  have HLB := Lib.hid hsB.leng
  have hsm := hsA.small
  have HC := Lib.hid (fun x y w1 => cmpS_calls x y w1)
  clear hsA hsB
  go_enter Tryd.func47, Tryd.ntmps47
  go_wp2_with fail
  go_loopw [13] (fun i wr => ∃ (n : Nat), n ≤ len ∧ i = .int .i64 n ∧ Hid (cmpLex A B = cmpLex (A.drop n) (B.drop n)) ∧ Hid (Grew w wr)) (fun i _ => len - (intOf i).toNat)
  case atStart => exact ⟨0, Nat.zero_le _, rfl, Lib.hid rfl, Lib.hid (Grew.refl _)⟩
  case round =>
    obtain ⟨n, hn, rfl, HX, HG⟩ := hrel
    by_cases h : n < len
    case neg =>
      obtain rfl : n = len := by omega
      have HE : Hid (cmpLex A B = 0) := Lib.hid (by rw [HX.out, List.drop_eq_nil_iff (l := A).2 (by rw [HLA.out]; exact Nat.le_refl _), List.drop_eq_nil_iff (l := B).2 (by rw [HLB.out]; exact Nat.le_refl _), cmpLex])
      go_wp2_with fail
      go_ret
      exact ⟨by rw [HE.out]; rfl, HG.out⟩
    case pos =>
      obtain ⟨g, off, rfl, hg, hc⟩ := HA.out.at' HG.out.below h
      obtain ⟨g', off', rfl, hg', hc'⟩ := HB.out.at' HG.out.below h
      have hgw : g < wr.heap.size := Nat.lt_of_lt_of_le hg HG.out.below.size
      have hgw' : g' < wr.heap.size := Nat.lt_of_lt_of_le hg' HG.out.below.size
      have HS := Lib.hid (lex_step (n := n) (by rw [HLA.out]; exact h) (by rw [HLB.out]; exact h) HX.out)
      generalize A.getD n default = x at hc HS
      generalize B.getD n default = y at hc' HS
      obtain ⟨c0, c1, c2, c3, c4⟩ := hc
      obtain ⟨d0, d1, d2, d3, d4⟩ := hc'
      have H1 := Lib.hid (HC.out x y)
      have HG2 := Lib.hid ((HG.out.alloc (.cells #[.int .i64 x.x, .int .i64 x.v.k, .int .i64 x.v.i, .string x.v.s, .bool x.v.b] 36)).alloc (.cells #[.int .i64 y.x, .int .i64 y.v.k, .int .i64 y.v.i, .string y.v.s, .bool y.v.b] 36))
      have t1 : decide ((len : Int) ≤ (n : Int)) = false := decide_eq_false (by omega)
      go_wp2_with fail
      refine (H1.out _).mono ?_
      rintro e w1 ⟨rfl, k1⟩
      have HG3 := Lib.hid (HG2.out.trans k1)
      clear k1 c0 c1 c2 c3 c4 d0 d1 d2 d3 d4 H1
      generalize cmpS x y = r at HS
      by_cases hr : r = 0
      · have HX2 : Hid (cmpLex A B = cmpLex (A.drop (n + 1)) (B.drop (n + 1))) := Lib.hid (by rw [HS.out, if_pos hr])
        subst hr
        go_wp2_with fail
        go_roundw
        case rel => exact ⟨n + 1, by omega, by go_num, HX2, HG3⟩
        case measure => simp [intOf]; omega
      · have HX2 : Hid (cmpLex A B = r) := Lib.hid (by rw [HS.out, if_neg hr])
        have t2 : (r != 0) = true := by simpa using hr
        clear hr
        go_wp2_with fail
        go_ret
        exact ⟨by rw [HX2.out]; rfl, HG3.out⟩

set_option maxHeartbeats 400000 in
theorem compare_calls (a b : Option Addr) (la ca lb cb : Nat) (A B : List Sd) (w : World) (hsA : SIn w a la A) (hsB : SIn w b lb B) :
    Calls Tryd.prog 31 #[.slice a la ca, .slice b lb cb] w fun e w' => e = .returned (.int .i64 (cmpL A B)) ∧ Grew w w' := by
  by_cases hl : la = lb
  · subst hl
    have HC := Lib.hid (fun w1 (hA : SIn w1 a la A) (hB : SIn w1 b la B) => compareFunc_calls a b la ca cb A B w1 hA hB)
    have HE : Hid (cmpL A B = cmpLex A B) := Lib.hid (by rw [cmpL, if_pos (by rw [hsA.leng, hsB.leng])])
    have HA := Lib.hid hsA
    have HB := Lib.hid hsB
    have t1 : ((la : Int) != (la : Int)) = false := by simp
    clear hsA hsB
    go_enter Tryd.func31, Tryd.ntmps31
    go_wp2_with fail
    refine (HC.out _ HA.out HB.out).mono ?_
    rintro e w1 ⟨rfl, k1⟩
    go_wp2_with fail
    go_ret
    exact ⟨by rw [HE.out]; rfl, k1⟩
  · have HC := Lib.hid (fun w1 => AnyG.cmp_Compare_int layCompare la lb w1)
    change Hid (∀ w1, Calls Tryd.prog 46 _ _ _) at HC
    have HE : Hid (cmpL A B = Lib.compareInt la lb) := Lib.hid (by rw [cmpL, if_neg (by rw [hsA.leng, hsB.leng]; exact hl), hsA.leng, hsB.leng])
    have t1 : ((la : Int) != (lb : Int)) = true := by rw [bne_iff_ne]; omega
    clear hsA hsB hl
    generalize Lib.compareInt la lb = r at HC HE
    go_enter Tryd.func31, Tryd.ntmps31
    go_wp2_with fail
    refine (HC.out _).mono ?_
    rintro e w1 ⟨rfl, rfl⟩
    go_wp2_with fail
    go_ret
    exact ⟨by rw [HE.out]; rfl, Grew.refl _⟩
end Go.Proofs.YtjohiehlnbgdaaaDoor
