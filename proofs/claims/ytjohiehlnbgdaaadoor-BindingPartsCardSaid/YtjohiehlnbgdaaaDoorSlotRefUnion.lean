/- What the reference's Union does with any two lists of slots. -/
import Derived.Test.YtjohiehlnbgdaaaDoorSlotUnion
namespace Go.Proofs.YtjohiehlnbgdaaaDoor
open Go.RowKit
set_option linter.unusedVariables false

/-- What two lists of slots have for a variable, the first one ahead. -/
def uniOne (A B : List Sd) (v : Nat) : List Sd := if getB A v then [⟨v, getV A v⟩] else if getB B v then [⟨v, getV B v⟩] else []
def unionR (A B : List Sd) : Nat → List Sd
  | 0 => []
  | n + 1 => unionR A B n ++ uniOne A B n
theorem uniOne_len (A B : List Sd) (v : Nat) : (uniOne A B v).length ≤ 1 := by
  unfold uniOne
  split
  · simp
  · split <;> simp
theorem unionR_len (A B : List Sd) : ∀ n, (unionR A B n).length ≤ n
  | 0 => by simp [unionR]
  | n + 1 => by
    have h1 := unionR_len A B n
    have h2 := uniOne_len A B n
    rw [unionR, List.length_append]
    omega
theorem row_below {w w' : World} {base : Nat} {e : TypeId} {size : Nat} {v : Value} {n : Nat} {xs : List Value} (h : w.ownsRow base e size v n xs) (k : Below w.heap.size w w') : w'.ownsRow base e size v n xs := by
  refine ⟨h.1, ?_⟩
  rcases h.2 with hn | ⟨g, cap, cur, rfl, hb, hgg, rest⟩
  · exact .inl hn
  · exact .inr ⟨g, cap, cur, rfl, hb, (k.block g (Array.getElem?_eq_some_iff.1 hgg).1).trans hgg, rest⟩
theorem new_enc2 (w : World) (o : Obj) (z : Sd) (t : TypeId) : ∀ j u, (encS z)[j]? = some u → ((w.alloc o).alloc (.cells #[.int .i64 z.x, .int .i64 z.v.k, .int .i64 z.v.i, .string z.v.s, .bool z.v.b] t)).cell? ((⟨w.heap.size + 1, 0, none⟩ : Addr).add j) = some u := by
  have := new_enc (w.alloc o) z t
  rwa [World.size_alloc] at this

set_option maxRecDepth 100000 in
set_option maxHeartbeats 4000000 in
theorem refUnion_calls (a b : Option Addr) (la ca lb cb : Nat) (A B : List Sd) (w : World) (hsA : SIn w a la A) (hsB : SIn w b lb B) :
    Calls Tryd.prog 17 #[.slice a la ca, .slice b lb cb] w fun e w' => ∃ o, e = .returned o ∧ w'.ownsRow w.heap.size 36 5 o (unionR A B 8).length (cellsS (unionR A B 8)) ∧ Below w.heap.size w w' := by
  have HGA := Lib.hid (fun (v : Int) w1 (k : Below w.heap.size w w1) => refGet_calls a la ca A v w1 (hsA.below k))
  have HGB := Lib.hid (fun (v : Int) w1 (k : Below w.heap.size w w1) => refGet_calls b lb cb B v w1 (hsB.below k))
  obtain ⟨i0, hi, hz0, hz1, hz2⟩ := info_parts infoS
  have HI := Lib.hid hi
  have HZ0 := Lib.hid hz0
  have HZ1 := Lib.hid hz1
  have HZ2 := Lib.hid hz2
  clear hsA hsB hi hz0 hz1 hz2
  go_enter Tryd.func17, Tryd.ntmps17
  go_wp2_with fail
  go_loopw [5, 6] (fun o i wr => ∃ (n : Nat), n ≤ 8 ∧ i = .int .i64 n ∧ Hid (wr.ownsRow w.heap.size 36 5 o (unionR A B n).length (cellsS (unionR A B n))) ∧ Hid (Below w.heap.size w wr)) (fun _ i _ => 8 - (intOf i).toNat)
  case atStart => exact ⟨0, Nat.zero_le _, rfl, Lib.hid (World.ownsRow_nil _ _ _ _), Lib.hid (Below.refl _ _)⟩
  case round =>
    obtain ⟨n, hn, rfl, HO, HB⟩ := hrel
    obtain ⟨oa, oc, rfl⟩ := own_slice HO.out
    by_cases h : n < 8
    case neg =>
      obtain rfl : n = 8 := by omega
      go_wp2_with fail
      go_ret
      exact ⟨_, rfl, HO.out, HB.out⟩
    case pos =>
      have t0 : decide ((n : Int) < 8) = true := decide_eq_true (by omega)
      have hlen := unionR_len A B n
      have H1 := Lib.hid (HGA.out (n : Int) _ HB.out)
      have HN : Hid (unionR A B (n + 1) = unionR A B n ++ uniOne A B n) := Lib.hid rfl
      have HU := Lib.hid (show uniOne A B n = if getB A n then [⟨(n : Int), getV A n⟩] else if getB B n then [⟨(n : Int), getV B n⟩] else [] from rfl)
      have HGB2 := Lib.hid (HGB.out (n : Int))
      generalize unionR A B n = M at HO HN hlen
      obtain ⟨M2, hM2⟩ : ∃ M2, M2 = unionR A B (n + 1) := ⟨_, rfl⟩
      have HM2 := Lib.hid hM2
      rw [← hM2] at HN
      clear hM2
      generalize uniOne A B n = T at HN HU
      generalize getB A (n : Int) = ga at H1 HU
      generalize getV A (n : Int) = x at H1 HU
      generalize getB B (n : Int) = gb at HGB2 HU
      generalize getV B (n : Int) = y at HGB2 HU
      go_wp2_with fail
      refine H1.out.mono ?_
      rintro e w1 ⟨rfl, k1⟩
      have HB1 := Lib.hid (HB.out.trans (k1.mono HB.out.size))
      have HO1 := Lib.hid (row_below HO.out k1)
      clear k1 H1
      have HBx := Lib.hid (Boxed.new x.k x.i x.s x.b w1 34)
      have HA1 := Lib.hid (HB1.out.alloc HB1.out.size (.cells #[.int .i64 x.k, .int .i64 x.i, .string x.s, .bool x.b] 34))
      go_wp2_with fail
      refine (HGB2.out _ HA1.out).mono ?_
      rintro e w2 ⟨rfl, k2⟩
      have HB2 := Lib.hid (HA1.out.trans (k2.mono HA1.out.size))
      have HO2 := Lib.hid (row_below (HO1.out.alloc (.cells #[.int .i64 x.k, .int .i64 x.i, .string x.s, .bool x.b] 34)) k2)
      have hx := HBx.out.below k2 (by simp)
      have hl1 : w1.heap.size < w2.heap.size := by have := k2.size; simp at this; omega
      clear k2 HBx
      obtain ⟨x0, x1, x2, x3⟩ := hx
      cases ga
      · cases gb
        · have HM : Hid (M2 = M) := Lib.hid (by rw [HN.out, HU.out]; simp)
          have HB3 := Lib.hid (HB2.out.alloc HB2.out.size (.cells #[.int .i64 y.k, .int .i64 y.i, .string y.s, .bool y.b] 34))
          have HO3 : Hid ((w2.alloc (.cells #[.int .i64 y.k, .int .i64 y.i, .string y.s, .bool y.b] 34)).ownsRow w.heap.size 36 5 (.slice oa M.length oc) M2.length (cellsS M2)) := Lib.hid (by rw [HM.out]; exact HO2.out.alloc _)
          go_wp2_with fail
          go_roundw
          case rel => exact ⟨n + 1, by omega, by go_num, Lib.hid (by rw [← HM2.out]; exact HO3.out), HB3⟩
          case measure => simp [intOf]; omega
        · have HM : Hid (M2 = M ++ [⟨(n : Int), y⟩]) := Lib.hid (by rw [HN.out, HU.out]; simp)
          go_wp2_with (at_builtin; refine wpList_append_own _ rfl _ _ 22 rfl w.heap.size 36 i0 _ 5 48 Tryd.underlying22 HI.out HZ0.out HZ1.out HZ2.out rfl (by decide) _ _ _ rfl ((HO2.out.alloc _).alloc _) _ 1 1 (encS ⟨(n : Int), y⟩) rfl rfl (new_enc2 w2 _ ⟨(n : Int), y⟩ 36) (encS_one _) (by unfold maxLen; omega) (by omega) (by have := HB2.out.size; simp; omega) ?_; intro v' w3 hown' hgrow _)
          have k5 := ((HB2.out.alloc HB2.out.size _).alloc (by have := HB2.out.size; simp; omega) _).grown hgrow (by have := HB2.out.size; simp; omega) (fun k hk => (HO2.out.lt k hk).1)
          have HO3 : Hid (w3.ownsRow w.heap.size 36 5 v' M2.length (cellsS M2)) := Lib.hid (by rw [HM.out, cellsS_app, List.length_append]; simpa [cellsS] using hown')
          have HB3 := Lib.hid k5
          clear hown' hgrow k5
          go_wp2_with fail
          go_roundw
          case rel => exact ⟨n + 1, by omega, by go_num, Lib.hid (by rw [← HM2.out]; exact HO3.out), HB3⟩
          case measure => simp [intOf]; omega
      · have HM : Hid (M2 = M ++ [⟨(n : Int), x⟩]) := Lib.hid (by rw [HN.out, HU.out]; simp)
        go_wp2_with (at_builtin; refine wpList_append_own _ rfl _ _ 22 rfl w.heap.size 36 i0 _ 5 48 Tryd.underlying22 HI.out HZ0.out HZ1.out HZ2.out rfl (by decide) _ _ _ rfl ((HO2.out.alloc _).alloc _) _ 1 1 (encS ⟨(n : Int), x⟩) rfl rfl (new_enc2 w2 _ ⟨(n : Int), x⟩ 36) (encS_one _) (by unfold maxLen; omega) (by omega) (by have := HB2.out.size; simp; omega) ?_; intro v' w3 hown' hgrow _)
        have k5 := ((HB2.out.alloc HB2.out.size _).alloc (by have := HB2.out.size; simp; omega) _).grown hgrow (by have := HB2.out.size; simp; omega) (fun k hk => (HO2.out.lt k hk).1)
        have HO3 : Hid (w3.ownsRow w.heap.size 36 5 v' M2.length (cellsS M2)) := Lib.hid (by rw [HM.out, cellsS_app, List.length_append]; simpa [cellsS] using hown')
        have HB3 := Lib.hid k5
        clear hown' hgrow k5
        go_wp2_with fail
        go_roundw
        case rel => exact ⟨n + 1, by omega, by go_num, Lib.hid (by rw [← HM2.out]; exact HO3.out), HB3⟩
        case measure => simp [intOf]; omega
end Go.Proofs.YtjohiehlnbgdaaaDoor
