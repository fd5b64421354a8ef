/- The walk of the law KeyReads: with any bytes it answers true. -/
import Derived.Test.YtppplkfidjjodaaDoorKeyAwake
import Derived.Test.YtppplkfidjjodaaDoorKeyOpen
import Derived.Test.YtppplkfidjjodaaDoorKeyHelp
import Derived.Test.YtppplkfidjjodaaDoorKeyRefRead
namespace Go.Proofs.YtppplkfidjjodaaDoor.keyReads
open Go.RowKit
set_option linter.unusedVariables false

def bnOf : Value → Nat
  | .bool true => 1
  | _ => 0
theorem read_fits {l : List UInt8} {L : List Vd} {ok : Bool} (h : ReadTold l L ok) : ∀ n, n < L.length → (L.getD n default).s.size ≤ 9223372036854775807 ∧ -9223372036854775808 ≤ (L.getD n default).i ∧ (L.getD n default).i ≤ 9223372036854775807 := by
  rcases h with ⟨_, h, _⟩ | ⟨_, rfl, _⟩
  · exact allD_fits h
  · intro n hn; simp at hn
theorem same_refl (A : List Vd) : sameL A A = true := (sameL_iff A A).2 rfl
/-- What is known at the head of a round. -/
def At (l : List UInt8) (k : Nat) (b : Bool) (M : List Vd) : Prop :=
  (b = true ∧ allD M ∧ l = keysL M ++ l.drop k ∧ k = (keysL M).length) ∨ (b = false ∧ ReadTold l [] false)
theorem At.new (l : List UInt8) : At l 0 true [] := .inl ⟨rfl, fun v hv => by simp at hv, by simp [keysL], rfl⟩
theorem At.yes {l : List UInt8} {k n : Nat} {v : Vd} {M : List Vd} (h : At l k true M) (ht : KeyTold (l.drop k) v n true) : At l (k + n) true (M ++ [v]) := by
  rcases h with ⟨_, h1, h2, h3⟩ | ⟨h, _⟩
  · obtain ⟨h4, h5⟩ := read_more h1 h2 ht
    rw [List.drop_drop] at h5
    refine .inl ⟨rfl, h4, h5, ?_⟩
    obtain ⟨hv, hk, _⟩ := ht.take
    have hn := ht.pos.2
    have e := congrArg List.length hk
    rw [List.length_take] at e
    rw [keysL_app, List.length_append, ← h3, keysL, keysL, List.append_nil]
    omega
  · cases h
theorem At.no {l : List UInt8} {k n : Nat} {v : Vd} {M : List Vd} (h : At l k true M) (hk : k < l.length) (ht : KeyTold (l.drop k) v n false) (N : List Vd) (k' : Nat) : At l k' false N := by
  rcases h with ⟨_, h1, h2, h3⟩ | ⟨h, _⟩
  · exact .inr ⟨rfl, read_no h1 h2 (fun e => by have := congrArg List.length e; rw [List.length_drop, List.length_nil] at this; omega) ht⟩
  · cases h
theorem At.told {l : List UInt8} {M : List Vd} (h : At l l.length true M) : ReadTold l M true := by
  rcases h with ⟨_, h1, h2, h3⟩ | ⟨h, _⟩
  · rw [List.drop_length, List.append_nil] at h2
    exact .inl ⟨rfl, h1, h2⟩
  · cases h
theorem At.few {l : List UInt8} {k : Nat} {M : List Vd} (h : At l k true M) : 2 * M.length ≤ k := by
  rcases h with ⟨_, h1, h2, h3⟩ | ⟨h, _⟩
  · rw [h3]; exact keys_count h1
  · cases h
theorem At.false' {l : List UInt8} {k : Nat} {M : List Vd} (h : At l k false M) : ReadTold l [] false := by
  rcases h with ⟨h, _⟩ | ⟨_, h⟩
  · cases h
  · exact h

set_option maxHeartbeats 4000000 in
set_option maxRecDepth 100000 in
theorem walk (a : Option Addr) (len cap : Nat) (l : List UInt8) (w : World) (h : BIn w a len cap l) (hlen : len ≤ 9223372036854775807) (hm : MaxAt w) :
    Calls Tryd.prog 5 #[.slice a len cap] w fun e w' => e = .returned (.bool true) ∧ Below w.heap.size w w' := by
  have HAw := Lib.hid (fun w1 (hb : Below w.heap.size w w1) => awake_calls w1 (hm.below hb))
  by_cases h10 : 10000 < len
  · have t1 : decide ((10000 : Int) < (len : Int)) = true := by simp; omega
    clear h hm h10
    go_enter Tryd.func5, Tryd.ntmps5
    go_wp2_with fail
    refine (HAw.out _ (Below.refl _ _)).mono ?_
    rintro e w1 ⟨rfl, k1⟩
    go_wp2_with fail
    go_ret
    exact ⟨rfl, k1⟩
  have t1 : decide ((10000 : Int) < (len : Int)) = false := by simp; omega
  have H1 := Lib.hid (read_calls a len cap l w h (by omega))
  have HRf := Lib.hid (fun a len cap l w1 (h : BIn w1 a len cap l) (hb : len ≤ 1000000000) => refRead_calls a len cap l w1 h hb)
  have H := Lib.hid h
  have HL := Lib.hid h.leng
  obtain ⟨i0, hi, hz0, hz1, hz2⟩ := info_parts infoV
  have HI := Lib.hid hi
  have HZ0 := Lib.hid hz0
  have HZ1 := Lib.hid hz1
  have HZ2 := Lib.hid hz2
  clear h hm hi hz0 hz1 hz2
  go_enter Tryd.func5, Tryd.ntmps5
  go_wp2_with fail
  refine H1.out.mono ?_
  rintro e w1 ⟨L, ok, o, ht, rfl, ho, k1⟩
  obtain ⟨ax, cx, rfl, hvx⟩ := own_vin ho (read_fits ht)
  have HT := Lib.hid ht
  have HVX := Lib.hid hvx
  have HK1 := Lib.hid k1
  have HBI := Lib.hid (H.out.below k1)
  clear ht ho hvx k1 H1 H
  go_wp2_with fail
  go_loopw [5, 6, 7] (fun o i z wr => ∃ (k : Nat) (b : Bool) (M : List Vd), k ≤ len ∧ i = .int .i64 k ∧ z = .bool b ∧ Hid (At l k b M) ∧ Hid (wr.ownsRow w1.heap.size 33 4 o M.length (cellsV M)) ∧ Hid (Below w1.heap.size w1 wr)) (fun _ i z _ => 2 * (len - (intOf i).toNat) + bnOf z)
  case atStart => exact ⟨0, true, [], Nat.zero_le _, rfl, rfl, Lib.hid (At.new l), Lib.hid (World.ownsRow_nil _ _ _ _), Lib.hid (Below.refl _ _)⟩
  case round =>
    obtain ⟨k, b, M, hk, rfl, rfl, HAt, HO, HB⟩ := hrel
    obtain ⟨oa, oc, rfl⟩ := owned_len HO.out
    have HBw := Lib.hid (HK1.out.trans (HB.out.mono HK1.out.size))
    by_cases hkl : k < len
    case neg =>
      obtain rfl : k = len := by omega
      have t2 : decide ((k : Int) < (k : Int)) = false := by simp
      have t2' : decide (k < k) = false := by simp
      cases b
      · obtain ⟨rfl, rfl⟩ := HT.out.same HAt.out.false'
        go_wp2_with fail
        refine (HAw.out _ HBw.out).mono ?_
        rintro e w6 ⟨rfl, k6⟩
        go_wp2_with fail
        go_ret
        exact ⟨rfl, HBw.out.trans (k6.mono HBw.out.size)⟩
      · have hAt := HAt.out
        have hll := HL.out
        rw [← hll] at hAt
        obtain ⟨rfl, rfl⟩ := HT.out.same hAt.told
        obtain ⟨ay, cy, hye, hvy⟩ := own_vin HO.out (read_fits HT.out)
        obtain ⟨rfl, _, rfl⟩ : oa = ay ∧ True ∧ oc = cy := by cases hye; exact ⟨rfl, trivial, rfl⟩
        have h3 := lawSame_calls ax oa L.length L.length cx oc L L _ (HVX.out.below HB.out) hvy
        rw [same_refl] at h3
        have H3 := Lib.hid h3
        clear hye hvy h3 hAt hll
        go_wp2_with fail
        refine H3.out.mono ?_
        rintro e w5 ⟨rfl, k5⟩
        have HK5 := Lib.hid (HBw.out.trans (k5.mono HBw.out.size))
        clear k5
        go_wp2_with fail
        refine (HAw.out _ HK5.out).mono ?_
        rintro e w6 ⟨rfl, k6⟩
        go_wp2_with fail
        go_ret
        exact ⟨rfl, HK5.out.trans (k6.mono HK5.out.size)⟩
    case pos =>
      have t2 : decide ((k : Int) < (len : Int)) = true := by simp; omega
      have t2' : decide (k < len) = true := by simpa using hkl
      cases b
      · obtain ⟨rfl, rfl⟩ := HT.out.same HAt.out.false'
        go_wp2_with fail
        refine (HAw.out _ HBw.out).mono ?_
        rintro e w6 ⟨rfl, k6⟩
        go_wp2_with fail
        go_ret
        exact ⟨rfl, HBw.out.trans (k6.mono HBw.out.size)⟩
      · obtain ⟨g, off, rfl, _⟩ := HBI.out.row (by omega)
        have HNx := Lib.hid (HRf.out _ _ _ _ _ ((HBI.out.below HB.out).next (n := k) hk) (by omega))
        have i1 : (0 : Int) ≤ (k : Int) := by omega
        have i2 : (k : Int) ≤ (len : Int) := by omega
        have hroom := HBI.out.room
        have hck : ¬ cap = k := by omega
        have hck' : (cap == k) = false := by simp; omega
        have HML : Hid (2 * M.length ≤ k) := Lib.hid HAt.out.few
        have HLk : Hid (k < l.length) := Lib.hid (by rw [HL.out]; exact hkl)
        go_wp2_with fail
        refine HNx.out.mono ?_
        rintro e w2 ⟨v, n, ok', ht, rfl, k2⟩
        have HB2 := Lib.hid (HB.out.trans (k2.mono HB.out.size))
        have HO2 := Lib.hid (ownsRow_below HO.out k2)
        have hml := HML.out
        have hnl : n ≤ len - k := by have := ht.pos.2; rw [List.length_drop, HL.out] at this; exact this
        cases ok'
        · have hn0 := ht.none'.2.1
          subst hn0
          have HA2 := Lib.hid (HAt.out.no HLk.out ht (M ++ [v]) k)
          have e1 : decide ((0 : Int) < ((0 : Nat) : Int)) = false := by simp
          clear ht k2 HNx
          go_wp2_with (at_builtin; refine wpList_append_own _ rfl _ _ 22 rfl w1.heap.size 33 i0 (.agg #[.int .i64 0, .int .i64 0, .string ⟨#[]⟩, .bool false]) 4 40 Tryd.underlying22 HI.out HZ0.out HZ1.out HZ2.out rfl (by decide) _ _ _ rfl ((HO2.out.alloc _).alloc _) _ 1 1 [.int .i64 v.k, .int .i64 v.i, .string v.s, .bool v.b] rfl rfl ?c1 ?c2 ?c3 ?c4 ?c5 ?_)
          case c1 => exact new4 w2 _ _ _ _ _ _
          case c2 => intro u hu; simp at hu; rcases hu with rfl | rfl | rfl | rfl <;> rfl
          case c3 => unfold maxLen; omega
          case c4 => omega
          case c5 => have := HB2.out.size; simp; omega
          intro v' w3 hown' hgrow _
          have HB3 := Lib.hid (((HB2.out.alloc HB2.out.size _).alloc (by have := HB2.out.size; simp; omega) _).grown hgrow (by have := HB2.out.size; simp; omega) (fun k hk => (HO2.out.lt k hk).1))
          have HO3 : Hid (w3.ownsRow w1.heap.size 33 4 v' (M ++ [v]).length (cellsV (M ++ [v]))) := Lib.hid (by rw [cellsV_app, List.length_append]; exact hown')
          clear hown' hgrow HO HB HO2 HB2
          go_wp2_with fail
          go_roundw
          case rel => exact ⟨k, false, M ++ [v], by omega, by go_num, rfl, HA2, HO3, HB3⟩
          case measure => simp [intOf, bnOf]
        · have hn0 : 0 < n := by have := ht.pos.1; simpa using this.symm
          have HA2 := Lib.hid (HAt.out.yes ht)
          have e1 : decide ((0 : Int) < (n : Int)) = true := by simp; omega
          clear ht k2 HNx
          go_wp2_with (at_builtin; refine wpList_append_own _ rfl _ _ 22 rfl w1.heap.size 33 i0 (.agg #[.int .i64 0, .int .i64 0, .string ⟨#[]⟩, .bool false]) 4 40 Tryd.underlying22 HI.out HZ0.out HZ1.out HZ2.out rfl (by decide) _ _ _ rfl ((HO2.out.alloc _).alloc _) _ 1 1 [.int .i64 v.k, .int .i64 v.i, .string v.s, .bool v.b] rfl rfl ?c1 ?c2 ?c3 ?c4 ?c5 ?_)
          case c1 => exact new4 w2 _ _ _ _ _ _
          case c2 => intro u hu; simp at hu; rcases hu with rfl | rfl | rfl | rfl <;> rfl
          case c3 => unfold maxLen; omega
          case c4 => omega
          case c5 => have := HB2.out.size; simp; omega
          intro v' w3 hown' hgrow _
          have HB3 := Lib.hid (((HB2.out.alloc HB2.out.size _).alloc (by have := HB2.out.size; simp; omega) _).grown hgrow (by have := HB2.out.size; simp; omega) (fun k hk => (HO2.out.lt k hk).1))
          have HO3 : Hid (w3.ownsRow w1.heap.size 33 4 v' (M ++ [v]).length (cellsV (M ++ [v]))) := Lib.hid (by rw [cellsV_app, List.length_append]; exact hown')
          clear hown' hgrow HO HB HO2 HB2
          go_wp2_with fail
          go_roundw
          case rel => exact ⟨k + n, true, M ++ [v], by omega, by go_num, rfl, HA2, HO3, HB3⟩
          case measure => simp [intOf, bnOf]; omega
end Go.Proofs.YtppplkfidjjodaaDoor.keyReads
