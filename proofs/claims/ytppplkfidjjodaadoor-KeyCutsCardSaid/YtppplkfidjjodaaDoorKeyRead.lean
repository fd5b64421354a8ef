/- What key.Read does with any bytes: the values of whose keys they consist. -/
import Derived.Test.YtppplkfidjjodaaDoorKeyCut
import Derived.Test.YtppplkfidjjodaaDoorKeyOf
namespace Go.Proofs.YtppplkfidjjodaaDoor
open Go.RowKit
set_option linter.unusedVariables false

/-- The cells of values in a row. -/
def cellsV : List Vd → List Value
  | [] => []
  | v :: L => .int .i64 v.k :: .int .i64 v.i :: .string v.s :: .bool v.b :: cellsV L
theorem cellsV_app : ∀ A B, cellsV (A ++ B) = cellsV A ++ cellsV B
  | [], _ => rfl
  | v :: A, B => by simp [cellsV, cellsV_app A B]
theorem cellsV_len : ∀ L, (cellsV L).length = L.length * 4
  | [] => rfl
  | v :: L => by simp [cellsV, cellsV_len L]; omega
theorem cellsV_at : ∀ (L : List Vd) (n : Nat), n < L.length → (cellsV L)[n * 4]? = some (.int .i64 (L.getD n default).k) ∧ (cellsV L)[n * 4 + 1]? = some (.int .i64 (L.getD n default).i) ∧ (cellsV L)[n * 4 + 2]? = some (.string (L.getD n default).s) ∧ (cellsV L)[n * 4 + 3]? = some (.bool (L.getD n default).b)
  | v :: L, 0, _ => by simp [cellsV]
  | v :: L, n + 1, h => by
    have := cellsV_at L n (by simpa using h)
    simp only [cellsV]
    rw [show (n + 1) * 4 = n * 4 + 4 by omega]
    simpa using this
theorem infoV : (Tryd.prog.info? 33).map (fun i => (i.zero, i.size, i.bytes)) = some (some (.agg #[.int .i64 0, .int .i64 0, .string ⟨#[]⟩, .bool false]), 4, 40) := by kernel_rfl

/-- Values that the call has gathered lie in a row. -/
theorem own_vin {B : Nat} {o : Value} {L : List Vd} {w : World} (h : w.ownsRow B 33 4 o L.length (cellsV L)) (hall : ∀ n, n < L.length → (L.getD n default).s.size ≤ 9223372036854775807 ∧ -9223372036854775808 ≤ (L.getD n default).i ∧ (L.getD n default).i ≤ 9223372036854775807) :
    ∃ a cap, o = .slice a L.length cap ∧ VIn w a L.length L := by
  obtain ⟨hl, hown⟩ := h
  rcases hown with ⟨rfl, h0⟩ | ⟨g, cap, cur, rfl, h1, hg, hcap, hm, hsz, htk⟩
  · exact ⟨none, 0, by rw [h0], ⟨rfl, by omega, fun h => by omega, hall⟩⟩
  · refine ⟨_, cap, rfl, ⟨rfl, by unfold maxLen at hm; omega, fun _ => ⟨g, 0, rfl, ⟨fun n hn => ?_, (Array.getElem?_eq_some_iff.1 hg).1⟩⟩, hall⟩⟩
    obtain ⟨c0, c1, c2, c3⟩ := cellsV_at L n hn
    have key : ∀ j v, j < L.length * 4 → (cellsV L)[j]? = some v → w.cell? ⟨g, j, none⟩ = some v := fun j v hj hv => by
      rw [cell_of_row w g j cur _ (0, 0) hg]
      rw [← htk, List.getElem?_take, if_pos hj] at hv
      simpa using hv
    refine ⟨?_, ?_, ?_, ?_⟩
    · rw [Nat.zero_add]; exact key _ _ (by omega) c0
    · rw [Nat.zero_add]; exact key _ _ (by omega) c1
    · rw [Nat.zero_add]; exact key _ _ (by omega) c2
    · rw [Nat.zero_add]; exact key _ _ (by omega) c3
theorem allD_fits {L : List Vd} (h : allD L) : ∀ n, n < L.length → (L.getD n default).s.size ≤ 9223372036854775807 ∧ -9223372036854775808 ≤ (L.getD n default).i ∧ (L.getD n default).i ≤ 9223372036854775807 :=
  fun n hn => by
    have := allD_at h hn
    exact ⟨by have := right_size this.1; omega, this.2⟩

/-- What is told of bytes, as a call's answer. -/
def ReadPost (l : List UInt8) (B : Nat) (w : World) (e : Ending) (w' : World) : Prop :=
  ∃ L ok o, ReadTold l L ok ∧ e = .returned (.tuple #[o, .bool ok]) ∧ w'.ownsRow B 33 4 o L.length (cellsV L) ∧ Below B w w'
def lenV : Value → Nat
  | .slice _ n _ => n
  | _ => 0
theorem keys_count {M : List Vd} (h : allD M) : 2 * M.length ≤ (keysL M).length := by
  induction M with
  | nil => simp
  | cons v M ih =>
    have h1 := key_pos (h v (by simp))
    have h2 := ih (fun u hu => h u (by simp [hu]))
    rw [keysL, List.length_append, List.length_cons]
    omega
theorem BIn.next {w : World} {g off len cap n : Nat} {l : List UInt8} (h : BIn w (some ⟨g, off, none⟩) len cap l) (hn : n ≤ len) : BIn w (some ⟨g, off + n, none⟩) (len - n) (cap - n) (l.drop n) :=
  ⟨by rw [List.length_drop, h.leng], by have := h.room; omega, fun h0 => by
    obtain ⟨g', off', e, hr⟩ := h.row (by omega)
    cases e
    exact ⟨g, off + n, rfl, hr.drop n⟩⟩
theorem new4 (w : World) (o : Obj) (a b c d : Value) (t : TypeId) : ∀ j u, [a, b, c, d][j]? = some u → ((w.alloc o).alloc (.cells #[a, b, c, d] t)).cell? ((⟨w.heap.size + 1, 0, none⟩ : Addr).add j) = some u := by
  intro j u hj
  have e : (w.alloc o).heap.size = w.heap.size + 1 := by simp
  have hadd : (⟨w.heap.size + 1, 0, none⟩ : Addr).add j = ⟨(w.alloc o).heap.size, j, none⟩ := by rw [e]; unfold Addr.add; split <;> simp_all
  rw [hadd, World.cell?_alloc_at (hn := rfl)]
  simpa using hj
theorem BIn.none' {w : World} {a : Option Addr} {cap : Nat} : BIn w a 0 cap [] := ⟨rfl, by omega, fun h => by omega⟩

set_option maxHeartbeats 4000000 in
set_option maxRecDepth 100000 in
theorem read_calls (a : Option Addr) (len cap : Nat) (l : List UInt8) (w : World) (h : BIn w a len cap l) (hb : len ≤ 1000000000) :
    Calls Tryd.prog 10 #[.slice a len cap] w (ReadPost l w.heap.size w) := by
  have H := Lib.hid h
  have HL := Lib.hid h.leng
  have HC := Lib.hid (fun a len cap l w1 (h : BIn w1 a len cap l) (hb : len ≤ 1000000000) => cut_calls a len cap l w1 h hb)
  obtain ⟨i0, hi, hz0, hz1, hz2⟩ := info_parts infoV
  have HI := Lib.hid hi
  have HZ0 := Lib.hid hz0
  have HZ1 := Lib.hid hz1
  have HZ2 := Lib.hid hz2
  clear h hi hz0 hz1 hz2
  go_enter Tryd.func10, Tryd.ntmps10
  go_wp2_with fail
  go_loopw [0, 4] (fun b o wr => ∃ (a' : Option Addr) (len' cap' : Nat) (M : List Vd) (rest : List UInt8), len' ≤ len ∧ b = .slice a' len' cap' ∧ Hid (BIn w a' len' cap' rest) ∧ Hid (l = keysL M ++ rest) ∧ Hid (allD M) ∧ Hid (wr.ownsRow w.heap.size 33 4 o M.length (cellsV M)) ∧ Hid (Below w.heap.size w wr)) (fun b _ _ => lenV b)
  case atStart => exact ⟨a, len, cap, [], l, Nat.le_refl _, rfl, H, Lib.hid rfl, Lib.hid (fun v hv => by simp at hv), Lib.hid (World.ownsRow_nil _ _ _ _), Lib.hid (Below.refl _ _)⟩
  case round =>
    obtain ⟨a', len', cap', M, rest, hle, rfl, HBI, HT, HM, HO, HB⟩ := hrel
    obtain ⟨oa, oc, rfl⟩ := owned_len HO.out
    by_cases h0 : 0 < len'
    case neg =>
      obtain rfl : len' = 0 := by omega
      have HX : Hid (ReadTold l M true) := Lib.hid (.inl ⟨rfl, HM.out, by rw [HT.out, List.length_eq_zero_iff.1 HBI.out.leng, List.append_nil]⟩)
      go_wp2_with fail
      go_ret2
      exact ⟨M, true, _, HX.out, rfl, HO.out, HB.out⟩
    case pos =>
      have t0 : decide ((0 : Int) < (len' : Int)) = true := by simp; omega
      have H1 := Lib.hid (HC.out a' len' cap' rest _ (HBI.out.below HB.out) (by omega))
      obtain ⟨g, off, rfl, hr⟩ := HBI.out.row h0
      have HNE : Hid (rest ≠ []) := Lib.hid (fun e => by have := HBI.out.leng; rw [e] at this; simp at this; omega)
      clear hr
      go_wp2_with fail
      refine H1.out.mono ?_
      rintro e w1 ⟨v, n, ok, ht, rfl, k1⟩
      have HB1 := Lib.hid (HB.out.trans (k1.mono HB.out.size))
      have HO1 := Lib.hid (ownsRow_below HO.out k1)
      clear k1 H1
      cases ok
      · have HX := Lib.hid (read_no HM.out HT.out HNE.out ht)
        have HB2 := Lib.hid (HB1.out.alloc HB1.out.size (.cells #[.int .i64 v.k, .int .i64 v.i, .string v.s, .bool v.b] 33))
        clear ht
        go_wp2_with fail
        go_ret2
        exact ⟨[], false, .slice none 0 0, HX.out, rfl, World.ownsRow_nil _ _ _ _, HB2.out⟩
      · have hnl := ht.pos.2
        rw [HBI.out.leng] at hnl
        have hn0 : 0 < n := by have := ht.pos.1; simpa using this.symm
        have hmo := read_more HM.out HT.out ht
        have HMo := Lib.hid hmo
        have hcnt := keys_count hmo.1
        have hML : M.length + 1 ≤ 1000000000 := by
          have := congrArg List.length hmo.2
          rw [List.length_append, HL.out] at this
          rw [List.length_append, List.length_singleton] at hcnt
          omega
        have i1 : (0 : Int) ≤ (n : Int) := by omega
        have i2 : (n : Int) ≤ (len' : Int) := by omega
        have hroom := HBI.out.room
        have HNx := Lib.hid (HBI.out.next hnl)
        have HEnd : Hid (cap' = n → len' = n ∧ rest.drop n = []) := Lib.hid (fun e => ⟨by omega, List.drop_eq_nil_iff.2 (by rw [HBI.out.leng]; omega)⟩)
        clear ht hmo hcnt
        go_wp2_with (at_builtin; refine wpList_append_own _ rfl _ _ 22 rfl w.heap.size 33 i0 (.agg #[.int .i64 0, .int .i64 0, .string ⟨#[]⟩, .bool false]) 4 40 Tryd.underlying22 HI.out HZ0.out HZ1.out HZ2.out rfl (by decide) _ _ _ rfl ((HO1.out.alloc _).alloc _) _ 1 1 [.int .i64 v.k, .int .i64 v.i, .string v.s, .bool v.b] rfl rfl ?c1 ?c2 ?c3 ?c4 ?c5 ?_)
        case c1 => exact new4 w1 _ _ _ _ _ _
        case c2 => intro u hu; simp at hu; rcases hu with rfl | rfl | rfl | rfl <;> rfl
        case c3 => unfold maxLen; omega
        case c4 => omega
        case c5 => have := HB1.out.size; simp; omega
        intro v' w2 hown' hgrow _
        have k5 := ((HB1.out.alloc HB1.out.size _).alloc (by have := HB1.out.size; simp; omega) _).grown hgrow (by have := HB1.out.size; simp; omega) (fun k hk => (HO1.out.lt k hk).1)
        have HO2 : Hid (w2.ownsRow w.heap.size 33 4 v' (M ++ [v]).length (cellsV (M ++ [v]))) := Lib.hid (by rw [cellsV_app, List.length_append]; exact hown')
        have HB2 := Lib.hid k5
        clear hown' hgrow k5 HO HB HO1 HB1
        by_cases hcn : cap' = n
        · obtain ⟨hl1, hd1⟩ := HEnd.out hcn
          have HE : Hid (BIn w (some ⟨g, off, none⟩) 0 0 (rest.drop n)) := Lib.hid (by rw [hd1]; exact BIn.none')
          subst hcn
          subst hl1
          clear hd1
          go_wp2_with fail
          go_roundw
          case rel => exact ⟨_, 0, 0, M ++ [v], _, by omega, by simp, HE, Lib.hid HMo.out.2, Lib.hid HMo.out.1, HO2, HB2⟩
          case measure => simp [lenV]; omega
        · go_wp2_with fail
          go_roundw
          case rel => exact ⟨_, len' - n, cap' - n, M ++ [v], _, by omega, rfl, HNx, Lib.hid HMo.out.2, Lib.hid HMo.out.1, HO2, HB2⟩
          case measure => simp [lenV]; omega
end Go.Proofs.YtppplkfidjjodaaDoor
