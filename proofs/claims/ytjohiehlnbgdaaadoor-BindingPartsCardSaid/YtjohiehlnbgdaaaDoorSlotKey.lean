/- What binding.Key does with a binding that may be. -/
import Derived.Test.YtjohiehlnbgdaaaDoorBindBuild
import Derived.Test.YtjohiehlnbgdaaaDoorLowKey
import Derived.Test.YtjohiehlnbgdaaaDoorSlotUnion
import Derived.Test.YtjohiehlnbgdaaaDoorSlotRight
namespace Go.Proofs.YtjohiehlnbgdaaaDoor
open Go.RowKit
set_option linter.unusedVariables false

/-- A slot's part of a key. -/
def slotKey (z : Sd) : List UInt8 := UInt8.ofNat (16 + z.x.toNat) :: keyV z.v
def bkeyL : List Sd → List UInt8
  | [] => []
  | z :: L => slotKey z ++ bkeyL L
theorem bkey_app : ∀ A B : List Sd, bkeyL (A ++ B) = bkeyL A ++ bkeyL B
  | [], _ => rfl
  | z :: A, B => by rw [List.cons_append, bkeyL, bkeyL, bkey_app A B, List.append_assoc]
/-- What a slot of a binding that may be keeps to. -/
def KeyS (z : Sd) : Prop := (0 ≤ z.x ∧ z.x ≤ 7) ∧ rightD z.v
theorem bkey_max : ∀ {L : List Sd}, (∀ z ∈ L, KeyS z) → (bkeyL L).length ≤ 8196 * L.length
  | [], _ => by simp [bkeyL]
  | z :: L, h => by
    have h1 := key_max (h z (by simp)).2
    have h2 := bkey_max (L := L) (fun u hu => h u (by simp [hu]))
    rw [bkeyL, slotKey, List.length_append, List.length_cons, List.length_cons]
    omega
theorem bkey_next (L : List Sd) (n : Nat) (h : n < L.length) : bkeyL (L.take (n + 1)) = bkeyL (L.take n) ++ (UInt8.ofNat (16 + (L.getD n default).x.toNat) :: keyV (L.getD n default).v) := by
  rw [List.take_succ_eq_append_getElem h, bkey_app, bkeyL, bkeyL, List.append_nil]
  simp [List.getD, h, slotKey]
theorem keyS_of {L : List Sd} (hr : rightL L = true) (hf : ∀ z ∈ L, FitS z) : ∀ z ∈ L, KeyS z := by
  have key : ∀ (L : List Sd) (lo : Int), 0 ≤ lo → rightFrom lo L = true → (∀ z ∈ L, FitS z) → ∀ z ∈ L, KeyS z := by
    intro L
    induction L with
    | nil => intro _ _ _ _ z hz; simp at hz
    | cons a L ih =>
      intro lo hlo h hf z hz
      simp only [rightFrom, Bool.and_eq_true, decide_eq_true_eq] at h
      rcases List.mem_cons.1 hz with rfl | hz
      · exact ⟨⟨by omega, h.1.1.2⟩, h.1.2, (hf z (by simp)).2.2⟩
      · exact ih (a.x + 1) (by omega) h.2 (fun u hu => hf u (by simp [hu])) z hz
  exact key L 0 (by omega) hr hf

set_option maxHeartbeats 4000000 in
set_option maxRecDepth 100000 in
theorem bKey_calls (a : Option Addr) (len cap : Nat) (L : List Sd) (w : World) (hs : SIn w a len L) (hall : ∀ z ∈ L, KeyS z) (hlen : len ≤ 1000) (hm : MaxAt w) :
    Calls Tryd.prog 16 #[.slice a len cap] w fun e w' => e = .returned (.string ⟨(bkeyL L).toArray⟩) ∧ Below w.heap.size w w' := by
  have H := Lib.hid hs
  have HL := Lib.hid hs.leng
  have HAll := Lib.hid hall
  have HM := Lib.hid hm
  have HMx : Hid (∀ n, (bkeyL (L.take n)).length ≤ 8196000) := Lib.hid (fun n => by
    have h1 := bkey_max (L := L.take n) (fun z hz => hall z (List.mem_of_mem_take hz))
    have h2 : (L.take n).length ≤ 1000 := by rw [List.length_take, hs.leng]; omega
    omega)
  have HOf := Lib.hid (fun (v : Vd) (hv : rightD v) (g : Nat) w1 (hi : VIn w1 (some ⟨g, 0, none⟩) 1 [v]) (hm1 : MaxAt w1) => ofYes_calls (some ⟨g, 0, none⟩) 1 1 [v] w1 hi (fun u hu => by simp at hu; subst hu; exact hv) (by omega) hm1)
  clear hs hall hm
  go_enter Tryd.func16, Tryd.ntmps16
  go_wp2_with fail
  go_loopw [8] (fun i wr => ∃ (n : Nat), n ≤ len ∧ i = .int .i64 n ∧ Hid (bld.MayB w.heap.size w.heap.size (bkeyL (L.take n)) wr) ∧ Hid (Below w.heap.size w wr) ∧ w.heap.size < wr.heap.size) (fun i _ => len - (intOf i).toNat)
  case atStart => exact ⟨0, Nat.zero_le _, rfl, Lib.hid (bld.MayB.fresh (Nat.le_refl _) (World.alloc_heap_new w _)), Lib.hid ((Below.refl _ w).alloc (Nat.le_refl _) _), by simp⟩
  case round =>
    obtain ⟨n, hn, rfl, HMB, HB, hbl⟩ := hrel
    by_cases h : n < len
    case neg =>
      obtain rfl : n = len := by omega
      have H1 := Lib.hid (bld.string_calls w.heap.size w.heap.size (bkeyL L) wr (by have := HMB.out; rwa [List.take_of_length_le (by rw [HL.out]; exact Nat.le_refl _)] at this) HB.out.size)
      go_wp2_with fail
      refine H1.out.mono ?_
      rintro e w1 ⟨rfl, k1⟩
      have HB1 := Lib.hid (HB.out.trans k1)
      clear k1
      go_wp2_with fail
      go_ret
      exact ⟨rfl, HB1.out⟩
    case pos =>
      obtain ⟨g, off, rfl, hg, hc⟩ := H.out.at' HB.out h
      have hks := HAll.out _ (getD_mem (L := L) (n := n) (by rw [HL.out]; exact h))
      have HNx := Lib.hid (bkey_next L n (by rw [HL.out]; exact h))
      have hq1 := HMx.out n
      have hq2 := HMx.out (n + 1)
      generalize L.getD n default = z at hc hks HNx
      obtain ⟨q, hq⟩ : ∃ q, q = bkeyL (L.take n) := ⟨_, rfl⟩
      rw [← hq] at hq1 HNx HMB
      obtain ⟨r, hr⟩ : ∃ r, r = bkeyL (L.take (n + 1)) := ⟨_, rfl⟩
      rw [← hr] at hq2 HNx
      have HRr := Lib.hid hr
      obtain ⟨c, hcc⟩ : ∃ c, c = UInt8.ofNat (16 + z.x.toNat) := ⟨_, rfl⟩
      have hct : (c.toNat : Int) = 16 + z.x := by
        have := hks.1
        rw [hcc, UInt8.toNat_ofNat']
        omega
      have hws : IntKind.i64.wrap (16 + z.x) = 16 + z.x := by have := hks.1; rw [IntKind.wrap_i64]; omega
      have hwb : IntKind.u8.wrap (16 + z.x) = (c.toNat : Int) := by have := hks.1; rw [hct]; show IntKind.u8.wrap (16 + z.x) = 16 + z.x; simp only [IntKind.wrap, IntKind.bits, IntKind.signed]; simp; omega
      rw [← hcc] at HNx
      have hkp := key_pos hks.2
      have HKS := Lib.hid hks
      obtain ⟨y, hy⟩ : ∃ y, y = keyV z.v := ⟨_, rfl⟩
      rw [← hy] at HNx hkp
      have HY := Lib.hid hy
      have hyl : q.length + 1 + y.length ≤ 8196000 := by
        rw [HNx.out, List.length_append, List.length_cons] at hq2
        omega
      obtain ⟨wa, hwa⟩ : ∃ wa, wr.alloc (.cells #[.int .i64 z.x, .int .i64 z.v.k, .int .i64 z.v.i, .string z.v.s, .bool z.v.b] 36) = wa := ⟨_, rfl⟩
      have HBl : Hid (Blk wa wr.heap.size #[.int .i64 z.x, .int .i64 z.v.k, .int .i64 z.v.i, .string z.v.s, .bool z.v.b] 36) := Lib.hid (by rw [← hwa]; exact Blk.new wr _ _)
      have kwa : Below wr.heap.size wr wa := by rw [← hwa]; exact (Below.refl _ wr).alloc (Nat.le_refl _) _
      have HBa := Lib.hid (HB.out.trans (kwa.mono HB.out.size))
      have HMa := Lib.hid (HMB.out.below kwa)
      have H1 := Lib.hid (bld.writeByteQ_calls w.heap.size w.heap.size q c wa HMa.out (by omega) HBa.out.size wr.heap.size _ 36 (by decide) HBl.out (by omega))
      have hL : LiesS wr.heap.size 0 z wa := by rw [← hwa]; exact LiesS.new z wr 36
      obtain ⟨e0, e1, e2, e3, e4⟩ := hL
      obtain ⟨c0, c1, c2, c3, c4⟩ := hc
      clear hq hr hcc hy hks kwa
      rw [hct] at H1
      have hk1 : keysL [z.v] = y := by rw [keysL, keysL, List.append_nil, HY.out]
      have H2 := Lib.hid (HOf.out z.v HKS.out.2)
      rw [hk1] at H2
      have hfs : z.v.s.size ≤ 9223372036854775807 := by have := right_size HKS.out.2.1; omega
      have HFs := Lib.hid hfs
      clear hk1 hfs
      go_wp2_with fail
      refine H1.out.mono ?_
      rintro e w1 ⟨rfl, hB1, k1, hbk⟩
      have HIs := Lib.hid hB1
      have HB1 := Lib.hid (HBa.out.trans k1)
      have hblk : Blk w1 wr.heap.size #[.int .i64 z.x, .int .i64 z.v.k, .int .i64 z.v.i, .string z.v.s, .bool z.v.b] 36 := hbk
      have f1 := hblk.cell 1
      have f2 := hblk.cell 2
      have f3 := hblk.cell 3
      have f4 := hblk.cell 4
      simp only [List.getElem?_toArray, List.getElem?_cons_zero, List.getElem?_cons_succ] at f1 f2 f3 f4
      have HVI := Lib.hid (VIn.one z.v w1 34 HFs.out HKS.out.2.2)
      have kal : Below w1.heap.size w1 (w1.alloc (.cells #[.int .i64 z.v.k, .int .i64 z.v.i, .string z.v.s, .bool z.v.b] 34)) := (Below.refl _ w1).alloc (Nat.le_refl _) _
      have HKal := Lib.hid kal
      clear hB1 k1 hbk hblk H1 kal e0 e1 e2 e3 e4 c0 c1 c2 c3 c4
      go_wp2_with fail
      refine (H2.out _ _ HVI.out (HM.out.below (HB1.out.trans (HKal.out.mono HB1.out.size)))).mono ?_
      rintro e w3 ⟨⟨gk, rfl, hgk, hhold⟩, k3⟩
      have k13 := HKal.out.trans (k3.mono HKal.out.size)
      have HB3 := Lib.hid (HB1.out.trans (k13.mono HB1.out.size))
      have H4 := Lib.hid (bld.write_calls w.heap.size w.heap.size gk y.length (q ++ [c]) y w3 (HIs.out.below k13) (by omega) (by rw [List.length_append, List.length_singleton]; omega) HB3.out.size (fun j u hj => by
        rw [show (⟨gk, 0, none⟩ : Addr).add j = ⟨gk, j, none⟩ by unfold Addr.add; split <;> simp_all]
        simp only [Lib.byteCells, List.getElem?_map, Option.map_eq_some_iff] at hj
        obtain ⟨c', hj, rfl⟩ := hj
        exact hhold.cell hj))
      clear k13 k3 hhold H2
      go_wp2_with fail
      refine H4.out.mono ?_
      rintro e w4 ⟨rfl, hB4, k4⟩
      have HB4 := Lib.hid (HB3.out.trans k4)
      have hl4 : w.heap.size < w4.heap.size := by have := k4.size; have := HB3.out.size; have := bld.IsB.lt hB4; omega
      have HM4 : Hid (bld.MayB w.heap.size w.heap.size (bkeyL (L.take (n + 1))) w4) := Lib.hid (by
        rw [← HRr.out, HNx.out]
        have := hB4.may
        rwa [List.append_assoc, List.singleton_append] at this)
      clear hB4 k4 H4
      go_wp2_with fail
      go_roundw
      case rel => exact ⟨n + 1, by omega, by go_num, HM4, HB4, hl4⟩
      case measure => simp [intOf]; omega
end Go.Proofs.YtjohiehlnbgdaaaDoor
