/- What csv.All does with any text. -/
import Derived.Test.YtkihjfdpfglkbaaDoorCsvNext2
namespace Go.Proofs.YtkihjfdpfglkbaaDoor
open Go.RowKit
set_option linter.unusedVariables false

theorem cs_result2 {fn : Func} {p q : Tmp} {ty : TypeId} (h : fn.results = #[.tmp p, .cell q ty]) (tmps : Array Value) (P : Program) (w : World) {a : Addr} {u v : Value}
    (h0 : tmps.getD p undef = u) (h1 : (asAddr (tmps.getD q undef)).run P w = .ok a w) (h2 : (loadVar ty a).run P w = .ok v w) : (results fn tmps).run P w = .ok (.tuple #[u, v]) w := by
  rw [Array.getD_eq_getD_getElem?] at h0 h1
  simp [results, h, Sem.run_bind, Result.andThen, h0, h1, h2]
def cLen : Value → Nat
  | .slice _ n _ => n
  | _ => 0
/-- All rows of a text, and what is first wrong, as an answer. -/
def AllPost (l : List UInt8) (w : World) (e : Ending) (w' : World) : Prop :=
  ∃ a cap vs, e = .returned (.tuple #[.slice a (allR l).1.length cap, failV (allR l).2.1 (allR l).2.2.1 (allR l).2.2.2]) ∧ RIn w' a (allR l).1.length (allR l).1 vs ∧ Below w.heap.size w w'

set_option maxHeartbeats 4000000 in
set_option maxRecDepth 100000 in
theorem all_calls (s : ByteArray) (w : World) (hs : s.size ≤ 4000000) (hm : MaxC w) (het : ErrT w) :
    Calls Tryd.prog 8 #[.string s] w (AllPost s.data.toList w) := by
  obtain ⟨l, hl⟩ : ∃ l, l = s.data.toList := ⟨_, rfl⟩
  rw [← hl]
  have HM := Lib.hid hm
  have HT := Lib.hid het
  have HX0 : Hid (allX l [] s.data.toList) := Lib.hid (by rw [hl]; exact allX_refl _)
  have HB0 := Lib.hid ((Below.refl w.heap.size w).alloc (Nat.le_refl _) (.cells #[.int .i64 0, .int .i64 0, .int .i64 0] 26))
  have HN := Lib.hid (new_calls s (w.alloc (.cells #[.int .i64 0, .int .i64 0, .int .i64 0] 26)))
  obtain ⟨i0, hi, hz0, hz1, hz2⟩ := cs_parts cs_infoT
  have HI := Lib.hid hi
  have HZ0 := Lib.hid hz0
  have HZ1 := Lib.hid hz1
  have HZ2 := Lib.hid hz2
  have hf0 : (w.alloc (.cells #[.int .i64 0, .int .i64 0, .int .i64 0] 26)).heap[w.heap.size]? = _ := heap_alloc_new _ _
  have HF0 := Lib.hid hf0
  clear hm het hl hi hz0 hz1 hz2 hf0
  go_enter Tryd.func8, Tryd.ntmps8
  go_wp2_with fail
  refine HN.out.mono ?_
  rintro e w1 ⟨rfl, h1, k1⟩
  simp only [World.size_alloc] at h1 k1 ⊢
  have HB1 := Lib.hid (HB0.out.trans (k1.mono (by omega)))
  have HF1 := Lib.hid ((k1.block w.heap.size (by omega)).trans HF0.out)
  have HR1 := Lib.hid h1
  obtain ⟨R, hR⟩ : ∃ R, R = w.heap.size + 1 + 1 := ⟨_, rfl⟩
  obtain ⟨P, hP⟩ : ∃ P, P = w.heap.size + 1 := ⟨_, rfl⟩
  rw [← hR, ← hP] at HR1
  rw [← hR]
  have hR0 : w.heap.size < R := by omega
  have hP0 : w.heap.size < P := by omega
  clear h1 k1 HN HB0 HF0 hR hP
  go_wp2_with fail
  go_loopw [4] (fun o wr => ∃ (x : ByteArray) (L : List (List (List UInt8))) (us : List Value), x.size + L.length ≤ s.size ∧ Hid (allX l L x.data.toList) ∧ Hid (wr.ownsRow w.heap.size 32 1 o L.length us) ∧ Hid (Rs wr us L) ∧ Hid (RdAt wr R P L.length x 0 0 0) ∧ Hid (Below w.heap.size w wr) ∧ Hid (wr.heap[w.heap.size]? = some (.cells #[.int .i64 0, .int .i64 0, .int .i64 0] 26 (0, 0)))) (fun o _ => s.size - cLen o)
  case atStart => exact ⟨s, [], [], by simp, HX0, Lib.hid (World.ownsRow_nil _ _ _ _), Lib.hid (Rs.nil _), HR1, HB1, HF1⟩
  case round =>
    clear HX0 HR1 HB1 HF1
    obtain ⟨x, L, us, hx, HX, HO, HS, HR, HB, HF⟩ := hrel
    obtain ⟨oa, oc, rfl⟩ := cs_own HO.out
    by_cases hx0 : x.size = 0
    · have HE : Hid (allR l = (L, 0, 0, 0)) := Lib.hid (allX_end (by
        have := HX.out
        rw [List.length_eq_zero_iff.1 ((cs_size x).symm.trans hx0)] at this
        exact this))
      have H1 := Lib.hid (nextStop_calls R P L.length 0 0 0 x wr HR.out (.inr hx0))
      have H2 := Lib.hid (fail_calls R P L.length 0 0 0 x wr HR.out)
      clear HX
      go_wp2_with fail
      refine H1.out.mono ?_
      rintro e w2 ⟨rfl, rfl⟩
      go_wp2_with fail
      refine H2.out.mono ?_
      rintro e w2 ⟨rfl, k2⟩
      have HB2 := Lib.hid (HB.out.trans (k2.mono HB.out.size))
      have HO2 := Lib.hid (cs_ownBelow HO.out k2)
      have HS2 := Lib.hid (HS.out.below k2)
      have hf2 := (k2.block w.heap.size (Array.getElem?_eq_some_iff.1 HF.out).1).trans HF.out
      have c0 : w2.cell? ⟨w.heap.size, 0, none⟩ = some (.int .i64 0) := by rw [cell_of_row w2 _ 0 _ _ _ hf2]; rfl
      have c1 : w2.cell? ⟨w.heap.size, 1, none⟩ = some (.int .i64 0) := by rw [cell_of_row w2 _ 1 _ _ _ hf2]; rfl
      have c2 : w2.cell? ⟨w.heap.size, 2, none⟩ = some (.int .i64 0) := by rw [cell_of_row w2 _ 2 _ _ _ hf2]; rfl
      have z0 := frozen_of_row w2 w.heap.size 0 _ _ hf2
      have z1 := frozen_of_row w2 w.heap.size 1 _ _ hf2
      have z2 := frozen_of_row w2 w.heap.size 2 _ _ hf2
      unfold failV
      go_wp2_with fail
      refine bodyPost_ret (v := .tuple #[.slice oa L.length oc, failV (0) (0) (0)]) ?_ rfl ?_
      · refine cs_result2 rfl _ _ _ (a := ⟨w.heap.size, 0, none⟩) (by rfl) (by rfl) ?_
        unfold failV
        go_simp
      · have hg : ∀ x y z, w2.grownBy (((w2.setCell ⟨w.heap.size, 0, none⟩ x).setCell ⟨w.heap.size, 1, none⟩ y).setCell ⟨w.heap.size, 2, none⟩ z) (some w.heap.size) := fun _ _ _ => cs_gtrans (cs_gtrans cs_set cs_set) cs_set
        have hbk : CBlk w2 w.heap.size 26 := ⟨_, _, hf2⟩
        have hO := cs_ownKept HO2.out hbk (by decide) (hg (.int .i64 ((0 : Nat) : Int)) (.int .i64 ((0 : Nat) : Int)) (.int .i64 ((0 : Nat) : Int)))
        have hS := HS2.out.grown hbk (by decide) (hg (.int .i64 ((0 : Nat) : Int)) (.int .i64 ((0 : Nat) : Int)) (.int .i64 ((0 : Nat) : Int)))
        obtain ⟨a, cap, e2, h3⟩ := own_rin hO hS
        cases e2
        rw [AllPost, HE.out]
        exact ⟨oa, oc, us, rfl, h3, cs_set3 HB2.out (Nat.le_refl _) _ _ _⟩
    · have hxn : x.data.toList ≠ [] := fun e => hx0 (by rw [cs_size, e]; rfl)
      have hx1 : 0 < x.size := by omega
      cases hrow : rowR x.data.toList with
      | error y =>
      obtain ⟨er, c⟩ := y
      have HE : Hid (allR l = (L, er, L.length + 1, c)) := Lib.hid (allX_err HX.out hxn hrow)
      have H1 := Lib.hid (nextErr_calls R P L.length 0 0 x er c wr HR.out (by omega) hx1 (by omega) (HM.out.below HB.out) (HT.out.below HB.out) hrow)
      have H2 := Lib.hid (fun w3 h => fail_calls R P L.length er (L.length + 1) c x w3 h)
      clear HX hxn hrow hx0
      go_wp2_with fail
      refine H1.out.mono ?_
      rintro e w2 ⟨rfl, hr2, w1', k1, g1⟩
      have hbR : CBlk w1' R 42 := (HR.out.below k1).blkR
      have hB2 := (HB.out.trans (k1.mono HB.out.size)).grown g1 (Nat.le_trans HB.out.size k1.size) (fun k hk => by cases hk; omega)
      have HO1 := Lib.hid (cs_ownKept (cs_ownBelow HO.out k1) hbR (by decide) g1)
      have HS1 := Lib.hid ((HS.out.below k1).grown hbR (by decide) g1)
      have HF1 := Lib.hid ((g1.block w.heap.size (Nat.lt_of_lt_of_le (Array.getElem?_eq_some_iff.1 HF.out).1 k1.size) (by simp; omega)).trans ((k1.block w.heap.size (Array.getElem?_eq_some_iff.1 HF.out).1).trans HF.out))
      have HB1 := Lib.hid hB2
      have H3 := Lib.hid (H2.out _ hr2)
      clear hB2 k1 g1 hbR hr2 H2 H1
      go_wp2_with fail
      refine H3.out.mono ?_
      rintro e w3 ⟨rfl, k2⟩
      have HB2 := Lib.hid (HB1.out.trans (k2.mono HB1.out.size))
      have HO2 := Lib.hid (cs_ownBelow HO1.out k2)
      have HS2 := Lib.hid (HS1.out.below k2)
      have hf2 := (k2.block w.heap.size (Array.getElem?_eq_some_iff.1 HF1.out).1).trans HF1.out
      have c0 : w3.cell? ⟨w.heap.size, 0, none⟩ = some (.int .i64 0) := by rw [cell_of_row w3 _ 0 _ _ _ hf2]; rfl
      have c1 : w3.cell? ⟨w.heap.size, 1, none⟩ = some (.int .i64 0) := by rw [cell_of_row w3 _ 1 _ _ _ hf2]; rfl
      have c2 : w3.cell? ⟨w.heap.size, 2, none⟩ = some (.int .i64 0) := by rw [cell_of_row w3 _ 2 _ _ _ hf2]; rfl
      have z0 := frozen_of_row w3 w.heap.size 0 _ _ hf2
      have z1 := frozen_of_row w3 w.heap.size 1 _ _ hf2
      have z2 := frozen_of_row w3 w.heap.size 2 _ _ hf2
      unfold failV
      go_wp2_with fail
      refine bodyPost_ret (v := .tuple #[.slice oa L.length oc, failV (er) (L.length + 1) (c)]) ?_ rfl ?_
      · refine cs_result2 rfl _ _ _ (a := ⟨w.heap.size, 0, none⟩) (by rfl) (by rfl) ?_
        unfold failV
        go_simp
      · have hg : ∀ x y z, w3.grownBy (((w3.setCell ⟨w.heap.size, 0, none⟩ x).setCell ⟨w.heap.size, 1, none⟩ y).setCell ⟨w.heap.size, 2, none⟩ z) (some w.heap.size) := fun _ _ _ => cs_gtrans (cs_gtrans cs_set cs_set) cs_set
        have hbk : CBlk w3 w.heap.size 26 := ⟨_, _, hf2⟩
        have hO := cs_ownKept HO2.out hbk (by decide) (hg (.int .i64 ((er : Nat) : Int)) (.int .i64 ((L.length + 1 : Nat) : Int)) (.int .i64 ((c : Nat) : Int)))
        have hS := HS2.out.grown hbk (by decide) (hg (.int .i64 ((er : Nat) : Int)) (.int .i64 ((L.length + 1 : Nat) : Int)) (.int .i64 ((c : Nat) : Int)))
        obtain ⟨a, cap, e2, h3⟩ := own_rin hO hS
        cases e2
        rw [AllPost, HE.out]
        exact ⟨oa, oc, us, rfl, h3, cs_set3 HB2.out (Nat.le_refl _) _ _ _⟩
      | ok y =>
      obtain ⟨fs, r⟩ := y
      have hfa := rowR_facts hrow
      have hrl := hfa.1 hxn
      rw [← cs_size] at hrl
      have HX2 := Lib.hid (allX_more HX.out hxn hrow)
      have H1 := Lib.hid (nextOk_calls R P L.length 0 0 x fs r wr HR.out (by omega) hx1 (by omega) (HM.out.below HB.out) hrow)
      have HrS : Hid ((⟨r.toArray⟩ : ByteArray).size = r.length) := Lib.hid (by rw [cs_size])
      clear HX hxn hrow hx0 hfa
      go_wp2_with fail
      refine H1.out.mono ?_
      rintro e w2 ⟨a, cap, rfl, hT2, hO2, hr2, w1', k1, g1⟩
      have hbP : CBlk w1' P 51 := (HR.out.below k1).blkP
      have hB2 := (HB.out.trans (k1.mono HB.out.size)).grown g1 (Nat.le_trans HB.out.size k1.size) (fun k hk => by cases hk; omega)
      have HO1 := Lib.hid (cs_ownKept (cs_ownBelow HO.out k1) hbP (by decide) g1)
      have HS1 := Lib.hid ((HS.out.below k1).grown hbP (by decide) g1)
      have HF1 := Lib.hid ((g1.block w.heap.size (Nat.lt_of_lt_of_le (Array.getElem?_eq_some_iff.1 HF.out).1 k1.size) (by simp; omega)).trans ((k1.block w.heap.size (Array.getElem?_eq_some_iff.1 HF.out).1).trans HF.out))
      have HB1 := Lib.hid hB2
      have HS2 := Lib.hid (HS1.out.snoc (c := cap) hT2 hO2)
      have HR2 := Lib.hid hr2
      clear hB2 k1 g1 hbP hr2 H1 hT2 hO2 HB HR HS HO HF
      go_wp2_with (at_builtin; refine wpList_append_own _ rfl _ _ 23 rfl w.heap.size 32 i0 _ 1 24 Tryd.underlying23 HI.out HZ0.out HZ1.out HZ2.out rfl (by decide) _ _ _ rfl (HO1.out.alloc _) ⟨w2.heap.size, 0, none⟩ 1 1 [.slice a fs.length cap] rfl rfl (cs_new w2 _ _) (by intro u hu; simp at hu; subst hu; rfl) (by unfold maxLen; omega) (by omega) (by have := HB1.out.size; simp; omega) ?_; intro v' w4 ho4 hg4 _)
      have hRow := HO1.out.alloc (.cells #[.slice a fs.length cap] 32)
      have HB4 := Lib.hid ((HB1.out.alloc HB1.out.size (.cells #[.slice a fs.length cap] 32)).grown hg4 (by have := HB1.out.size; simp; omega) (fun k hk => (HO1.out.lt k hk).1))
      have HO4 : Hid (w4.ownsRow w.heap.size 32 1 v' (L ++ [fs]).length (us ++ [.slice a fs.length cap])) := Lib.hid (by rw [List.length_append]; exact ho4)
      have hR3 := HR2.out.alloc (.cells #[.slice a fs.length cap] 32)
      have HR4 : Hid (RdAt w4 R P (L ++ [fs]).length ⟨r.toArray⟩ 0 0 0) := Lib.hid (by rw [List.length_append]; exact hR3.grown hg4 (hR3.blkR.far hRow (by decide)) (hR3.blkP.far hRow (by decide)))
      have hb1 := (Below.refl w2.heap.size w2).alloc (Nat.le_refl _) (.cells #[.slice a fs.length cap] 32)
      have HS4 := Lib.hid ((HS2.out.below hb1).grownRow hRow (by decide) hg4)
      have hbF : CBlk (w2.alloc (.cells #[.slice a fs.length cap] 32)) w.heap.size 26 := ⟨_, _, (hb1.block _ (Array.getElem?_eq_some_iff.1 HF1.out).1).trans HF1.out⟩
      have HF4 := Lib.hid ((hg4.block w.heap.size (by have := (Array.getElem?_eq_some_iff.1 HF1.out).1; simp; omega) (hbF.far hRow (by decide))).trans ((hb1.block _ (Array.getElem?_eq_some_iff.1 HF1.out).1).trans HF1.out))
      clear ho4 hg4 hRow hR3 hbF hb1 HO1 HS1 HF1 HB1 HS2 HR2
      have HLn : Hid ((L ++ [fs]).length = L.length + 1) := Lib.hid (by simp)
      go_wp2_with fail
      go_roundw
      case rel => exact ⟨⟨r.toArray⟩, L ++ [fs], us ++ [.slice a fs.length cap], by rw [HrS.out, HLn.out]; omega, HX2, HO4, HS4, HR4, HB4, HF4⟩
      case measure =>
        obtain ⟨oa4, oc4, rfl⟩ := cs_own HO4.out
        simp [cLen]; omega
end Go.Proofs.YtkihjfdpfglkbaaDoor
