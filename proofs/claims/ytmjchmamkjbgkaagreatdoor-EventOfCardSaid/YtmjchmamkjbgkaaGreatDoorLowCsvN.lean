/- Contracts of a lower layer, several texts in one. -/
import Derived.Test.YtmjchmamkjbgkaaGreatDoorCsvOwn
import Derived.Test.YtmjchmamkjbgkaaGreatDoorCsvCut
import Derived.Test.YtmjchmamkjbgkaaGreatDoorCsvAs
import Derived.Test.YtmjchmamkjbgkaaGreatDoorCsvIs
import Derived.Deep.RegionHeld3
import Derived.Laws.ResultCell
/- CsvRow -/
namespace Go.Proofs.YtmjchmamkjbgkaaGreatDoor
open Go.RowKit
set_option linter.unusedVariables false

theorem cp_calls (s : ByteArray) (w : World) :
    Calls Tryz.prog 91 #[.string s, .string ⟨#[44]⟩] w fun e w' => e = .returned (.tuple #[.string ⟨(if s.data.toList.head? = some 44 then s.data.toList.drop 1 else s.data.toList).toArray⟩, .bool (s.data.toList.head? == some 44)]) ∧ w = w' := by
  refine (Tryz.strings_CutPrefix s ⟨#[44]⟩ w).mono ?_
  rintro e w' ⟨rfl, rfl⟩
  refine ⟨?_, rfl⟩
  rw [show (⟨#[44]⟩ : ByteArray).data.toList = [44] from rfl, Lib.trimPrefix, hp_one]
  by_cases h : s.data.toList.head? = some 44
  · rw [if_pos h, if_pos (beq_iff_eq.2 h)]; rfl
  · rw [if_neg h, if_neg (by simpa using h)]
theorem tp_calls (s : ByteArray) (w : World) :
    Calls Tryz.prog 92 #[.string s, .string ⟨#[13, 10]⟩] w fun e w' => e = .returned (.string ⟨(cutE s.data.toList).toArray⟩) ∧ w = w' := by
  refine (Tryz.strings_TrimPrefix s ⟨#[13, 10]⟩ w).mono ?_
  rintro e w' ⟨rfl, rfl⟩
  exact ⟨rfl, rfl⟩
def textLen : Value → Nat
  | .string x => x.size
  | _ => 0
def moreN : Value → Nat → Nat
  | .bool true, n => n + 1
  | _, _ => 0
/-- What is told of a row: its fields, and what stands behind it; or what is wrong. -/
def RowPost (l : List UInt8) (w : World) (e : Ending) (w' : World) : Prop :=
  (∃ er c E, rowR l = .error (er, c) ∧ e = .returned (.tuple #[.slice none 0 0, .string ⟨#[]⟩, .iface 134 (.pointer (some ⟨E, 0, none⟩))]) ∧ w.heap.size ≤ E ∧ w'.heap[E]? = some (.cells #[.int .i64 (c : Nat), .iface 30 (.int .i64 (er : Nat))] 138 (0, 0)) ∧ Below w.heap.size w w') ∨
  (∃ fs r a cap, rowR l = .ok (fs, r) ∧ e = .returned (.tuple #[.slice a fs.length cap, .string ⟨r.toArray⟩, .nilIface]) ∧ TIn w' a fs.length fs ∧ (TObj w' a ∧ fs.length ≤ cap ∧ cap ≤ 9223372036854775807) ∧ Below w.heap.size w w')

set_option maxHeartbeats 4000000 in
set_option maxRecDepth 100000 in
theorem cutRow_calls (s : ByteArray) (w : World) (hs : s.size ≤ 4000000) (hm : MaxC w) :
    Calls Tryz.prog 66 #[.string s] w (RowPost s.data.toList w) := by
  obtain ⟨l, hl⟩ : ∃ l, l = s.data.toList := ⟨_, rfl⟩
  rw [← hl]
  have HM := Lib.hid hm
  have HC := Lib.hid (fun (t : ByteArray) (w1 : World) (h : t.size ≤ 4000000) (hm1 : MaxC w1) => cutField_calls t w1 h hm1)
  have HCP := Lib.hid (fun t w1 => cp_calls t w1)
  have HTP := Lib.hid (fun t w1 => tp_calls t w1)
  have HX0 : Hid (rowX l [] s.data.toList) := Lib.hid (by rw [hl]; exact rowX_refl _)
  obtain ⟨i0, hi, hz0, hz1, hz2⟩ := cs_parts cs_infoS
  have HI := Lib.hid hi
  have HZ0 := Lib.hid hz0
  have HZ1 := Lib.hid hz1
  have HZ2 := Lib.hid hz2
  clear hm hl hi hz0 hz1 hz2
  go_enter Tryz.func66, Tryz.ntmps66
  go_wp2_with fail
  go_loopw [0, 5, 6] (fun xs o b wr => ∃ (x : ByteArray) (fs : List (List UInt8)) (more : Bool), xs = .string x ∧ b = .bool more ∧ x.size ≤ s.size ∧ fs.length ≤ 4000001 ∧ (more = true → fs.length + x.size ≤ s.size) ∧ Hid (if more then rowX l fs x.data.toList else rowR l = .ok (fs, cutE x.data.toList)) ∧ Hid (wr.ownsRow w.heap.size 9 1 o fs.length (strsV fs)) ∧ Hid (Below w.heap.size w wr)) (fun xs _ b _ => moreN b (textLen xs))
  case atStart => exact ⟨s, [], true, rfl, rfl, Nat.le_refl _, by simp, fun _ => by simp, HX0, Lib.hid (World.ownsRow_nil _ _ _ _), Lib.hid (Below.refl _ _)⟩
  case round =>
    clear HX0
    rename_i o _
    obtain ⟨x, fs, more, rfl, rfl, hx, hf1, hf2, HX, HO, HB⟩ := hrel
    cases more
    · have H1 := Lib.hid (fun w1 => HTP.out x w1)
      have HX1 : Hid (rowR l = .ok (fs, cutE x.data.toList)) := HX
      clear HX
      obtain ⟨a, cap, rfl, h2, h3⟩ := own_tin2 HO.out
      have HT := Lib.hid h2
      have HT3 := Lib.hid h3
      clear h2 h3
      go_wp2_with fail
      refine (H1.out _).mono ?_
      rintro e w1 ⟨rfl, rfl⟩
      go_wp2_with fail
      go_ret3
      exact .inr ⟨fs, _, a, cap, HX1.out, rfl, HT.out, HT3.out, HB.out⟩
    · have hf3 := hf2 rfl
      have HX1 : Hid (rowX l fs x.data.toList) := HX
      clear HX hf2
      have H1 := Lib.hid (HC.out x wr (by omega) (HM.out.below HB.out))
      cases hfr : fieldR x.data.toList with
      | error er =>
        have HR := Lib.hid (rowX_err HX1.out hfr)
        rw [hfr] at H1
        have H2 : Hid (Calls Tryz.prog 90 #[.string x] wr fun e w' => e = .returned (.tuple #[.string ⟨#[]⟩, .string ⟨#[]⟩, .iface 30 (.int .i64 (er : Nat))]) ∧ Below wr.heap.size wr w') := H1
        obtain ⟨oa, oc, rfl⟩ := cs_own HO.out
        clear H1 hfr HX1
        go_wp2_with fail
        refine H2.out.mono ?_
        rintro e w1 ⟨rfl, k1⟩
        have HB1 := Lib.hid (HB.out.trans (k1.mono HB.out.size))
        clear k1
        go_wp2_with fail
        go_ret3
        exact .inl ⟨er, fs.length + 1, w1.heap.size, HR.out, by go_num, HB1.out.size, by rw [heap_alloc_new]; go_num, HB1.out.alloc HB1.out.size _⟩
      | ok y =>
        obtain ⟨f, r⟩ := y
        rw [hfr] at H1
        have hrl := fieldR_rest hfr
        rw [← cs_size] at hrl
        have H2 : Hid (Calls Tryz.prog 90 #[.string x] wr fun e w' => e = .returned (.tuple #[.string ⟨f.toArray⟩, .string ⟨r.toArray⟩, .nilIface]) ∧ Below wr.heap.size wr w') := H1
        have H3 := Lib.hid (fun w1 => HCP.out ⟨r.toArray⟩ w1)
        rw [show (⟨r.toArray⟩ : ByteArray).data.toList = r from rfl] at H3
        obtain ⟨F, hF⟩ : ∃ F : ByteArray, F = ⟨f.toArray⟩ := ⟨_, rfl⟩
        obtain ⟨R, hR⟩ : ∃ R : ByteArray, R = ⟨r.toArray⟩ := ⟨_, rfl⟩
        rw [← hF, ← hR] at H2
        rw [← hR] at H3
        have HFe := Lib.hid hF
        clear H1 hF hR
        by_cases h44 : r.head? = some 44
        · have hr1 : 1 ≤ r.length := by
            cases r with
            | nil => cases h44
            | cons c r => simp
          have HX2 := Lib.hid (rowX_more HX1.out hfr h44)
          have HS : Hid ((⟨(r.drop 1).toArray⟩ : ByteArray).size = r.length - 1) := Lib.hid (by rw [cs_size]; simp)
          rw [if_pos h44, show (r.head? == some 44) = true from beq_iff_eq.2 h44] at H3
          obtain ⟨Y, hY⟩ : ∃ Y : ByteArray, Y = ⟨(r.drop 1).toArray⟩ := ⟨_, rfl⟩
          rw [← hY] at H3 HS
          have HX3 : Hid (if true then rowX l (fs ++ [f]) Y.data.toList else rowR l = .ok (fs ++ [f], cutE Y.data.toList)) := Lib.hid (by rw [hY]; exact HX2.out)
          clear hfr HX1 HX2 h44 hY
          go_wp2_with fail
          refine H2.out.mono ?_
          rintro e w1 ⟨rfl, k1⟩
          have HB1 := Lib.hid (HB.out.trans (k1.mono HB.out.size))
          have HO1 := Lib.hid (cs_ownBelow HO.out k1)
          clear k1 HO H2
          go_wp2_with (at_builtin; refine wpList_append_own _ rfl _ _ 23 rfl w.heap.size 9 i0 _ 1 16 Tryz.underlying23 HI.out HZ0.out HZ1.out HZ2.out rfl (by decide) _ _ _ rfl (HO1.out.alloc _) ⟨w1.heap.size, 0, none⟩ 1 1 [.string F] rfl rfl (cs_new w1 _ _) (by intro u hu; simp at hu; subst hu; rfl) (by unfold maxLen; omega) (by omega) (by have := HB1.out.size; simp; omega) ?_; intro v' w2 ho2 hg2 _)
          have HB2 := Lib.hid ((HB1.out.alloc HB1.out.size (.cells #[.string F] 9)).grown hg2 (by have := HB1.out.size; simp; omega) (fun k hk => (HO1.out.lt k hk).1))
          have HO2 : Hid (w2.ownsRow w.heap.size 9 1 v' (fs ++ [f]).length (strsV (fs ++ [f]))) := Lib.hid (by rw [strsV_app, List.length_append, show strsV [f] = [.string F] by rw [HFe.out]; rfl]; exact ho2)
          clear ho2 hg2 HO1 HB1 HB
          go_wp2_with fail
          refine (H3.out _).mono ?_
          rintro e w3 ⟨rfl, rfl⟩
          go_wp2_with fail
          have HSo := HS.out
          have HLn : Hid ((fs ++ [f]).length = fs.length + 1) := Lib.hid (by simp)
          go_roundw
          case rel => exact ⟨Y, fs ++ [f], true, rfl, rfl, by omega, by rw [HLn.out]; omega, fun _ => by rw [HLn.out]; omega, HX3, HO2, HB2⟩
          case measure => simp [moreN, textLen]; omega
        · have HX2 := Lib.hid (rowX_end HX1.out hfr h44)
          rw [if_neg h44, show (r.head? == some 44) = false from beq_eq_false_iff_ne.2 h44] at H3
          obtain ⟨Y, hY⟩ : ∃ Y : ByteArray, Y = ⟨r.toArray⟩ := ⟨_, rfl⟩
          have HS : Hid (Y.size = r.length) := Lib.hid (by rw [hY, cs_size])
          rw [← hY] at H3
          have HX3 : Hid (if false then rowX l (fs ++ [f]) Y.data.toList else rowR l = .ok (fs ++ [f], cutE Y.data.toList)) := Lib.hid (by rw [hY]; exact HX2.out)
          clear hfr HX1 HX2 h44 hY
          go_wp2_with fail
          refine H2.out.mono ?_
          rintro e w1 ⟨rfl, k1⟩
          have HB1 := Lib.hid (HB.out.trans (k1.mono HB.out.size))
          have HO1 := Lib.hid (cs_ownBelow HO.out k1)
          clear k1 HO H2
          go_wp2_with (at_builtin; refine wpList_append_own _ rfl _ _ 23 rfl w.heap.size 9 i0 _ 1 16 Tryz.underlying23 HI.out HZ0.out HZ1.out HZ2.out rfl (by decide) _ _ _ rfl (HO1.out.alloc _) ⟨w1.heap.size, 0, none⟩ 1 1 [.string F] rfl rfl (cs_new w1 _ _) (by intro u hu; simp at hu; subst hu; rfl) (by unfold maxLen; omega) (by omega) (by have := HB1.out.size; simp; omega) ?_; intro v' w2 ho2 hg2 _)
          have HB2 := Lib.hid ((HB1.out.alloc HB1.out.size (.cells #[.string F] 9)).grown hg2 (by have := HB1.out.size; simp; omega) (fun k hk => (HO1.out.lt k hk).1))
          have HO2 : Hid (w2.ownsRow w.heap.size 9 1 v' (fs ++ [f]).length (strsV (fs ++ [f]))) := Lib.hid (by rw [strsV_app, List.length_append, show strsV [f] = [.string F] by rw [HFe.out]; rfl]; exact ho2)
          clear ho2 hg2 HO1 HB1 HB
          go_wp2_with fail
          refine (H3.out _).mono ?_
          rintro e w3 ⟨rfl, rfl⟩
          go_wp2_with fail
          have HSo := HS.out
          have HLn : Hid ((fs ++ [f]).length = fs.length + 1) := Lib.hid (by simp)
          go_roundw
          case rel => exact ⟨Y, fs ++ [f], false, rfl, rfl, by omega, by rw [HLn.out]; omega, (fun h => (by cases h)), HX3, HO2, HB2⟩
          case measure => simp [moreN, textLen]
end Go.Proofs.YtmjchmamkjbgkaaGreatDoor

/- CsvNext -/
namespace Go.Proofs.YtmjchmamkjbgkaaGreatDoor
open Go.RowKit
set_option linter.unusedVariables false

/-- A reader and its place, in memory. -/
structure RdAt (w : World) (R P k : Nat) (rest : ByteArray) (e line col : Nat) : Prop where
  rd : w.heap[R]? = some (.cells #[.pointer (some ⟨P, 0, none⟩), .int .i64 (e : Nat), .int .i64 (line : Nat), .int .i64 (col : Nat)] 61 (0, 0))
  pl : w.heap[P]? = some (.cells #[.int .i64 (k : Nat), .string rest] 102 (0, 0))
theorem RdAt.blkR {w : World} {R P k e line col : Nat} {rest : ByteArray} (h : RdAt w R P k rest e line col) : CBlk w R 61 := ⟨_, _, h.rd⟩
theorem RdAt.blkP {w : World} {R P k e line col : Nat} {rest : ByteArray} (h : RdAt w R P k rest e line col) : CBlk w P 102 := ⟨_, _, h.pl⟩
theorem RdAt.ne {w : World} {R P k e line col : Nat} {rest : ByteArray} (h : RdAt w R P k rest e line col) : R ≠ P := h.blkR.ne h.blkP (by decide)
theorem RdAt.below {w w' : World} {R P k e line col : Nat} {rest : ByteArray} (h : RdAt w R P k rest e line col) (hb : Below w.heap.size w w') : RdAt w' R P k rest e line col :=
  ⟨(hb.block R h.blkR.lt).trans h.rd, (hb.block P h.blkP.lt).trans h.pl⟩
theorem RdAt.grown {w w' : World} {row : Option Nat} {R P k e line col : Nat} {rest : ByteArray} (h : RdAt w R P k rest e line col) (hg : w.grownBy w' row) (h1 : some R ≠ row) (h2 : some P ≠ row) : RdAt w' R P k rest e line col :=
  ⟨(hg.block R h.blkR.lt h1).trans h.rd, (hg.block P h.blkP.lt h2).trans h.pl⟩
theorem RdAt.alloc {w : World} {R P k e line col : Nat} {rest : ByteArray} (h : RdAt w R P k rest e line col) (o : Obj) : RdAt (w.alloc o) R P k rest e line col :=
  h.below ((Below.refl w.heap.size w).alloc (Nat.le_refl _) o)
theorem RdAt.drew {w : World} {R P k e line col : Nat} {rest : ByteArray} (h : RdAt w R P k rest e line col) : RdAt w.drew R P k rest e line col := ⟨h.rd, h.pl⟩
theorem RdAt.cells {w : World} {R P k e line col : Nat} {rest : ByteArray} (h : RdAt w R P k rest e line col) :
    w.cell? ⟨R, 0, none⟩ = some (.pointer (some ⟨P, 0, none⟩)) ∧ w.cell? ⟨R, 1, none⟩ = some (.int .i64 (e : Nat)) ∧ w.cell? ⟨R, 2, none⟩ = some (.int .i64 (line : Nat)) ∧ w.cell? ⟨R, 3, none⟩ = some (.int .i64 (col : Nat)) ∧
      w.cell? ⟨P, 0, none⟩ = some (.int .i64 (k : Nat)) ∧ w.cell? ⟨P, 1, none⟩ = some (.string rest) := by
  refine ⟨?_, ?_, ?_, ?_, ?_, ?_⟩
  · rw [cell_of_row w R 0 _ _ _ h.rd]; rfl
  · rw [cell_of_row w R 1 _ _ _ h.rd]; rfl
  · rw [cell_of_row w R 2 _ _ _ h.rd]; rfl
  · rw [cell_of_row w R 3 _ _ _ h.rd]; rfl
  · rw [cell_of_row w P 0 _ _ _ h.pl]; rfl
  · rw [cell_of_row w P 1 _ _ _ h.pl]; rfl
theorem RdAt.frozR {w : World} {R P k e line col : Nat} {rest : ByteArray} (h : RdAt w R P k rest e line col) (j : Nat) : w.frozen? ⟨R, j, none⟩ = false := frozen_of_row w R j _ _ h.rd
theorem RdAt.frozP {w : World} {R P k e line col : Nat} {rest : ByteArray} (h : RdAt w R P k rest e line col) (j : Nat) : w.frozen? ⟨P, j, none⟩ = false := frozen_of_row w P j _ _ h.pl
theorem cs_gtrans {a b c : World} {r : Option Nat} (h : a.grownBy b r) (k : b.grownBy c r) : a.grownBy c r :=
  ⟨k.os.trans h.os, k.tape.trans h.tape, k.output.trans h.output, Nat.le_trans h.size k.size, fun i hi hne => (k.block i (Nat.lt_of_lt_of_le hi h.size) hne).trans (h.block i hi hne)⟩
theorem RdAt.took {w : World} {R P k e line col : Nat} {rest : ByteArray} (h : RdAt w R P k rest e line col) (k' : Nat) (r : ByteArray) :
    RdAt ((w.setCell ⟨P, 0, none⟩ (.int .i64 (k' : Nat))).setCell ⟨P, 1, none⟩ (.string r)) R P k' r e line col := by
  have hne := h.ne
  refine ⟨?_, ?_⟩
  · rw [heap_setCell_other _ _ _ _ (by simpa using hne), heap_setCell_other _ _ _ _ (by simpa using hne)]; exact h.rd
  · have h1 := heap_setCell_same w P 0 _ _ (.int .i64 (k' : Nat)) h.pl
    have h2 := heap_setCell_same _ P 1 _ _ (.string r) h1
    rw [h2]; rfl
theorem RdAt.failed {w : World} {R P k e line col : Nat} {rest : ByteArray} (h : RdAt w R P k rest e line col) (e' l' c' : Nat) :
    RdAt (((w.setCell ⟨R, 1, none⟩ (.int .i64 (e' : Nat))).setCell ⟨R, 2, none⟩ (.int .i64 (l' : Nat))).setCell ⟨R, 3, none⟩ (.int .i64 (c' : Nat))) R P k rest e' l' c' := by
  have hne := h.ne.symm
  refine ⟨?_, ?_⟩
  · have h1 := heap_setCell_same w R 1 _ _ (.int .i64 (e' : Nat)) h.rd
    have h2 := heap_setCell_same _ R 2 _ _ (.int .i64 (l' : Nat)) h1
    have h3 := heap_setCell_same _ R 3 _ _ (.int .i64 (c' : Nat)) h2
    rw [h3]; rfl
  · rw [heap_setCell_other _ _ _ _ (by simpa using hne), heap_setCell_other _ _ _ _ (by simpa using hne), heap_setCell_other _ _ _ _ (by simpa using hne)]; exact h.pl

/-- The library's variable that holds the type of errors. -/
def ErrT (w : World) : Prop := w.cell? ⟨0, 0, none⟩ = some (.iface 143 (.agg #[.pointer (some ⟨10, 73, none⟩)]))
theorem ErrT.below {w w' : World} (h : ErrT w) (hb : Below w.heap.size w w') : ErrT w' := (hb.cell (p := ⟨0, 0, none⟩) (block_lt_of_cell h)).trans h
theorem as_hits (e : Nat) (t : Nat) (w : World) (hg : ErrT w) (ht : w.heap[t]? = some (.cells #[.pointer none] 134 (0, 0))) :
    Calls Tryz.prog 30 #[.iface 134 (.pointer (some ⟨e, 0, none⟩)), .iface 135 (.pointer (some ⟨t, 0, none⟩))] w fun ev w' => ev = .returned (.bool true) ∧ w'.heap[t]? = some (.cells #[.pointer (some ⟨e, 0, none⟩)] 134 (0, 0)) ∧ w.grownBy w' (some t) := by
  have hc : w.cell? ⟨t, 0, none⟩ = some (.pointer none) := by rw [cell_of_row w t 0 _ _ _ ht]; rfl
  have hl : t < w.heap.size := (Array.getElem?_eq_some_iff.1 ht).1
  refine (as_hit ⟨e, 0, none⟩ ⟨t, 0, none⟩ (.pointer none) w hg hc (frozen_of_row w t 0 _ _ ht)).mono ?_
  rintro ev w' ⟨rfl, rfl⟩
  refine ⟨rfl, ?_, ?_⟩
  · refine (heap_setCell_same _ t 0 #[.pointer none] _ _ ?_).trans rfl
    rw [heap_alloc_old _ _ (by simp; omega), heap_alloc_old _ _ (by simp; omega), heap_alloc_old _ _ (by simp; omega), heap_alloc_old _ _ hl]
    exact ht
  · exact cs_gtrans (cs_gtrans (cs_gtrans (cs_gtrans (World.grownBy_alloc _ _ _) (World.grownBy_alloc _ _ _)) (World.grownBy_alloc _ _ _)) (World.grownBy_alloc _ _ _)) cs_set

set_option maxHeartbeats 400000 in
theorem new_calls (s : ByteArray) (w : World) :
    Calls Tryz.prog 45 #[.string s] w fun e w' => e = .returned (.pointer (some ⟨w.heap.size + 1, 0, none⟩)) ∧ RdAt w' (w.heap.size + 1) w.heap.size 0 s 0 0 0 ∧ Below w.heap.size w w' := by
  go_enter Tryz.func45, Tryz.ntmps45
  go_wp2
  go_ret
  refine ⟨rfl, ⟨?_, ?_⟩, ((Below.refl _ _).alloc (Nat.le_refl _) _).alloc (by simp) _⟩
  · have := heap_alloc_new (w.alloc (.cells #[.int .i64 0, .string s] 102)) (.cells #[.pointer (some ⟨w.heap.size, 0, none⟩), .int .i64 0, .int .i64 0, .int .i64 0] 61)
    simpa using this
  · rw [heap_alloc_old _ _ (by simp)]
    exact heap_alloc_new _ _
set_option maxHeartbeats 400000 in
theorem row_calls (R P k e line col : Nat) (rest : ByteArray) (w : World) (h : RdAt w R P k rest e line col) :
    Calls Tryz.prog 26 #[.pointer (some ⟨P, 0, none⟩)] w fun ev w' => ev = .returned (.int .i64 (k : Nat)) ∧ w = w' := by
  obtain ⟨c0, c1, c2, c3, p0, p1⟩ := h.cells
  clear h
  go_enter Tryz.func26, Tryz.ntmps26
  go_wp2
  go_ret
  exact ⟨rfl, rfl⟩
end Go.Proofs.YtmjchmamkjbgkaaGreatDoor

/- CsvNext2 -/
namespace Go.Proofs.YtmjchmamkjbgkaaGreatDoor
open Go.RowKit
set_option linter.unusedVariables false

theorem cs_result1 {fn : Func} {p : Tmp} {ty : TypeId} (h : fn.results = #[.cell p ty]) (tmps : Array Value) (P : Program) (w : World) {a : Addr} {v : Value}
    (h1 : (asAddr (tmps.getD p undef)).run P w = .ok a w) (h2 : (loadVar ty a).run P w = .ok v w) : (results fn tmps).run P w = .ok v w := by
  rw [Array.getD_eq_getD_getElem?] at h1
  simp [results, h, Sem.run_bind, Result.andThen, h1, h2]
theorem cs_set3 {B g : Nat} {a w : World} (h : Below B a w) (hg : B ≤ g) (x y z : Value) : Below B a (((w.setCell ⟨g, 0, none⟩ x).setCell ⟨g, 1, none⟩ y).setCell ⟨g, 2, none⟩ z) :=
  ((h.setCell hg _).setCell hg _).setCell hg _
theorem cs_gdrew {a b : World} {r : Option Nat} (h : a.grownBy b r) : a.grownBy b.drew r := ⟨h.os, h.tape, h.output, h.size, h.block⟩
def failV (e line col : Nat) : Value := .agg #[.int .i64 (e : Nat), .int .i64 (line : Nat), .int .i64 (col : Nat)]

set_option maxHeartbeats 400000 in
theorem fail_calls (R P k e line col : Nat) (rest : ByteArray) (w : World) (h : RdAt w R P k rest e line col) :
    Calls Tryz.prog 47 #[.pointer (some ⟨R, 0, none⟩)] w fun ev w' => ev = .returned (failV e line col) ∧ Below w.heap.size w w' := by
  have h2 := h.alloc (.cells #[.int .i64 0, .int .i64 0, .int .i64 0] 32)
  obtain ⟨c0, c1, c2, c3, p0, p1⟩ := h2.cells
  have hR := h.blkR.lt
  have HB := Lib.hid (((Below.refl w.heap.size w).alloc (Nat.le_refl _) (.cells #[.int .i64 0, .int .i64 0, .int .i64 0] 32)))
  clear h h2
  go_enter Tryz.func47, Tryz.ntmps47
  go_wp2
  refine bodyPost_ret (v := failV e line col) ?_ rfl ⟨rfl, ?_⟩
  · refine cs_result1 rfl _ _ _ (a := ⟨w.heap.size, 0, none⟩) (by rfl) ?_
    unfold failV
    go_simp
  · exact (Below.refl w.heap.size w).alloc (Nat.le_refl _) _
set_option maxHeartbeats 400000 in
theorem failNil_calls (w : World) :
    Calls Tryz.prog 47 #[.pointer none] w fun ev w' => ev = .returned (failV 0 0 0) ∧ Below w.heap.size w w' := by
  have HB := Lib.hid (((Below.refl w.heap.size w).alloc (Nat.le_refl _) (.cells #[.int .i64 0, .int .i64 0, .int .i64 0] 32)))
  go_enter Tryz.func47, Tryz.ntmps47
  go_wp2
  refine bodyPost_ret (v := failV 0 0 0) ?_ rfl ⟨rfl, ?_⟩
  · refine cs_result1 rfl _ _ _ (a := ⟨w.heap.size, 0, none⟩) (by rfl) ?_
    unfold failV
    go_simp
  · exact (Below.refl w.heap.size w).alloc (Nat.le_refl _) _
set_option maxHeartbeats 400000 in
theorem nextNil_calls (w : World) :
    Calls Tryz.prog 46 #[.pointer none] w fun ev w' => ev = .returned (.tuple #[.slice none 0 0, .bool false]) ∧ w = w' := by
  go_enter Tryz.func46, Tryz.ntmps46
  go_wp2
  go_ret2
  exact ⟨rfl, rfl⟩
set_option maxHeartbeats 1000000 in
/-- Something was wrong, or nothing is left. -/
theorem nextStop_calls (R P k e line col : Nat) (rest : ByteArray) (w : World) (h : RdAt w R P k rest e line col) (hs : e ≠ 0 ∨ rest.size = 0) :
    Calls Tryz.prog 46 #[.pointer (some ⟨R, 0, none⟩)] w fun ev w' => ev = .returned (.tuple #[.slice none 0 0, .bool false]) ∧ w = w' := by
  obtain ⟨c0, c1, c2, c3, p0, p1⟩ := h.cells
  clear h
  by_cases he : e = 0
  · subst he
    have h0 : rest.size = 0 := hs.resolve_left (fun h => h rfl)
    have t1 : rest.toList.isEmpty = true := by
      rw [cs_tl, show rest.data.toList = [] from List.length_eq_zero_iff.1 (by rw [← cs_size]; exact h0)]; rfl
    clear hs h0
    go_enter Tryz.func46, Tryz.ntmps46
    go_wp2
    go_ret2
    exact ⟨rfl, rfl⟩
  · have t1 : ((e : Int) != 0) = true := by simpa using he
    clear hs he
    go_enter Tryz.func46, Tryz.ntmps46
    go_wp2
    go_ret2
    exact ⟨rfl, rfl⟩

set_option maxHeartbeats 2000000 in
set_option maxRecDepth 100000 in
theorem nextOkC_calls (R P k line col : Nat) (rest : ByteArray) (fs : List (List UInt8)) (r : List UInt8) (w : World) (h : RdAt w R P k rest 0 line col) (hk : k ≤ 4000001) (hs0 : 0 < rest.size) (hs : rest.size ≤ 4000000) (hm : MaxC w) (hr : rowR rest.data.toList = .ok (fs, r)) :
    Calls Tryz.prog 46 #[.pointer (some ⟨R, 0, none⟩)] w fun ev w' => ∃ a cap, ev = .returned (.tuple #[.slice a fs.length cap, .bool true]) ∧ (fs.length ≤ cap ∧ cap ≤ 9223372036854775807) ∧ TIn w' a fs.length fs ∧ TObj w' a ∧ RdAt w' R P (k + 1) ⟨r.toArray⟩ 0 line col ∧ ∃ w1, Below w.heap.size w w1 ∧ w1.grownBy w' (some P) := by
  have H := Lib.hid h
  have HC := Lib.hid (cutRow_calls rest w hs hm)
  have HR := Lib.hid hr
  have t1 : rest.toList.isEmpty = false := by
    rw [cs_tl]
    cases e : rest.data.toList with
    | nil => rw [cs_size, e] at hs0; simp at hs0
    | cons c r => rfl
  obtain ⟨c0, c1, c2, c3, p0, p1⟩ := h.cells
  have HA := Lib.hid (fun t w1 => as_nil t w1)
  clear h hs hs0 hm hr
  go_enter Tryz.func46, Tryz.ntmps46
  go_wp2_with fail
  refine HC.out.mono ?_
  rintro e w1 (⟨er, c, E, h1, _⟩ | ⟨fs', r', a, cap, h1, rfl, hT, hO, k1⟩)
  · rw [HR.out] at h1; cases h1
  · rw [HR.out] at h1
    simp only [Except.ok.injEq, Prod.mk.injEq] at h1
    obtain ⟨rfl, rfl⟩ := h1
    have HB1 := Lib.hid (k1.alloc k1.size (.cells #[.pointer none] 134))
    have HT := Lib.hid (hT.below ((Below.refl w1.heap.size w1).alloc (Nat.le_refl _) (.cells #[.pointer none] 134)))
    have HCap := Lib.hid hO.2
    have HO := Lib.hid (hO.1.below ((Below.refl w1.heap.size w1).alloc (Nat.le_refl _) (.cells #[.pointer none] 134)))
    have h2 := (H.out.below k1).alloc (.cells #[.pointer none] 134)
    have H2 := Lib.hid h2
    obtain ⟨d0, d1, d2, d3, q0, q1⟩ := h2.cells
    have f0 := h2.frozP 0
    have f1 := h2.frozP 1
    have hne : ¬ R = P := h2.ne
    have hne2 : ¬ P = R := fun e => hne e.symm
    have HK := Lib.hid (fun W (h : RdAt W R P k rest 0 line col) => h.took (k + 1) ⟨r.toArray⟩)
    clear hT hO k1 h2 HC c0 c1 c2 c3 p0 p1
    go_wp2_with fail
    refine (HA.out _ _).mono ?_
    rintro e w2 ⟨rfl, hw2⟩
    subst hw2
    obtain ⟨W, hW⟩ : ∃ W, w1.alloc (.cells #[.pointer none] 134) = W := ⟨_, rfl⟩
    rw [hW] at HB1 HT HO H2 d0 d1 d2 d3 q0 q1 f0 f1 ⊢
    clear hW
    go_wp2_with fail
    go_ret2
    have hg : W.grownBy ((W.setCell ⟨P, 0, none⟩ (.int .i64 ((k : Int) + 1))).setCell ⟨P, 1, none⟩ (.string ⟨r.toArray⟩)) (some P) := cs_gtrans cs_set cs_set
    have hP := H2.out.blkP
    exact ⟨a, cap, rfl, HCap.out, HT.out.grown hg (HO.out.ne hP (by decide)), HO.out.grown hP (by decide) hg, HK.out W H2.out, W, HB1.out, hg⟩

theorem nextOk_calls (R P k line col : Nat) (rest : ByteArray) (fs : List (List UInt8)) (r : List UInt8) (w : World) (h : RdAt w R P k rest 0 line col) (hk : k ≤ 4000001) (hs0 : 0 < rest.size) (hs : rest.size ≤ 4000000) (hm : MaxC w) (hr : rowR rest.data.toList = .ok (fs, r)) :
    Calls Tryz.prog 46 #[.pointer (some ⟨R, 0, none⟩)] w fun ev w' => ∃ a cap, ev = .returned (.tuple #[.slice a fs.length cap, .bool true]) ∧ TIn w' a fs.length fs ∧ TObj w' a ∧ RdAt w' R P (k + 1) ⟨r.toArray⟩ 0 line col ∧ ∃ w1, Below w.heap.size w w1 ∧ w1.grownBy w' (some P) := by
  refine (nextOkC_calls R P k line col rest fs r w h hk hs0 hs hm hr).mono ?_
  rintro ev w' ⟨a, cap, e, _, h⟩
  exact ⟨a, cap, e, h⟩

set_option maxHeartbeats 2000000 in
set_option maxRecDepth 100000 in
theorem nextErr_calls (R P k line col : Nat) (rest : ByteArray) (er c : Nat) (w : World) (h : RdAt w R P k rest 0 line col) (hk : k ≤ 4000001) (hs0 : 0 < rest.size) (hs : rest.size ≤ 4000000) (hm : MaxC w) (het : ErrT w) (hr : rowR rest.data.toList = .error (er, c)) :
    Calls Tryz.prog 46 #[.pointer (some ⟨R, 0, none⟩)] w fun ev w' => ev = .returned (.tuple #[.slice none 0 0, .bool false]) ∧ RdAt w' R P k rest er (k + 1) c ∧ ∃ w1, Below w.heap.size w w1 ∧ w1.grownBy w' (some R) := by
  have H := Lib.hid h
  have HE := Lib.hid het
  have HC := Lib.hid (cutRow_calls rest w hs hm)
  have HR := Lib.hid hr
  have HX := Lib.hid (rowR_errs hr).1
  have t1 : rest.toList.isEmpty = false := by
    rw [cs_tl]
    cases e : rest.data.toList with
    | nil => rw [cs_size, e] at hs0; simp at hs0
    | cons c r => rfl
  obtain ⟨c0, c1, c2, c3, p0, p1⟩ := h.cells
  clear h hs hs0 hm hr het
  go_enter Tryz.func46, Tryz.ntmps46
  go_wp2_with fail
  refine HC.out.mono ?_
  rintro e w1 (⟨er', c', E, h1, rfl, hE0, hE, k1⟩ | ⟨fs', r', a, cap, h1, _⟩)
  case inr => rw [HR.out] at h1; cases h1
  rw [HR.out] at h1
  simp only [Except.error.injEq, Prod.mk.injEq] at h1
  obtain ⟨rfl, rfl⟩ := h1
  have HB1 := Lib.hid (k1.alloc k1.size (.cells #[.pointer none] 134))
  have h2 := (H.out.below k1).alloc (.cells #[.pointer none] 134)
  have HEl : E < w1.heap.size := (Array.getElem?_eq_some_iff.1 hE).1
  have hE2 : (w1.alloc (.cells #[.pointer none] 134)).heap[E]? = _ := (heap_alloc_old w1 _ HEl).trans hE
  have HA := Lib.hid (as_hits E w1.heap.size (w1.alloc (.cells #[.pointer none] 134)) (HE.out.below HB1.out) (heap_alloc_new _ _))
  have hRl := (H.out.below k1).blkR.lt
  have hPl := (H.out.below k1).blkP.lt
  have hRw := H.out.blkR.lt
  have hPw := H.out.blkP.lt
  have H2 := Lib.hid h2
  have HE2 := Lib.hid hE2
  have HS1 := Lib.hid k1.size
  have hne : ¬ R = P := h2.ne
  have hne2 : ¬ P = R := fun e => hne e.symm
  clear k1 h2 HC hE hE2 c0 c1 c2 c3 p0 p1
  go_wp2_with fail
  obtain ⟨T, hT⟩ : ∃ T, T = w1.heap.size := ⟨_, rfl⟩
  rw [← hT] at HA HEl hRl hPl HS1 ⊢
  obtain ⟨W0, hW0⟩ : ∃ W0, w1.alloc (.cells #[.pointer none] 134) = W0 := ⟨_, rfl⟩
  rw [hW0] at HA H2 HE2 HB1 ⊢
  clear hW0 hT
  refine HA.out.mono ?_
  rintro e w2 ⟨rfl, hT2, hg2⟩
  have h3 := H2.out.grown hg2 (by simp; omega) (by simp; omega)
  have hB2 := HB1.out.grown hg2 HB1.out.size (fun j hj => by cases hj; exact HS1.out)
  have hE3 := (hg2.block E (Array.getElem?_eq_some_iff.1 HE2.out).1 (by simp; omega)).trans HE2.out
  have H3 := Lib.hid h3
  have HB2 := Lib.hid hB2
  obtain ⟨d0, d1, d2, d3, q0, q1⟩ := h3.cells
  have x0 : w2.cell? ⟨T, 0, none⟩ = some (.pointer (some ⟨E, 0, none⟩)) := by rw [cell_of_row w2 T 0 _ _ _ hT2]; rfl
  have e0 : w2.cell? ⟨E, 0, none⟩ = some (.int .i64 (c : Nat)) := by rw [cell_of_row w2 E 0 _ _ _ hE3]; rfl
  have e1 : w2.cell? ⟨E, 1, none⟩ = some (.iface 30 (.int .i64 (er : Nat))) := by rw [cell_of_row w2 E 1 _ _ _ hE3]; rfl
  have f1 := h3.frozR 1
  have f2 := h3.frozR 2
  have f3 := h3.frozR 3
  have HRO := Lib.hid (reasonOf_calls E er w2.drew e1 HX.out)
  have HD := Lib.hid (show w2.cell? ⟨T, 0, none⟩ = some (.pointer (some ⟨E, 0, none⟩)) ∧ w2.cell? ⟨E, 0, none⟩ = some (.int .i64 (c : Nat)) ∧ w2.cell? ⟨R, 0, none⟩ = some (.pointer (some ⟨P, 0, none⟩)) ∧ w2.cell? ⟨P, 0, none⟩ = some (.int .i64 (k : Nat)) from ⟨x0, e0, d0, q0⟩)
  have HD3 : Hid ((((w2.setCell ⟨R, 1, none⟩ (.int .i64 (er : Nat))).setCell ⟨R, 2, none⟩ (.int .i64 ((k : Int) + 1))).setCell ⟨R, 3, none⟩ (.int .i64 (c : Nat))).cell? ⟨T, 0, none⟩ = some (.pointer (some ⟨E, 0, none⟩)) ∧ (((w2.setCell ⟨R, 1, none⟩ (.int .i64 (er : Nat))).setCell ⟨R, 2, none⟩ (.int .i64 ((k : Int) + 1))).setCell ⟨R, 3, none⟩ (.int .i64 (c : Nat))).cell? ⟨E, 0, none⟩ = some (.int .i64 (c : Nat)) ∧ (((w2.setCell ⟨R, 1, none⟩ (.int .i64 (er : Nat))).setCell ⟨R, 2, none⟩ (.int .i64 ((k : Int) + 1))).setCell ⟨R, 3, none⟩ (.int .i64 (c : Nat))).cell? ⟨R, 0, none⟩ = some (.pointer (some ⟨P, 0, none⟩)) ∧ (((w2.setCell ⟨R, 1, none⟩ (.int .i64 (er : Nat))).setCell ⟨R, 2, none⟩ (.int .i64 ((k : Int) + 1))).setCell ⟨R, 3, none⟩ (.int .i64 (c : Nat))).cell? ⟨P, 0, none⟩ = some (.int .i64 (k : Nat))) := Lib.hid (by
    refine ⟨?_, ?_, ?_, ?_⟩
    · rw [World.cell?_setCell_other _ _ _ _ (by simp), World.cell?_setCell_other _ _ _ _ (by simp), World.cell?_setCell_other _ _ _ _ (by simp)]; exact x0
    · rw [World.cell?_setCell_other _ _ _ _ (by simp), World.cell?_setCell_other _ _ _ _ (by simp), World.cell?_setCell_other _ _ _ _ (by simp)]; exact e0
    · rw [World.cell?_setCell_other _ _ _ _ (by simp), World.cell?_setCell_other _ _ _ _ (by simp), World.cell?_setCell_other _ _ _ _ (by simp)]; exact d0
    · rw [World.cell?_setCell_other _ _ _ _ (by simp), World.cell?_setCell_other _ _ _ _ (by simp), World.cell?_setCell_other _ _ _ _ (by simp)]; exact q0)
  have hwr : IntKind.i64.wrap ((k : Int) + 1) = (k : Int) + 1 := by rw [IntKind.wrap_i64]; omega
  clear h3 hB2 hE3 hT2 hg2 HA HE2 H2 HB1
  go_wp2_with fail
  go_region_held3 (fun wx => wx.cell? ⟨T, 0, none⟩ = some (.pointer (some ⟨E, 0, none⟩)) ∧ wx.cell? ⟨E, 0, none⟩ = some (.int .i64 (c : Nat)) ∧ wx.cell? ⟨R, 0, none⟩ = some (.pointer (some ⟨P, 0, none⟩)) ∧ wx.cell? ⟨P, 0, none⟩ = some (.int .i64 (k : Nat))) (first | exact HD.out | exact HD3.out) (first
    | (go_at_call 67; refine HRO.out.mono ?_; rintro e w4 ⟨rfl, rfl⟩))
  go_wp2_with fail
  go_ret2
  exact ⟨rfl, (H3.out.failed er (k + 1) c).drew, w2, HB2.out, cs_gdrew (cs_gtrans (cs_gtrans cs_set cs_set) cs_set)⟩

theorem cs_result2 {fn : Func} {p q : Tmp} {ty : TypeId} (h : fn.results = #[.tmp p, .cell q ty]) (tmps : Array Value) (P : Program) (w : World) {a : Addr} {u v : Value}
    (h0 : tmps.getD p undef = u) (h1 : (asAddr (tmps.getD q undef)).run P w = .ok a w) (h2 : (loadVar ty a).run P w = .ok v w) : (results fn tmps).run P w = .ok (.tuple #[u, v]) w := by
  rw [Array.getD_eq_getD_getElem?] at h0 h1
  simp [results, h, Sem.run_bind, Result.andThen, h0, h1, h2]
def cLen : Value → Nat
  | .slice _ n _ => n
  | _ => 0
end Go.Proofs.YtmjchmamkjbgkaaGreatDoor
