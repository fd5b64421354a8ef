/- A declaration's text: schema.Text, and the reference's Text. -/
import Derived.Test.YtpinjocnmdnmiaaDoorScDecl
import Derived.Test.YtpinjocnmdnmiaaDoorShelfJoin
import Derived.Deep.RegionHeld3
import Derived.OwnWalk
namespace Go.Proofs.YtpinjocnmdnmiaaDoor
open Go.RowKit
set_option linter.unusedVariables false

theorem scInfoS : (Tryd.prog.info? 9).map (fun i => (i.zero, i.size, i.bytes)) = some (some (.string ⟨#[]⟩), 1, 16) := by kernel_rfl
theorem sc_parts {i : Option TypeInfo} {z : Value} {s b : Nat} (h : i.map (fun i => (i.zero, i.size, i.bytes)) = some (some z, s, b)) : ∃ i0, i = some i0 ∧ i0.zero = some z ∧ i0.size = s ∧ i0.bytes = b := by
  cases i with
  | none => cases h
  | some i0 =>
    simp only [Option.map_some, Option.some.injEq, Prod.mk.injEq] at h
    exact ⟨i0, rfl, h.1, h.2.1, h.2.2⟩
theorem make_strs (K : Nat) (hK : K ≤ 1000000) (w : World) : (Instr.makeSlice 23 (.int .i64 (K : Int)) (.int .i64 (K : Int))).run Tryd.prog w = .ok (.slice (some ⟨w.heap.size, 0, none⟩) K K) (w.alloc (.cells (madeCells #[.string ⟨#[]⟩] K) 9)) := by
  obtain ⟨i0, hi, hz0, hz1, hz2⟩ := sc_parts scInfoS
  have h := run_make w 23 9 i0 (.string ⟨#[]⟩) Tryd.underlying23 hi hz0 .i64 .i64 (K : Int) (K : Int) (by omega) (by omega) (by rw [hz2]; omega) (by omega)
  rw [h, hz1]
  simp [Value.cells]
/-- A block of texts. -/
def HoldT (g : Nat) (l : List ByteArray) (w : World) : Prop := w.heap[g]? = some (.cells (l.map Value.string).toArray 9 (0, 0))
theorem HoldT.cell {g : Nat} {l : List ByteArray} {w : World} (h : HoldT g l w) {j : Nat} {x : ByteArray} (hj : l[j]? = some x) : w.cell? ⟨g, j, none⟩ = some (.string x) := by
  rw [cell_of_row w g j _ _ _ h]
  simp [hj]
theorem HoldT.frozen {g : Nat} {l : List ByteArray} {w : World} (h : HoldT g l w) (j : Nat) : w.frozen? ⟨g, j, none⟩ = false := frozen_of_row w g j _ _ h
theorem HoldT.lt {g : Nat} {l : List ByteArray} {w : World} (h : HoldT g l w) : g < w.heap.size := (Array.getElem?_eq_some_iff.1 h).1
theorem HoldT.set {g : Nat} {l : List ByteArray} {w : World} (h : HoldT g l w) (i : Nat) (x : ByteArray) : HoldT g (l.set i x) (w.setCell ⟨g, i, none⟩ (.string x)) := by
  have := heap_setCell_same w g i _ _ (.string x) h
  unfold HoldT
  rw [this]
  congr 2
  apply Array.ext'
  simp [List.map_set]
theorem HoldT.made (w : World) (n : Nat) : HoldT w.heap.size (List.replicate n ⟨#[]⟩) (w.alloc (.cells (madeCells #[.string ⟨#[]⟩] n) 9)) := by
  have h := heap_alloc_new w (.cells (madeCells #[.string ⟨#[]⟩] n) 9)
  unfold HoldT
  rw [h]
  congr 2
  apply Array.ext'
  apply List.ext_getElem (by simp [madeCells])
  intro j h1 h2
  simp [madeCells, Nat.mod_one]
/-- But for one block, the world is as it was. -/
def ScBut (g : Nat) (w w' : World) : Prop := w.grownBy w' (some g)
theorem ScBut.refl (g : Nat) (w : World) : ScBut g w w := ⟨rfl, rfl, rfl, Nat.le_refl _, fun _ _ _ => rfl⟩
theorem ScBut.set {g o : Nat} {w w' : World} (h : ScBut g w w') (v : Value) : ScBut g w (w'.setCell ⟨g, o, none⟩ v) :=
  ⟨h.os, h.tape, h.output, by rw [World.size_setCell]; exact h.size, fun k hk hne => (heap_setCell_other w' _ k v (fun e => hne (by rw [e]))).trans (h.block k hk hne)⟩
theorem ScBut.cell {g : Nat} {w w' : World} (h : ScBut g w w') {c o : Nat} {v : Value} (hc : w.cell? ⟨c, o, none⟩ = some v) (hne : c ≠ g) : w'.cell? ⟨c, o, none⟩ = some v :=
  World.grownBy.cell h hc (fun e => hne (Option.some.inj e))
/-- The names of kinds, so far. -/
def namesN (V : List Int) (n : Nat) : List ByteArray := (V.take n).map kindT ++ List.replicate (V.length - n) ⟨#[]⟩
theorem namesN_zero (V : List Int) : namesN V 0 = List.replicate V.length ⟨#[]⟩ := by simp [namesN]
theorem namesN_all (V : List Int) : namesN V V.length = V.map kindT := by simp [namesN]
theorem namesN_len (V : List Int) (n : Nat) (h : n ≤ V.length) : (namesN V n).length = V.length := by
  simp [namesN]; omega
theorem namesN_set (V : List Int) (n : Nat) (h : n < V.length) : (namesN V n).set n (kindT (V.getD n 0)) = namesN V (n + 1) := by
  have ht : V.take (n + 1) = V.take n ++ [V.getD n 0] := by
    rw [List.take_succ_eq_append_getElem h]
    simp [List.getD, h]
  have hr : V.length - n = (V.length - (n + 1)) + 1 := by omega
  have hl : ((V.take n).map kindT).length = n := by rw [List.length_map, List.length_take]; omega
  unfold namesN
  rw [List.set_append_right _ _ (by omega), hl, Nat.sub_self, hr, List.replicate_succ, List.set_cons_zero, ht]
  simp
theorem kindT_list (k : Int) : (kindT k).data.toList = kindL k := rfl
theorem names_join (V : List Int) : Lib.join ((V.map kindT).map (·.data.toList)) [44, 32] = kindsN V V.length := by
  rw [kinds_join V V.length (Nat.le_refl _), List.take_length, List.map_map]
  rfl
theorem sc_cat (a b : ByteArray) : (a ++ b).data.toList = a.data.toList ++ b.data.toList := by simp
theorem sc_hcat (a b : ByteArray) (h : a.size + b.size ≤ 9223372036854775807) : ∀ w, (Op.stringOp .add a b).run Tryd.prog w = .ok (.string (a ++ b)) w := fun w => run_string_add_sum w a b h
theorem sc_catSize (a b : ByteArray) : (a ++ b).size = a.size + b.size := by rw [sc_size, sc_cat, List.length_append, ← sc_size, ← sc_size]

theorem cell_alloc {w : World} {g n : Nat} {v : Value} (hc : w.cell? ⟨g, n, none⟩ = some v) (o : Obj) : (w.alloc o).cell? ⟨g, n, none⟩ = some v :=
  (((Below.refl w.heap.size w).alloc (Nat.le_refl _) o).cell (p := ⟨g, n, none⟩) (block_lt_of_cell hc)).trans hc
theorem cell_new (w : World) (cs : Array Value) (t : TypeId) {n : Nat} {v : Value} (h : cs[n]? = some v) : (w.alloc (.cells cs t)).cell? ⟨w.heap.size, n, none⟩ = some v := by
  rw [World.cell?_alloc_at (hn := rfl)]
  exact h

set_option maxHeartbeats 4000000 in
set_option maxRecDepth 100000 in
theorem scText_calls (x : ByteArray) (b : Option Addr) (len c : Nat) (V : List Int) (w : World) (h : KIn w b len V) (hx : x.size ≤ 1000000) (hl : len ≤ 1000000) :
    Calls Tryd.prog 16 #[.agg #[.string x, .slice b len c]] w fun e w' => e = .returned (.string (textT x V)) ∧ Below w.heap.size w w' := by
  have H := Lib.hid h
  have HL := Lib.hid h.leng
  have hmk := make_strs len hl
  have HK := Lib.hid (fun k w1 => scKind_calls k w1)
  have hB1 : Below w.heap.size w (w.alloc (.cells #[.string x, .slice b len c] 36)) := (Below.refl w.heap.size w).alloc (Nat.le_refl _) _
  have hB2 := hB1.alloc hB1.size (.cells (madeCells #[.string ⟨#[]⟩] len) 9)
  have HB2 := Lib.hid hB2
  have hM := HoldT.made (w.alloc (.cells #[.string x, .slice b len c] 36)) len
  rw [show List.replicate len (⟨#[]⟩ : ByteArray) = namesN V 0 by rw [namesN_zero, HL.out]] at hM
  have HM := Lib.hid hM
  have hX : ((w.alloc (.cells #[.string x, .slice b len c] 36)).alloc (.cells (madeCells #[.string ⟨#[]⟩] len) 9)).cell? ⟨w.heap.size, 0, none⟩ = some (.string x) := by
    exact cell_alloc (cell_new w _ _ rfl) _
  have HX := Lib.hid hX
  have hz : (w.alloc (.cells #[.string x, .slice b len c] 36)).heap.size = w.heap.size + 1 := by simp
  rw [hz] at HM
  have hz2 : w.heap.size + 1 < ((w.alloc (.cells #[.string x, .slice b len c] 36)).alloc (.cells (madeCells #[.string ⟨#[]⟩] len) 9)).heap.size := by simp
  have HZ := Lib.hid hz2
  clear h hB1 hB2 hM hX hz hz2
  go_enter Tryd.func16, Tryd.ntmps16
  go_wp2_with fail
  clear hmk
  obtain ⟨w2, hw2⟩ : ∃ w2, w2 = ((w.alloc (.cells #[.string x, .slice b len c] 36)).alloc (.cells (madeCells #[.string ⟨#[]⟩] len) 9)) := ⟨_, rfl⟩
  rw [← hw2] at HB2 HM HX HZ ⊢
  clear hw2
  go_loopw [13] (fun i wr => ∃ (n : Nat), n ≤ len ∧ i = .int .i64 n ∧ Hid (HoldT (w.heap.size + 1) (namesN V n) wr) ∧ Hid (ScBut (w.heap.size + 1) w2 wr)) (fun i _ => len - (intOf i).toNat)
  case atStart => exact ⟨0, Nat.zero_le _, rfl, HM, Lib.hid (ScBut.refl _ _)⟩
  case round =>
    obtain ⟨n, hn, rfl, HR, HT⟩ := hrel
    have HB := Lib.hid (HB2.out.grown HT.out (by have := HZ.out; omega) (fun k hk => by cases hk; omega))
    by_cases hlt : n < len
    case neg =>
      have hx1 := HT.out.cell HX.out (by omega)
      have HA : Hid (HoldT (w.heap.size + 1) (V.map kindT) wr) := Lib.hid (by rw [← namesN_all, HL.out, ← show n = len by omega]; exact HR.out)
      have hjl := kinds_len V V.length
      have hnj := names_join V
      have H1 := Lib.hid (fun w1 (hA : HoldT (w.heap.size + 1) (V.map kindT) w1) => Tryd.strings_Join (w.heap.size + 1) 0 len (V.map kindT) ⟨#[44, 32]⟩ w1 (fun j y hj => by rw [Nat.zero_add]; exact hA.cell hj) hA.lt (by rw [List.length_map, HL.out]; omega) (by rw [List.length_map, HL.out]; omega) (by rw [show (⟨#[44, 32]⟩ : ByteArray).data.toList = [44, 32] from rfl, hnj]; have := HL.out; omega))
      rw [List.length_map, HL.out, show (⟨#[44, 32]⟩ : ByteArray).data.toList = [44, 32] from rfl, hnj] at H1
      obtain ⟨J, hJ⟩ : ∃ J : ByteArray, J = ⟨(kindsN V V.length).toArray⟩ := ⟨_, rfl⟩
      rw [← hJ] at H1
      have hJs : J.size ≤ 8000000 := by
        have := HL.out
        rw [hJ, sc_size]
        show (kindsN V V.length).length ≤ _
        omega
      have z1 : (⟨#[40]⟩ : ByteArray).size = 1 := rfl
      have z2 : (⟨#[41]⟩ : ByteArray).size = 1 := rfl
      have hc1 := sc_hcat x ⟨#[40]⟩ (by omega)
      have hc2 := sc_hcat (x ++ ⟨#[40]⟩) J (by rw [sc_catSize]; omega)
      have hc3 := sc_hcat (x ++ ⟨#[40]⟩ ++ J) ⟨#[41]⟩ (by rw [sc_catSize, sc_catSize]; omega)
      have HV : Hid (textT x V = x ++ ⟨#[40]⟩ ++ J ++ ⟨#[41]⟩) := Lib.hid (by
        refine (sc_eq ?_).symm
        rw [sc_cat, sc_cat, sc_cat, hJ, textL, textN])
      have HS := Lib.hid hx1
      have HAd : Hid (HoldT (w.heap.size + 1) (V.map kindT) wr.drew) := Lib.hid HA.out
      have hlt1 := block_lt_of_cell hx1
      clear hJ hJs z1 z2 hjl hnj hx1
      go_wp2_with fail
      go_region_held3 (fun wx => wx.cell? ⟨w.heap.size, 0, none⟩ = some (.string x)) (first | exact HS.out | exact HS2.out) (first
        | (go_at_call 26; refine (H1.out _ HAd.out).mono ?_; rintro e w4 ⟨rfl, k4⟩; have HK4 := Lib.hid k4; have HS2 := Lib.hid (show w4.cell? ⟨w.heap.size, 0, none⟩ = some (.string x) from (k4.cell (p := ⟨w.heap.size, 0, none⟩) hlt1).trans HS.out)))
      all_goals (go_wp2_with fail)
      all_goals go_ret
      all_goals exact ⟨by rw [HV.out]; rfl, HB.out.trans ((Below.refl wr.heap.size wr).drew.trans HK4.out |>.mono HB.out.size)⟩
    case pos =>
      obtain ⟨g, off, rfl, hg, hk⟩ := (H.out.below HB.out).at' n hlt
      have HN := Lib.hid (namesN_set V n (by rw [HL.out]; exact hlt))
      have hf := HR.out.frozen n
      obtain ⟨d, hd⟩ : ∃ d, wr.cell? ⟨w.heap.size + 1, n, none⟩ = some (.string d) := by
        have hl := namesN_len V n (by rw [HL.out]; exact hn)
        exact ⟨(namesN V n)[n]'(by rw [hl, HL.out]; exact hlt), HR.out.cell (List.getElem?_eq_getElem _)⟩
      have HW := Lib.hid (HR.out.set n (kindT (V.getD n 0)))
      rw [HN.out] at HW
      generalize V.getD n 0 = k at hk HW
      have H1 := Lib.hid (fun w1 => HK.out k w1)
      clear HN
      generalize kindT k = y at H1 HW
      go_wp2_with fail
      refine (H1.out _).mono ?_
      rintro e w1 ⟨rfl, hw1⟩
      subst hw1
      go_wp2_with fail
      go_roundw
      case rel => exact ⟨n + 1, hlt, by go_num, HW, Lib.hid (HT.out.set _)⟩
      case measure => simp [intOf]; omega
end Go.Proofs.YtpinjocnmdnmiaaDoor
