/- How a row is written: csv.Line, and the reference's Line. -/
import Derived.Test.YtkihjfdpfglkbaaDoorCsvField
import Derived.Test.YtkihjfdpfglkbaaDoorCsvOwn
import Derived.Test.YtkihjfdpfglkbaaDoorShelfLine
import Derived.Test.YtkihjfdpfglkbaaDoorShelfWrite
namespace Go.Proofs.YtkihjfdpfglkbaaDoor
open Go.RowKit
set_option linter.unusedVariables false

namespace csb
/-- A builder that has been written into, in block b, and holds these bytes. -/
def IsB (B b : Nat) (l : List UInt8) (w : World) : Prop := Lib.BuilderAtF 68 5 B b (.pointer (some ⟨b, 0, none⟩)) (Lib.byteCells l) w
/-- .. or has not. -/
def MayB (B b : Nat) (l : List UInt8) (w : World) : Prop := Lib.IsBuilderF 68 5 B b (Lib.byteCells l) w
theorem at_below {B b : Nat} {p : Value} {bs : List Value} {w w' : World} (h : Lib.BuilderAtF 68 5 B b p bs w) (hb : Below w.heap.size w w') : Lib.BuilderAtF 68 5 B b p bs w' := by
  obtain ⟨hB, v, hbk, ⟨hl, hown⟩, hne⟩ := h
  have hlt : b < w.heap.size := (Array.getElem?_eq_some_iff.1 hbk).1
  refine ⟨hB, v, by rw [hb.block b hlt]; exact hbk, ⟨hl, ?_⟩, hne⟩
  rcases hown with hn | ⟨g, cap, cur, fz, rfl, h1, hg, rest⟩
  · exact .inl hn
  · have hglt : g < w.heap.size := (Array.getElem?_eq_some_iff.1 hg).1
    exact .inr ⟨g, cap, cur, fz, rfl, h1, by rw [hb.block g hglt]; exact hg, rest⟩
theorem MayB.below {B b : Nat} {l : List UInt8} {w w' : World} (h : MayB B b l w) (hb : Below w.heap.size w w') : MayB B b l w' :=
  h.elim (fun x => .inl (at_below x hb)) (fun x => .inr (at_below x hb))
theorem MayB.fresh {B b : Nat} {w : World} (hB : B ≤ b) (h : w.heap[b]? = some (.cells #[.pointer none, .slice none 0 0] 68 (0, 0))) : MayB B b [] w :=
  .inl ⟨hB, .slice none 0 0, h, World.ownsRowF_nil _ _ _ _, by simp [Value.ownBlock]⟩
theorem write_calls (B b : Nat) (l : List UInt8) (s : ByteArray) (t : List UInt8) (w : World) (h : MayB B b l w) (ht : s.data.toList = t) (hlen : l.length + t.length ≤ 140737488355328) (hBw : B ≤ w.heap.size) :
    Calls Tryd.prog 26 #[.pointer (some ⟨b, 0, none⟩), .string s] w fun e w' => e = .returned (.tuple #[.int .i64 s.size, .nilIface]) ∧ MayB B b (l ++ t) w' ∧ Below B w w' := by
  subst ht
  refine (Tryd.Builder_WriteString_k B b (Lib.byteCells l) s w h (by rw [Lib.byteCells_length, cs_size]; exact hlen) hBw).mono ?_
  rintro e w' ⟨rfl, h1, h2, _⟩
  refine ⟨rfl, .inr ?_, h2⟩
  rw [show Lib.byteCells (l ++ s.data.toList) = Lib.byteCells l ++ Lib.strCells s by simp [Lib.byteCells, Lib.strCells]]
  exact h1
theorem string_calls (B b : Nat) (l : List UInt8) (w : World) (h : MayB B b l w) (hBw : B ≤ w.heap.size) :
    Calls Tryd.prog 27 #[.pointer (some ⟨b, 0, none⟩)] w fun e w' => e = .returned (.string ⟨l.toArray⟩) ∧ Below B w w' := by
  refine (Tryd.Builder_String_any_k B b l w h hBw).mono ?_
  rintro e w' ⟨rfl, _, h2, _⟩
  exact ⟨rfl, h2⟩
end csb

theorem cost_at : ∀ (fs : List (List UInt8)) (n : Nat), n < fs.length → 2 * (fs.getD n []).length + 3 ≤ costF fs
  | f :: r, 0, _ => by simp [costF]
  | f :: r, n + 1, h => by
    have := cost_at r n (by simpa using h)
    simp only [costF, List.getD_cons_succ]
    omega
theorem joinN_step (fs : List (List UInt8)) (n : Nat) (h : n ≠ 0) : joinN fs (n + 1) = joinN fs n ++ [44] ++ fieldL (fs.getD n []) := by rw [joinN, if_neg h]
theorem joinN_one (fs : List (List UInt8)) : joinN fs 1 = fieldL (fs.getD 0 []) := by simp [joinN]

set_option maxHeartbeats 2000000 in
theorem refLine_calls (a : Option Addr) (len cap : Nat) (fs : List (List UInt8)) (w : World) (h : TIn w a len fs) (hne : 0 < len) (hc : costF fs ≤ 3000000) :
    Calls Tryd.prog 17 #[.slice a len cap] w fun e w' => e = .returned (.string ⟨(lineL fs).toArray⟩) ∧ w = w' := by
  have H := Lib.hid h
  have HLn := Lib.hid h.leng
  have hsm := h.small
  have HC := Lib.hid hc
  have HQ := Lib.hid (fun (x : List UInt8) (hx : x.length ≤ 4000000) w1 => refQuoted_calls ⟨x.toArray⟩ w1 (by rw [cs_size]; exact hx))
  clear h hc
  go_enter Tryd.func17, Tryd.ntmps17
  go_wp2_with fail
  go_loopw [3, 4] (fun ov iv wr => ∃ (n : Nat) (X : ByteArray), n ≤ len ∧ iv = .int .i64 n ∧ ov = .string X ∧ Hid (X.data.toList = joinN fs n) ∧ w = wr) (fun _ i _ => len - (intOf i).toNat)
  case atStart => exact ⟨0, _, Nat.zero_le _, rfl, rfl, Lib.hid rfl, rfl⟩
  case round =>
    obtain ⟨n, X, hn, rfl, rfl, HX, rfl⟩ := hrel
    have hXs : X.size ≤ 3000000 := by
      have := joinN_len fs n (by rw [HLn.out]; exact hn)
      have h2 := HC.out
      rw [cs_size, HX.out]; omega
    by_cases hlt : n < len
    case neg =>
      have hnl : n = len := by omega
      have z2 : (⟨#[13, 10]⟩ : ByteArray).size = 2 := rfl
      have hc1 := cs_hcat X ⟨#[13, 10]⟩ (by omega)
      have HV : Hid (⟨(lineL fs).toArray⟩ = X ++ ⟨#[13, 10]⟩) := Lib.hid (by
        have hf : fs ≠ [] := fun e => by
          have := HLn.out
          rw [e] at this
          simp at this; omega
        rw [lineL, if_neg hf]
        refine (cs_of ?_).symm
        rw [cs_cat, HX.out, hnl, ← HLn.out, joinN_all])
      clear hnl z2 hXs
      go_wp2_with fail
      go_ret
      exact ⟨by rw [HV.out]; rfl, rfl⟩
    case pos =>
      obtain ⟨g, off, rfl, hcell⟩ := H.out.at' (Below.refl _ _) hlt
      have hfl := cost_at fs n (by rw [HLn.out]; exact hlt)
      have hcc := HC.out
      have hQl := fieldL_len (fs.getD n [])
      obtain ⟨x, hx⟩ : ∃ x, x = fs.getD n [] := ⟨_, rfl⟩
      rw [← hx] at hcell hfl hQl
      have H1 := Lib.hid (HQ.out x (by omega))
      obtain ⟨Q, hQ⟩ : ∃ Q : ByteArray, Q = ⟨(fieldL x).toArray⟩ := ⟨_, rfl⟩
      have hQs : Q.size ≤ 4000000 := by rw [hQ, cs_size]; show (fieldL x).length ≤ _; omega
      have hQd : Q.data.toList = fieldL x := by rw [hQ]
      rw [← hQ] at H1
      obtain ⟨Y, hY⟩ : ∃ Y : ByteArray, Y = ⟨x.toArray⟩ := ⟨_, rfl⟩
      rw [← hY] at H1 hcell
      have z1 : (⟨#[44]⟩ : ByteArray).size = 1 := rfl
      by_cases h0 : n = 0
      · subst h0
        rw [Nat.add_zero] at hcell
        have hc1 := cs_hcat X Q (by omega)
        have HX2 : Hid ((X ++ Q).data.toList = joinN fs 1) := Lib.hid (by rw [cs_cat, HX.out, hQd, joinN_one, ← hx]; rfl)
        clear hx hfl hcc hQl hQ hQs hQd hY hXs z1
        go_wp2_with fail
        refine (H1.out _).mono ?_
        rintro e w1 ⟨rfl, hw1⟩
        subst hw1
        go_wp2_with fail
        go_roundw
        case rel => exact ⟨1, _, hlt, by go_num, rfl, HX2, trivial⟩
        case measure => simp [intOf]; omega
      · have hn0 : 0 < n := by omega
        have hc1 := cs_hcat X ⟨#[44]⟩ (by omega)
        have hc2 := cs_hcat (X ++ ⟨#[44]⟩) Q (by rw [cs_catSize]; omega)
        have HX2 : Hid ((X ++ ⟨#[44]⟩ ++ Q).data.toList = joinN fs (n + 1)) := Lib.hid (by rw [cs_cat, cs_cat, HX.out, hQd, joinN_step fs n h0, ← hx])
        clear hx hfl hcc hQl hQ hQs hQd hY hXs z1 h0
        go_wp2_with fail
        refine (H1.out _).mono ?_
        rintro e w1 ⟨rfl, hw1⟩
        subst hw1
        go_wp2_with fail
        go_roundw
        case rel => exact ⟨n + 1, _, hlt, by go_num, rfl, HX2, trivial⟩
        case measure => simp [intOf]; omega

set_option maxHeartbeats 4000000 in
theorem csLine_calls (a : Option Addr) (len cap : Nat) (fs : List (List UInt8)) (w : World) (h : TIn w a len fs) (hc : costF fs ≤ 3000000) (hm : MaxC w) :
    Calls Tryd.prog 18 #[.slice a len cap] w fun e w' => e = .returned (.string ⟨(lineL fs).toArray⟩) ∧ Below w.heap.size w w' := by
  have H := Lib.hid h
  have HLn := Lib.hid h.leng
  have hsm := h.small
  have HC := Lib.hid hc
  have HM := Lib.hid hm
  have HF := Lib.hid (fun (x : List UInt8) (hx : x.length ≤ 4000000) w1 (h1 : MaxC w1) => csField_calls ⟨x.toArray⟩ w1 (by rw [cs_size]; exact hx) h1)
  clear h hc hm
  by_cases h0 : len = 0
  · subst h0
    have HV : Hid (⟨(lineL fs).toArray⟩ = (⟨#[]⟩ : ByteArray)) := Lib.hid (by rw [lineL, if_pos (List.length_eq_zero_iff.1 HLn.out)])
    have HB := Lib.hid (Below.refl w.heap.size w)
    go_enter Tryd.func18, Tryd.ntmps18
    go_wp2_with fail
    go_ret
    exact ⟨by rw [HV.out]; rfl, HB.out⟩
  have t0 : ((len : Int) == 0) = false := beq_eq_false_iff_ne.2 (by omega)
  have hnew := heap_alloc_new w (.cells #[.pointer none, .slice none 0 0] 68)
  have HB0 := Lib.hid ((Below.refl w.heap.size w).alloc (Nat.le_refl _) (.cells #[.pointer none, .slice none 0 0] 68))
  have HM0 := Lib.hid (csb.MayB.fresh (B := w.heap.size) (Nat.le_refl _) hnew)
  obtain ⟨b, hb⟩ : ∃ b, b = w.heap.size := ⟨_, rfl⟩
  have HW := Lib.hid (fun (l : List UInt8) (s : ByteArray) (t : List UInt8) w1 (h1 : csb.MayB w.heap.size b l w1) (h2 : s.data.toList = t) (h3 : l.length + t.length ≤ 140737488355328) (h4 : w.heap.size ≤ w1.heap.size) => csb.write_calls w.heap.size b l s t w1 h1 h2 h3 h4)
  have HS := Lib.hid (fun (l : List UInt8) w1 (h1 : csb.MayB w.heap.size b l w1) (h4 : w.heap.size ≤ w1.heap.size) => csb.string_calls w.heap.size b l w1 h1 h4)
  have HM1 : Hid (csb.MayB w.heap.size b [] (w.alloc (.cells #[.pointer none, .slice none 0 0] 68))) := Lib.hid (by rw [hb]; exact HM0.out)
  clear hnew HM0 h0
  have HBe := Lib.hid hb
  clear hb
  go_enter Tryd.func18, Tryd.ntmps18
  go_wp2_with fail
  rw [← HBe.out]
  go_loopw [11] (fun iv wr => ∃ (n : Nat), n ≤ len ∧ iv = .int .i64 n ∧ Hid (csb.MayB w.heap.size b (joinN fs n) wr) ∧ Hid (Below w.heap.size w wr)) (fun i _ => len - (intOf i).toNat)
  case atStart => exact ⟨0, Nat.zero_le _, rfl, HM1, HB0⟩
  case round =>
    obtain ⟨n, hn, rfl, HMb, HB⟩ := hrel
    have hjl := joinN_len fs n (by rw [HLn.out]; exact hn)
    have hcc := HC.out
    by_cases hlt : n < len
    case neg =>
      have hnl : n = len := by omega
      have H1 := Lib.hid (HW.out (joinN fs n) ⟨#[13, 10]⟩ [13, 10] wr HMb.out rfl (by simp; omega) HB.out.size)
      have HV : Hid ((⟨(joinN fs n ++ [13, 10]).toArray⟩ : ByteArray) = ⟨(lineL fs).toArray⟩) := Lib.hid (by
        have hf : fs ≠ [] := fun e => by
          have := HLn.out
          rw [e] at this
          simp at this
          rw [← this] at t0
          simp at t0
        rw [lineL, if_neg hf, hnl, ← HLn.out, joinN_all])
      clear hnl hjl hcc
      go_wp2_with fail
      refine H1.out.mono ?_
      rintro e w1 ⟨rfl, hM1, k1⟩
      have HB1 := Lib.hid (HB.out.trans k1)
      have H2 := Lib.hid (HS.out _ w1 hM1 HB1.out.size)
      clear k1 hM1
      go_wp2_with fail
      refine H2.out.mono ?_
      rintro e w2 ⟨rfl, k2⟩
      have HB2 := Lib.hid (HB1.out.trans k2)
      clear k2
      go_wp2_with fail
      go_ret
      exact ⟨by rw [← HV.out]; rfl, HB2.out⟩
    case pos =>
      obtain ⟨g, off, rfl, hcell⟩ := H.out.at' HB.out hlt
      have hfl := cost_at fs n (by rw [HLn.out]; exact hlt)
      have hQl := fieldL_len (fs.getD n [])
      obtain ⟨x, hx⟩ : ∃ x, x = fs.getD n [] := ⟨_, rfl⟩
      rw [← hx] at hcell hfl hQl
      have H1 := Lib.hid (HF.out x (by omega))
      obtain ⟨Q, hQ⟩ : ∃ Q : ByteArray, Q = ⟨(fieldL x).toArray⟩ := ⟨_, rfl⟩
      have HQd : Hid (Q.data.toList = fieldL x) := Lib.hid (by rw [hQ])
      rw [← hQ] at H1
      obtain ⟨Y, hY⟩ : ∃ Y : ByteArray, Y = ⟨x.toArray⟩ := ⟨_, rfl⟩
      rw [← hY] at H1 hcell
      by_cases h0 : n = 0
      · subst h0
        rw [Nat.add_zero] at hcell
        have HJ : Hid (joinN fs 0 ++ fieldL x = joinN fs (0 + 1)) := Lib.hid (by rw [joinN_one, hx]; rfl)
        clear hx hQ hY
        go_wp2_with fail
        refine (H1.out _ (HM.out.below HB.out)).mono ?_
        rintro e w1 ⟨rfl, k1⟩
        have HB1 := Lib.hid (HB.out.trans (k1.mono HB.out.size))
        have H2 := Lib.hid (HW.out _ Q (fieldL x) w1 (HMb.out.below k1) HQd.out (by omega) HB1.out.size)
        clear k1
        go_wp2_with fail
        refine H2.out.mono ?_
        rintro e w2 ⟨rfl, hM2, k2⟩
        have HB2 := Lib.hid (HB1.out.trans k2)
        have HM2 : Hid (csb.MayB w.heap.size b (joinN fs (0 + 1)) w2) := Lib.hid (by rw [← HJ.out]; exact hM2)
        clear hM2 k2
        go_wp2_with fail
        go_roundw
        case rel => exact ⟨1, hlt, by go_num, HM2, HB2⟩
        case measure => simp [intOf]; omega
      · have hn0 : 0 < n := by omega
        have HJ : Hid (joinN fs n ++ [44] ++ fieldL x = joinN fs (n + 1)) := Lib.hid (by rw [joinN_step fs n h0, hx])
        have H0 := Lib.hid (HW.out (joinN fs n) ⟨#[44]⟩ [44] wr HMb.out rfl (by simp; omega) HB.out.size)
        have HLl : Hid ((joinN fs n ++ [44]).length + (fieldL x).length ≤ 140737488355328) := Lib.hid (by simp; omega)
        clear hx hQ hY h0
        go_wp2_with fail
        refine H0.out.mono ?_
        rintro e w0 ⟨rfl, hM0, k0⟩
        have HB0' := Lib.hid (HB.out.trans k0)
        have HM0' := Lib.hid hM0
        clear k0 hM0
        go_wp2_with fail
        refine (H1.out _ (HM.out.below HB0'.out)).mono ?_
        rintro e w1 ⟨rfl, k1⟩
        have HB1 := Lib.hid (HB0'.out.trans (k1.mono HB0'.out.size))
        have H2 := Lib.hid (HW.out _ Q (fieldL x) w1 (HM0'.out.below k1) HQd.out HLl.out HB1.out.size)
        clear k1
        go_wp2_with fail
        refine H2.out.mono ?_
        rintro e w2 ⟨rfl, hM2, k2⟩
        have HB2 := Lib.hid (HB1.out.trans k2)
        have HM2 : Hid (csb.MayB w.heap.size b (joinN fs (n + 1)) w2) := Lib.hid (by rw [← HJ.out]; exact hM2)
        clear hM2 k2
        go_wp2_with fail
        go_roundw
        case rel => exact ⟨n + 1, hlt, by go_num, HM2, HB2⟩
        case measure => simp [intOf]; omega
end Go.Proofs.YtkihjfdpfglkbaaDoor
