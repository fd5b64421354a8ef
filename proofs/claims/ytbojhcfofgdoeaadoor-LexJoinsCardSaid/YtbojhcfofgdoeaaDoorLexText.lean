/- A token's text; and tokens joined: lex.Text, lex.Join. -/
import Derived.Test.YtbojhcfofgdoeaaDoorLexAllF
import Derived.Test.YtbojhcfofgdoeaaDoorScText0
namespace Go.Proofs.YtbojhcfofgdoeaaDoor
open Go.RowKit
set_option linter.unusedVariables false

/-- A token as a text. -/
def tkT (x : Tk) : ByteArray := ⟨(tkL x.k x.t).toArray⟩
theorem tkT_list (x : Tk) : (tkT x).data.toList = tkL x.k x.t := rfl
set_option maxHeartbeats 1000000 in
theorem lexText_calls (x : Tk) (w : World) (hx : x.t.length ≤ 4294967296) (hE : Esc w) :
    Calls Tryd.prog 11 #[.agg #[.int .i64 (x.k : Nat), .string ⟨x.t.toArray⟩, .int .i64 (x.line : Nat), .int .i64 (x.col : Nat)]] w fun e w' => e = .returned (.string (tkT x)) ∧ Below w.heap.size w w' := by
  obtain ⟨k, t, l, c⟩ := x
  simp only at hx
  have hb := (Below.refl w.heap.size w).alloc (Nat.le_refl _) (.cells #[.int .i64 (k : Nat), .string ⟨t.toArray⟩, .int .i64 (l : Nat), .int .i64 (c : Nat)] 34)
  have HB := Lib.hid hb
  have HQ := Lib.hid (quote_calls ⟨t.toArray⟩ _ (by rw [lx_size]; exact hx) (esc_below hE (var_lt gEsc hE) hb))
  have HS : Hid (w.heap.size ≤ (w.alloc (.cells #[.int .i64 (k : Nat), .string ⟨t.toArray⟩, .int .i64 (l : Nat), .int .i64 (c : Nat)] 34)).heap.size) := Lib.hid (by simp)
  by_cases h4 : k = 4
  · have HV : Hid (tkT ⟨k, t, l, c⟩ = ⟨(quoteL (⟨t.toArray⟩ : ByteArray).data.toList).toArray⟩) := Lib.hid (by unfold tkT tkL; rw [if_pos h4])
    generalize tkT ⟨k, t, l, c⟩ = V at HV ⊢
    clear hx hE hb
    subst h4
    go_enter Tryd.func11, Tryd.ntmps11
    go_wp2_with fail
    refine HQ.out.mono ?_
    rintro e w1 ⟨rfl, k1⟩
    have HB1 := Lib.hid (HB.out.trans (k1.mono HS.out))
    clear k1
    go_wp2_with fail
    go_ret
    exact ⟨by rw [HV.out]; rfl, HB1.out⟩
  · have HV : Hid (tkT ⟨k, t, l, c⟩ = ⟨t.toArray⟩) := Lib.hid (by unfold tkT tkL; rw [if_neg h4])
    generalize tkT ⟨k, t, l, c⟩ = V at HV ⊢
    have t4 : ((k : Int) == 4) = false := by rw [beq_eq_false_iff_ne]; omega
    clear hx hE hb HQ h4
    go_enter Tryd.func11, Tryd.ntmps11
    go_wp2_with fail
    go_ret
    exact ⟨by rw [HV.out]; rfl, HB.out⟩

/-- The texts of tokens, so far. -/
def textsN (M : List Tk) (n : Nat) : List ByteArray := (M.take n).map tkT ++ List.replicate (M.length - n) ⟨#[]⟩
theorem textsN_zero (M : List Tk) : textsN M 0 = List.replicate M.length ⟨#[]⟩ := by simp [textsN]
theorem textsN_all (M : List Tk) : textsN M M.length = M.map tkT := by simp [textsN]
theorem textsN_len (M : List Tk) (n : Nat) (h : n ≤ M.length) : (textsN M n).length = M.length := by
  simp [textsN]; omega
theorem textsN_set (M : List Tk) (n : Nat) (x : Tk) (h : M[n]? = some x) : (textsN M n).set n (tkT x) = textsN M (n + 1) := by
  obtain ⟨hn, e⟩ := List.getElem?_eq_some_iff.1 h
  have ht : M.take (n + 1) = M.take n ++ [x] := by rw [List.take_succ_eq_append_getElem hn, e]
  have hr : M.length - n = (M.length - (n + 1)) + 1 := by omega
  have hl : ((M.take n).map tkT).length = n := by rw [List.length_map, List.length_take]; omega
  unfold textsN
  rw [List.set_append_right _ _ (by omega), hl, Nat.sub_self, hr, List.replicate_succ, List.set_cons_zero, ht]
  simp
theorem join_lib : ∀ (M : List Tk), Lib.join ((M.map tkT).map (·.data.toList)) [32] = joinT M
  | [] => rfl
  | [x] => by simp [Lib.join, joinT, tkT_list]
  | x :: y :: M => by
    have ih := join_lib (y :: M)
    simp only [List.map_cons] at ih ⊢
    rw [joinT, ← ih, Lib.join, tkT_list]
    simp
    rfl
theorem HoldT.below {g : Nat} {l : List ByteArray} {w w' : World} (h : HoldT g l w) (k : Below w.heap.size w w') : HoldT g l w' := (k.block g h.lt).trans h

set_option maxHeartbeats 4000000 in
set_option maxRecDepth 100000 in
theorem join_calls (a : Option Addr) (len cap : Nat) (M : List Tk) (w : World) (h : TkIn w 34 a len M) (hl : len ≤ 1000000) (hm : ∀ x ∈ M, x.t.length ≤ 4294967296) (hj : (joinT M).length ≤ 140737488355328) (hE : Esc w) :
    Calls Tryd.prog 9 #[.slice a len cap] w fun e w' => e = .returned (.string ⟨(joinT M).toArray⟩) ∧ Below w.heap.size w w' := by
  have H := Lib.hid h
  have HL := Lib.hid h.leng
  have hmk := make_strs len hl
  have hB1 := (Below.refl w.heap.size w).alloc (Nat.le_refl _) (.cells (madeCells #[.string ⟨#[]⟩] len) 9)
  have HB1 := Lib.hid hB1
  have hM := HoldT.made w len
  rw [show List.replicate len (⟨#[]⟩ : ByteArray) = textsN M 0 by rw [textsN_zero, HL.out]] at hM
  have HM := Lib.hid hM
  have HT := Lib.hid (fun x w1 (hx : x ∈ M) (hb : Below w.heap.size w w1) => lexText_calls x w1 (hm x hx) (esc_below hE (var_lt gEsc hE) hb))
  have HJ : Hid (∀ w1, HoldT w.heap.size (M.map tkT) w1 → Calls Tryd.prog 16 #[.slice (some ⟨w.heap.size, 0, none⟩) len len, .string ⟨#[32]⟩] w1 fun e w' => e = .returned (.string ⟨(joinT M).toArray⟩) ∧ Below w1.heap.size w1 w') := Lib.hid (fun w1 hA => by
    have h1 := Tryd.strings_Join w.heap.size 0 len (M.map tkT) ⟨#[32]⟩ w1 (fun j y hj => by rw [Nat.zero_add]; exact hA.cell hj) hA.lt (by rw [List.length_map, HL.out]; omega) (by rw [List.length_map, HL.out]; omega) (by rw [show (⟨#[32]⟩ : ByteArray).data.toList = [32] from rfl, join_lib]; exact hj)
    rw [List.length_map, HL.out, show (⟨#[32]⟩ : ByteArray).data.toList = [32] from rfl, join_lib] at h1
    exact h1)
  obtain ⟨J, hJ⟩ : ∃ J : ByteArray, J = ⟨(joinT M).toArray⟩ := ⟨_, rfl⟩
  rw [← hJ] at HJ ⊢
  clear h hB1 hM hm hj hE hJ
  go_enter Tryd.func9, Tryd.ntmps9
  go_wp2_with fail
  clear hmk
  generalize hw2 : w.alloc (.cells (madeCells #[.string ⟨#[]⟩] len) 9) = w2 at HB1 HM ⊢
  clear hw2
  go_loopw [11] (fun i wr => ∃ (n : Nat), n ≤ len ∧ i = .int .i64 n ∧ Hid (HoldT w.heap.size (textsN M n) wr) ∧ Hid (Below w.heap.size w wr)) (fun i _ => len - (intOf i).toNat)
  case atStart => exact ⟨0, Nat.zero_le _, rfl, HM, HB1⟩
  case round =>
    clear HM HB1
    obtain ⟨n, hn, rfl, HR, HB⟩ := hrel
    by_cases hlt : n < len
    case neg =>
      have HA : Hid (HoldT w.heap.size (M.map tkT) wr) := Lib.hid (by rw [← textsN_all, HL.out, ← show n = len by omega]; exact HR.out)
      go_wp2_with fail
      refine (HJ.out _ HA.out).mono ?_
      rintro e w4 ⟨rfl, k4⟩
      have HK4 := Lib.hid (HB.out.trans (k4.mono HB.out.size))
      clear k4
      go_wp2_with fail
      go_ret
      exact ⟨rfl, HK4.out⟩
    case pos =>
      obtain ⟨x, hx⟩ : ∃ x, M[n]? = some x := ⟨_, List.getElem?_eq_getElem (by rw [HL.out]; exact hlt)⟩
      obtain ⟨g, off, ha, hb, e0, e1, e2, e3⟩ := (H.out.below HB.out).at' n x hx
      have HW := Lib.hid (textsN_set M n x hx)
      have H1 := Lib.hid (fun w1 (hb : Below w.heap.size w w1) => HT.out x w1 (List.mem_of_getElem? hx) hb)
      have hgl := hb.lt
      have hbt := HB.out.alloc HB.out.size (.cells #[.int .i64 (x.k : Nat), .string ⟨x.t.toArray⟩, .int .i64 (x.line : Nat), .int .i64 (x.col : Nat)] 34)
      have HBt := Lib.hid hbt
      have HRt : Hid (HoldT w.heap.size (textsN M n) (wr.alloc (.cells #[.int .i64 (x.k : Nat), .string ⟨x.t.toArray⟩, .int .i64 (x.line : Nat), .int .i64 (x.col : Nat)] 34))) := Lib.hid (HR.out.below ((Below.refl _ _).alloc (Nat.le_refl _) _))
      have HLn := Lib.hid (textsN_len M n (by rw [HL.out]; exact hn))
      have hsm := H.out.small
      clear hb hbt hx
      subst ha
      generalize tkT x = y at HW H1
      obtain ⟨k, t, l, c⟩ := x
      simp only at e0 e1 e2 e3 H1 HBt HRt
      go_wp2_with fail
      refine (H1.out _ HBt.out).mono ?_
      rintro e w4 ⟨rfl, k4⟩
      have hR4 := HRt.out.below k4
      have HB4 := Lib.hid (HBt.out.trans (k4.mono HBt.out.size))
      have hf := hR4.frozen n
      obtain ⟨d, hd⟩ : ∃ d, w4.cell? ⟨w.heap.size, n, none⟩ = some (.string d) := ⟨_, hR4.cell (List.getElem?_eq_getElem (by rw [HLn.out, HL.out]; exact hlt))⟩
      have HR5 := Lib.hid (hR4.set n y)
      rw [HW.out] at HR5
      clear k4 hR4 HW H1 HRt HBt HR e0 e1 e2 e3
      go_wp2_with fail
      go_roundw
      case rel => exact ⟨n + 1, hlt, by go_num, HR5, Lib.hid (HB4.out.setCell (Nat.le_refl _) _)⟩
      case measure => simp [intOf]; omega
end Go.Proofs.YtbojhcfofgdoeaaDoor
