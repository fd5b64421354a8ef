/- What cutRun and cutQuoted do with any text. -/
import Derived.Test.YtbojhcfofgdoeaaDoorLexSign
import Derived.Test.YtbojhcfofgdoeaaDoorQuoteCut
namespace Go.Proofs.YtbojhcfofgdoeaaDoor
open Go.RowKit
set_option linter.unusedVariables false

theorem in_names : inSet ⟨#[65, 66, 67, 68, 69, 70, 71, 72, 73, 74, 75, 76, 77, 78, 79, 80, 81, 82, 83, 84, 85, 86, 87, 88, 89, 90, 97, 98, 99, 100, 101, 102, 103, 104, 105, 106, 107, 108, 109, 110, 111, 112, 113, 114, 115, 116, 117, 118, 119, 120, 121, 122, 48, 49, 50, 51, 52, 53, 54, 55, 56, 57, 95]⟩ = nameC := by
  funext c
  exact (all8 (P := fun c => (inSet ⟨#[65, 66, 67, 68, 69, 70, 71, 72, 73, 74, 75, 76, 77, 78, 79, 80, 81, 82, 83, 84, 85, 86, 87, 88, 89, 90, 97, 98, 99, 100, 101, 102, 103, 104, 105, 106, 107, 108, 109, 110, 111, 112, 113, 114, 115, 116, 117, 118, 119, 120, 121, 122, 48, 49, 50, 51, 52, 53, 54, 55, 56, 57, 95]⟩ c = nameC c)) (by decide +kernel)) c
theorem run_len (l : List UInt8) : twN nameC l = (runL l).length := rfl
theorem run_take_list (s : ByteArray) : (s.extract 0 (runL s.data.toList).length).data.toList = runL s.data.toList := by
  rw [cs_take]
  obtain ⟨y, hy⟩ := run_pre s.data.toList
  have h := congrArg (List.take (runL s.data.toList).length) hy
  rw [h]
  exact List.take_left' rfl
/-- A token's own block, as it was made. -/
structure TkBox (N : Nat) (w W : World) : Prop where
  below : Below N w W
  tok : W.heap[N]? = some (.cells #[.int .i64 0, .string ⟨#[]⟩, .int .i64 0, .int .i64 0] 34 (0, 0))
theorem TkBox.new (w : World) : TkBox w.heap.size w (w.alloc (.cells #[.int .i64 0, .string ⟨#[]⟩, .int .i64 0, .int .i64 0] 34)) :=
  ⟨(Below.refl _ _).alloc (Nat.le_refl _) _, heap_alloc_new _ _⟩
theorem TkBox.lt {N : Nat} {w W : World} (h : TkBox N w W) : N < W.heap.size := (Array.getElem?_eq_some_iff.1 h.tok).1
theorem TkBox.step {N : Nat} {w W W' : World} (h : TkBox N w W) (k : Below W.heap.size W W') : TkBox N w W' := by
  have := h.lt
  exact ⟨h.below.trans (k.mono (by omega)), (k.block _ h.lt).trans h.tok⟩
theorem TkBox.cells {N : Nat} {w W : World} (h : TkBox N w W) : (W.cell? ⟨N, 0, none⟩ = some (.int .i64 0) ∧ W.cell? ⟨N, 1, none⟩ = some (.string ⟨#[]⟩) ∧ W.cell? ⟨N, 2, none⟩ = some (.int .i64 0) ∧ W.cell? ⟨N, 3, none⟩ = some (.int .i64 0)) ∧ W.frozen? ⟨N, 0, none⟩ = false ∧ W.frozen? ⟨N, 1, none⟩ = false ∧ W.frozen? ⟨N, 2, none⟩ = false ∧ W.frozen? ⟨N, 3, none⟩ = false :=
  ⟨⟨by rw [cell_of_row W _ 0 _ _ _ h.tok]; rfl, by rw [cell_of_row W _ 1 _ _ _ h.tok]; rfl, by rw [cell_of_row W _ 2 _ _ _ h.tok]; rfl, by rw [cell_of_row W _ 3 _ _ _ h.tok]; rfl⟩, frozen_of_row W _ 0 _ _ h.tok, frozen_of_row W _ 1 _ _ h.tok, frozen_of_row W _ 2 _ _ h.tok, frozen_of_row W _ 3 _ _ h.tok⟩
theorem tk_set4 {B g : Nat} {a w : World} (h : Below B a w) (hg : B ≤ g) (x y z u : Value) : Below B a ((((w.setCell ⟨g, 0, none⟩ x).setCell ⟨g, 1, none⟩ y).setCell ⟨g, 2, none⟩ z).setCell ⟨g, 3, none⟩ u) :=
  (((h.setCell hg _).setCell hg _).setCell hg _).setCell hg _

/-- The token of letters, digits and _ at the beginning: kind and error. -/
def runK (l : List UInt8) : Nat × Nat := if runL l = [] then (0, 0) else kindE ⟨(runL l).toArray⟩
set_option maxHeartbeats 2000000 in
theorem cutRun_calls (s : ByteArray) (w : World) (hs : s.size ≤ 4611686018427387903) (hw : Wds w) :
    Calls Tryd.prog 21 #[.string s] w fun e w' => e = .returned (cutV (runK s.data.toList).1 (runL s.data.toList) (runL s.data.toList).length (runK s.data.toList).2) ∧ Below w.heap.size w w' := by
  have HA := Lib.hid (fun w1 => among_calls ⟨#[65, 66, 67, 68, 69, 70, 71, 72, 73, 74, 75, 76, 77, 78, 79, 80, 81, 82, 83, 84, 85, 86, 87, 88, 89, 90, 97, 98, 99, 100, 101, 102, 103, 104, 105, 106, 107, 108, 109, 110, 111, 112, 113, 114, 115, 116, 117, 118, 119, 120, 121, 122, 48, 49, 50, 51, 52, 53, 54, 55, 56, 57, 95]⟩ w1)
  have HR := Lib.hid (fun w1 B (hB : w1.cell? ⟨B, 0, none⟩ = some (.string ⟨#[65, 66, 67, 68, 69, 70, 71, 72, 73, 74, 75, 76, 77, 78, 79, 80, 81, 82, 83, 84, 85, 86, 87, 88, 89, 90, 97, 98, 99, 100, 101, 102, 103, 104, 105, 106, 107, 108, 109, 110, 111, 112, 113, 114, 115, 116, 117, 118, 119, 120, 121, 122, 48, 49, 50, 51, 52, 53, 54, 55, 56, 57, 95]⟩)) => runIn_calls s ⟨#[65, 66, 67, 68, 69, 70, 71, 72, 73, 74, 75, 76, 77, 78, 79, 80, 81, 82, 83, 84, 85, 86, 87, 88, 89, 90, 97, 98, 99, 100, 101, 102, 103, 104, 105, 106, 107, 108, 109, 110, 111, 112, 113, 114, 115, 116, 117, 118, 119, 120, 121, 122, 48, 49, 50, 51, 52, 53, 54, 55, 56, 57, 95]⟩ B w1 (by omega) hB)
  rw [in_names, run_len] at HR
  have HO := Lib.hid (TkBox.new w)
  have hO2 := (TkBox.new w).step ((Below.refl _ _).alloc (Nat.le_refl _) (.cells #[.string ⟨#[65, 66, 67, 68, 69, 70, 71, 72, 73, 74, 75, 76, 77, 78, 79, 80, 81, 82, 83, 84, 85, 86, 87, 88, 89, 90, 97, 98, 99, 100, 101, 102, 103, 104, 105, 106, 107, 108, 109, 110, 111, 112, 113, 114, 115, 116, 117, 118, 119, 120, 121, 122, 48, 49, 50, 51, 52, 53, 54, 55, 56, 57, 95]⟩] 9))
  have HC := Lib.hid (alloc_cell (w.alloc (.cells #[.int .i64 0, .string ⟨#[]⟩, .int .i64 0, .int .i64 0] 34)) (.string ⟨#[65, 66, 67, 68, 69, 70, 71, 72, 73, 74, 75, 76, 77, 78, 79, 80, 81, 82, 83, 84, 85, 86, 87, 88, 89, 90, 97, 98, 99, 100, 101, 102, 103, 104, 105, 106, 107, 108, 109, 110, 111, 112, 113, 114, 115, 116, 117, 118, 119, 120, 121, 122, 48, 49, 50, 51, 52, 53, 54, 55, 56, 57, 95]⟩) 9)
  have hsz : (w.alloc (.cells #[.int .i64 0, .string ⟨#[]⟩, .int .i64 0, .int .i64 0] 34)).heap.size = w.heap.size + 1 := by simp
  rw [hsz] at HC
  have HO2 := Lib.hid hO2
  have HRL := Lib.hid (run_take_list s)
  have HV : Hid (runK s.data.toList = if runL s.data.toList = [] then (0, 0) else kindE ⟨(runL s.data.toList).toArray⟩) := Lib.hid rfl
  generalize runK s.data.toList = K at HV ⊢
  have HLe : Hid ((runL s.data.toList).length ≤ s.size) := Lib.hid (by rw [cs_size, ← run_len]; exact tw_le _ _)
  clear hO2 hsz
  by_cases h0 : runL s.data.toList = []
  case pos =>
    have HE : Hid (runL s.data.toList = []) := Lib.hid h0
    have HK : Hid (K = (0, 0)) := Lib.hid (by rw [HV.out, if_pos h0])
    rw [h0] at HR HRL ⊢
    rw [HK.out]
    clear HV h0
    go_enter Tryd.func21, Tryd.ntmps21
    go_wp2_with fail
    refine (HA.out _).mono ?_
    rintro e w1 ⟨rfl, hw1⟩
    subst hw1
    go_wp2_with fail
    refine (HR.out _ _ HC.out).mono ?_
    rintro e w1 ⟨rfl, hw1⟩
    subst hw1
    go_wp2_with fail
    refine bodyPost_ret (v := cutV 0 [] 0 0) ?_ rfl ⟨rfl, ?_⟩
    · refine lx_result3 rfl _ _ _ (a := ⟨w.heap.size, 0, none⟩) (by rfl) ?_ (by rfl) (by rfl)
      go_simp
    · exact ((Below.refl w.heap.size w).alloc (Nat.le_refl _) _).alloc (by simp) _
  case neg =>
    have hx : (⟨(runL s.data.toList).toArray⟩ : ByteArray) = s.extract 0 (runL s.data.toList).length := (sc_eq HRL.out).symm
    have hn0 : 0 < (runL s.data.toList).length := List.length_pos_iff.2 h0
    have hxs : (s.extract 0 (runL s.data.toList).length).size = (runL s.data.toList).length := by rw [cs_size, HRL.out]
    have HK : Hid (K = kindE (s.extract 0 (runL s.data.toList).length)) := Lib.hid (by rw [HV.out, if_neg h0, hx])
    have HX := Lib.hid (fun w1 (hb : Below w.heap.size w w1) => kind_calls (s.extract 0 (runL s.data.toList).length) w1 (by rw [hxs]; have := HLe.out; omega) (by rw [hxs]; exact hn0) (hw.below hb))
    have HVV : Hid (cutV K.1 (runL s.data.toList) (runL s.data.toList).length K.2 = .tuple #[.agg #[.int .i64 (K.1 : Nat), .string (s.extract 0 (runL s.data.toList).length), .int .i64 0, .int .i64 0], .int .i64 ((runL s.data.toList).length : Nat), errV K.2]) := Lib.hid (by unfold cutV; rw [hx])
    rw [← HK.out] at HX
    obtain ⟨n, hn⟩ : ∃ n, n = (runL s.data.toList).length := ⟨_, rfl⟩
    rw [← hn] at HR HX HVV HLe ⊢
    have hn0 : 0 < n := by rw [hn]; exact hn0
    have hnl := HLe.out
    clear HV HK hx hxs h0 hw HRL hn
    generalize errV K.2 = EV at HX HVV
    generalize K.1 = k1 at HX HVV
    generalize runL s.data.toList = RL at HVV ⊢
    go_enter Tryd.func21, Tryd.ntmps21
    go_wp2_with fail
    refine (HA.out _).mono ?_
    rintro e w1 ⟨rfl, hw1⟩
    subst hw1
    go_wp2_with fail
    refine (HR.out _ _ HC.out).mono ?_
    rintro e w1 ⟨rfl, hw1⟩
    subst hw1
    go_wp2_with fail
    refine (HX.out _ HO2.out.below).mono ?_
    rintro e w2 ⟨rfl, k2⟩
    have hO3 := HO2.out.step k2
    have HO3 := Lib.hid hO3
    have hlt := hO3.lt
    obtain ⟨⟨c0, c1, c2, c3⟩, f0, f1, f2, f3⟩ := hO3.cells
    clear k2 hO3 HC HO HO2 HX HR HA
    go_wp2_with fail
    refine bodyPost_ret (v := .tuple #[.agg #[.int .i64 (k1 : Nat), .string (s.extract 0 n), .int .i64 0, .int .i64 0], .int .i64 (n : Nat), EV]) ?_ rfl ⟨by rw [HVV.out], ?_⟩
    · refine lx_result3 rfl _ _ _ (a := ⟨w.heap.size, 0, none⟩) (by rfl) ?_ (by rfl) (by rfl)
      go_simp
    · exact tk_set4 HO3.out.below (Nat.le_refl _) _ _ _ _

/-- quote.Cut, as a function's answer. -/
theorem cutYes_calls (s : ByteArray) (w : World) (hs : s.size ≤ 4294967296) (hE : Esc w) {t : List UInt8} (h : cutL s.data.toList = some t) :
    Calls Tryd.prog 46 #[.string s] w fun e w' => e = .returned (.tuple #[.string ⟨t.toArray⟩, .int .i64 ((quoteL t).length : Nat), .bool true]) ∧ Below w.heap.size w w' := by
  refine (cut_calls s w hs hE).mono ?_
  rintro e w' ⟨t', n, ok, ht, rfl, hb⟩
  obtain ⟨y, hy⟩ := cut_some h
  obtain ⟨rfl, rfl, rfl⟩ := CutTold.same ht (.inl ⟨rfl, rfl, y, hy⟩ : CutTold s.data.toList t (quoteL t).length true)
  exact ⟨rfl, hb⟩
theorem cutNo_calls (s : ByteArray) (w : World) (hs : s.size ≤ 4294967296) (hE : Esc w) (h : cutL s.data.toList = none) :
    Calls Tryd.prog 46 #[.string s] w fun e w' => e = .returned (.tuple #[.string ⟨#[]⟩, .int .i64 0, .bool false]) ∧ Below w.heap.size w w' := by
  refine (cut_calls s w hs hE).mono ?_
  rintro e w' ⟨t', n, ok, ht, rfl, hb⟩
  obtain ⟨rfl, rfl, rfl⟩ := CutTold.same ht (.inr ⟨rfl, rfl, rfl, fun u y e => by have := cut_yes u y; rw [← e, h] at this; cases this⟩ : CutTold s.data.toList [] 0 false)
  exact ⟨rfl, hb⟩
/-- The quoted text at the beginning: kind, text, bytes, error. -/
noncomputable def quoT (l : List UInt8) : Nat × List UInt8 × Nat × Nat :=
  if l.head? = some 34 then match cutL l with | none => (0, [], 0, 17) | some t => if 4096 < t.length then (0, [], 0, 3) else (4, t, (quoteL t).length, 0)
  else (0, [], 0, 0)
set_option maxHeartbeats 2000000 in
theorem cutQuo_calls (s : ByteArray) (w : World) (hs : s.size ≤ 4294967296) (hE : Esc w) :
    Calls Tryd.prog 22 #[.string s] w fun e w' => e = .returned (cutV (quoT s.data.toList).1 (quoT s.data.toList).2.1 (quoT s.data.toList).2.2.1 (quoT s.data.toList).2.2.2) ∧ Below w.heap.size w w' := by
  have HP := Lib.hid (fun w1 => pre_calls1 s 34 w1)
  have HO := Lib.hid (TkBox.new w)
  by_cases hh : s.data.toList.head? = some 34
  case neg =>
    have HK : Hid (quoT s.data.toList = (0, [], 0, 0)) := Lib.hid (if_neg hh)
    rw [show (s.data.toList.head? == some 34) = false by simpa using hh] at HP
    rw [HK.out]
    clear hh hE
    go_enter Tryd.func22, Tryd.ntmps22
    go_wp2_with fail
    refine (HP.out _).mono ?_
    rintro e w1 ⟨rfl, hw1⟩
    subst hw1
    go_wp2_with fail
    refine bodyPost_ret (v := cutV 0 [] 0 0) ?_ rfl ⟨rfl, ?_⟩
    · refine lx_result3 rfl _ _ _ (a := ⟨w.heap.size, 0, none⟩) (by rfl) ?_ (by rfl) (by rfl)
      go_simp
    · exact (Below.refl w.heap.size w).alloc (Nat.le_refl _) _
  case pos =>
  rw [show (s.data.toList.head? == some 34) = true by simpa using hh] at HP
  cases hc : cutL s.data.toList with
  | none =>
    have HK : Hid (quoT s.data.toList = (0, [], 0, 17)) := Lib.hid (by unfold quoT; rw [if_pos hh, hc])
    have HX := Lib.hid (fun w1 (hb : Below w.heap.size w w1) => cutNo_calls s w1 hs (esc_below hE (var_lt gEsc hE) hb) hc)
    rw [HK.out]
    clear hh hE hc
    go_enter Tryd.func22, Tryd.ntmps22
    go_wp2_with fail
    refine (HP.out _).mono ?_
    rintro e w1 ⟨rfl, hw1⟩
    subst hw1
    go_wp2_with fail
    refine (HX.out _ HO.out.below).mono ?_
    rintro e w2 ⟨rfl, k2⟩
    have hO3 := HO.out.step k2
    have HO3 := Lib.hid hO3
    have hlt := hO3.lt
    obtain ⟨⟨c0, c1, c2, c3⟩, f0, f1, f2, f3⟩ := hO3.cells
    clear k2 hO3 HO HX HP
    go_wp2_with fail
    refine bodyPost_ret (v := cutV 0 [] 0 17) ?_ rfl ⟨rfl, ?_⟩
    · refine lx_result3 rfl _ _ _ (a := ⟨w.heap.size, 0, none⟩) (by rfl) ?_ (by rfl) (by rfl)
      go_simp
    · exact tk_set4 HO3.out.below (Nat.le_refl _) _ _ _ _
  | some t =>
    have HX := Lib.hid (fun w1 (hb : Below w.heap.size w w1) => cutYes_calls s w1 hs (esc_below hE (var_lt gEsc hE) hb) hc)
    have hts : (⟨t.toArray⟩ : ByteArray).size = t.length := lx_size t
    obtain ⟨n, hn⟩ : ∃ n, n = (quoteL t).length := ⟨_, rfl⟩
    rw [← hn] at HX
    by_cases hl : 4096 < t.length
    · have HK : Hid (quoT s.data.toList = (0, [], 0, 3)) := Lib.hid (by unfold quoT; rw [if_pos hh, hc]; exact if_pos hl)
      rw [HK.out]
      clear hh hE hc
      obtain ⟨x, hx⟩ : ∃ x : ByteArray, x = ⟨t.toArray⟩ := ⟨_, rfl⟩
      rw [← hx] at HX hts
      have t1 : decide ((4096 : Int) < (x.size : Int)) = true := by rw [decide_eq_true_eq, hts]; omega
      clear hts hx hl hn
      go_enter Tryd.func22, Tryd.ntmps22
      go_wp2_with fail
      refine (HP.out _).mono ?_
      rintro e w1 ⟨rfl, hw1⟩
      subst hw1
      go_wp2_with fail
      refine (HX.out _ HO.out.below).mono ?_
      rintro e w2 ⟨rfl, k2⟩
      have hO3 := HO.out.step k2
      have HO3 := Lib.hid hO3
      have hlt := hO3.lt
      obtain ⟨⟨c0, c1, c2, c3⟩, f0, f1, f2, f3⟩ := hO3.cells
      clear k2 hO3 HO HX HP
      go_wp2_with fail
      refine bodyPost_ret (v := cutV 0 [] 0 3) ?_ rfl ⟨rfl, ?_⟩
      · refine lx_result3 rfl _ _ _ (a := ⟨w.heap.size, 0, none⟩) (by rfl) ?_ (by rfl) (by rfl)
        go_simp
      · exact tk_set4 HO3.out.below (Nat.le_refl _) _ _ _ _
    · have HK : Hid (quoT s.data.toList = (4, t, (quoteL t).length, 0)) := Lib.hid (by unfold quoT; rw [if_pos hh, hc]; exact if_neg hl)
      have HV : Hid (cutV (quoT s.data.toList).1 (quoT s.data.toList).2.1 (quoT s.data.toList).2.2.1 (quoT s.data.toList).2.2.2 = .tuple #[.agg #[.int .i64 4, .string ⟨t.toArray⟩, .int .i64 0, .int .i64 0], .int .i64 (n : Nat), .nilIface]) := Lib.hid (by rw [HK.out, hn]; rfl)
      generalize cutV (quoT s.data.toList).1 (quoT s.data.toList).2.1 (quoT s.data.toList).2.2.1 (quoT s.data.toList).2.2.2 = V at HV ⊢
      clear hh hE hc HK
      obtain ⟨x, hx⟩ : ∃ x : ByteArray, x = ⟨t.toArray⟩ := ⟨_, rfl⟩
      rw [← hx] at HX hts HV
      have t1 : decide ((4096 : Int) < (x.size : Int)) = false := by rw [decide_eq_false_iff_not, hts]; omega
      clear hts hx hl hn
      go_enter Tryd.func22, Tryd.ntmps22
      go_wp2_with fail
      refine (HP.out _).mono ?_
      rintro e w1 ⟨rfl, hw1⟩
      subst hw1
      go_wp2_with fail
      refine (HX.out _ HO.out.below).mono ?_
      rintro e w2 ⟨rfl, k2⟩
      have hO3 := HO.out.step k2
      have HO3 := Lib.hid hO3
      have hlt := hO3.lt
      obtain ⟨⟨c0, c1, c2, c3⟩, f0, f1, f2, f3⟩ := hO3.cells
      clear k2 hO3 HO HX HP
      go_wp2_with fail
      refine bodyPost_ret (v := .tuple #[.agg #[.int .i64 4, .string x, .int .i64 0, .int .i64 0], .int .i64 (n : Nat), .nilIface]) ?_ rfl ⟨by rw [HV.out], ?_⟩
      · refine lx_result3 rfl _ _ _ (a := ⟨w.heap.size, 0, none⟩) (by rfl) ?_ (by rfl) (by rfl)
        go_simp
      · exact tk_set4 HO3.out.below (Nat.le_refl _) _ _ _ _
end Go.Proofs.YtbojhcfofgdoeaaDoor
