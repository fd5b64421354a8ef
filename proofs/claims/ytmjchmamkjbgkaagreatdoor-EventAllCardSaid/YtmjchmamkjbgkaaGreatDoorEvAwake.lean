/- What the laws' own helpers say: right, few, awake. -/
import Derived.Test.YtmjchmamkjbgkaaGreatDoorEvOf
import Derived.Test.YtmjchmamkjbgkaaGreatDoorLowEvT
import Derived.Test.YtmjchmamkjbgkaaGreatDoorLowSc2
import Derived.Laws.StructEq
import Derived.Lib.ItoaLen
namespace Go.Proofs.YtmjchmamkjbgkaaGreatDoor
open Go.RowKit
set_option linter.unusedVariables false

/-- Whether nothing is wrong with a schema. -/
def rightS (L : List Dc) : Bool := decide (L.length ≤ 32) && ((checkL L).2 == 0)
theorem wrong_zero {L : List Dc} {n : Nat} (h : wrongAt L n = 0) : nameB (nmAt L n) = true ∧ (ksAt L n).length ≤ 8 ∧ (ksAt L n).any noKind = false := by
  unfold wrongAt at h
  split at h
  · cases h
  · rename_i h1
    split at h
    · cases h
    · split at h
      · cases h
      · rename_i h3
        split at h
        · cases h
        · rename_i h4
          exact ⟨by simpa using h1, by omega, by simpa using h4⟩
theorem spelt_size {x : ByteArray} (h : speltB x = true) : x.size ≤ 32 := by
  rcases Nat.lt_or_ge 32 x.size with h2 | h2
  · rw [spelt_long h2] at h; cases h
  · exact h2
theorem sch_of {L : List Dc} (h : rightS L = true) : SchOk L ∧ L.length ≤ 32 := by
  unfold rightS at h
  rw [Bool.and_eq_true, decide_eq_true_eq, beq_iff_eq] at h
  obtain ⟨h1, h2⟩ := h
  have hz : ∀ n, n < L.length → wrongAt L n = 0 := by
    intro n hn
    unfold checkL at h2
    rw [if_neg (by omega)] at h2
    cases hf : firstN (fun n => wrongAt L n != 0) L.length with
    | none =>
      unfold firstN at hf
      rw [List.find?_range_eq_none] at hf
      simpa using hf n hn
    | some m =>
      rw [hf] at h2
      unfold firstN at hf
      rw [List.find?_range_eq_some] at hf
      simp at h2
      simp [h2] at hf
  refine ⟨⟨fun n hn k hk => ?_, fun n hn => ⟨(wrong_zero (hz n hn)).2.1, ?_⟩⟩, h1⟩
  · have := (wrong_zero (hz n hn)).2.2
    cases hk2 : noKind k with
    | false => rfl
    | true =>
      have h3 : (ksAt L n).any noKind = true := List.any_eq_true.2 ⟨k, hk, hk2⟩
      rw [this] at h3; cases h3
  · have := (wrong_zero (hz n hn)).1
    unfold nameB at this
    rw [Bool.and_eq_true] at this
    exact spelt_size this.1

set_option maxHeartbeats 1000000 in
theorem evR_calls (a : Option Addr) (len cap : Nat) (L : List Dc) (w : World) (h : DIn w a len L) :
    Calls Tryz.prog 8 #[.slice a len cap] w fun e w' => e = .returned (.bool (rightS L)) ∧ Below w.heap.size w w' := by
  have HL := Lib.hid h.leng
  have HC := Lib.hid (refCheck_calls a len cap L w h)
  clear h
  by_cases h32 : 32 < len
  · have HV : Hid (rightS L = false) := Lib.hid (by unfold rightS; rw [decide_eq_false (by rw [HL.out]; omega)]; rfl)
    have t1 : decide ((32 : Int) < (len : Int)) = true := by simp; omega
    clear h32
    go_enter Tryz.func8, Tryz.ntmps8
    go_wp2_with fail
    go_ret
    exact ⟨by rw [HV.out]; rfl, Below.refl _ _⟩
  · have HV : Hid (rightS L = ((checkL L).2 == 0)) := Lib.hid (by unfold rightS; rw [decide_eq_true (by rw [HL.out]; omega)]; rfl)
    have t1 : decide ((32 : Int) < (len : Int)) = false := by simp; omega
    clear h32
    generalize (checkL L).2 = er at HC HV
    have t2 : (((er : Nat) : Int) == 0) = (er == 0) := by
      rw [Bool.eq_iff_iff, beq_iff_eq, beq_iff_eq]; omega
    go_enter Tryz.func8, Tryz.ntmps8
    go_wp2_with fail
    refine HC.out.mono ?_
    rintro e w1 ⟨rfl, k1⟩
    go_wp2_with fail
    go_ret
    exact ⟨by rw [HV.out, ← t2]; rfl, k1⟩

/-- Whether a row is short enough. -/
def fewR (fs : List (List UInt8)) : Bool := decide (fs.length ≤ 12) && fs.all fun f => decide (f.length ≤ 5000)
theorem fewR_facts {fs : List (List UInt8)} (h : fewR fs = true) : fs.length ≤ 12 ∧ ∀ f ∈ fs, f.length ≤ 5000 := by
  unfold fewR at h
  rw [Bool.and_eq_true, decide_eq_true_eq, List.all_eq_true] at h
  exact ⟨h.1, fun f hf => by simpa using h.2 f hf⟩
set_option maxHeartbeats 1000000 in
theorem evFew_calls (a : Option Addr) (len cap : Nat) (fs : List (List UInt8)) (w : World) (h : TIn w a len fs) :
    Calls Tryz.prog 9 #[.slice a len cap] w fun e w' => e = .returned (.bool (fewR fs)) ∧ w = w' := by
  have H := Lib.hid h
  have HL := Lib.hid h.leng
  have hsm := h.small
  clear h
  by_cases h12 : 12 < len
  · have HV : Hid (fewR fs = false) := Lib.hid (by unfold fewR; rw [decide_eq_false (by rw [HL.out]; omega)]; rfl)
    have t1 : decide ((12 : Int) < (len : Int)) = true := by simp; omega
    clear h12
    go_enter Tryz.func9, Tryz.ntmps9
    go_wp2_with fail
    go_ret
    exact ⟨by rw [HV.out]; rfl, rfl⟩
  · have HV : Hid (fewR fs = fs.all fun f => decide (f.length ≤ 5000)) := Lib.hid (by unfold fewR; rw [decide_eq_true (by rw [HL.out]; omega)]; rfl)
    have t1 : decide ((12 : Int) < (len : Int)) = false := by simp; omega
    clear h12
    go_enter Tryz.func9, Tryz.ntmps9
    go_wp2_with fail
    go_loopw [3] (fun i wr => ∃ (n : Nat), n ≤ len ∧ i = .int .i64 n ∧ Hid ((fs.all fun f => decide (f.length ≤ 5000)) = (fs.drop n).all fun f => decide (f.length ≤ 5000)) ∧ w = wr) (fun i _ => len - (intOf i).toNat)
    case atStart => exact ⟨0, Nat.zero_le _, rfl, Lib.hid rfl, rfl⟩
    case round =>
      obtain ⟨n, hn, rfl, HX, rfl⟩ := hrel
      by_cases hlt : n < len
      case neg =>
        have HE : Hid ((fs.all fun f => decide (f.length ≤ 5000)) = true) := Lib.hid (by rw [HX.out, List.drop_eq_nil_iff.2 (by rw [HL.out]; omega)]; rfl)
        go_wp2_with fail
        go_ret
        exact ⟨by rw [HV.out, HE.out]; rfl, rfl⟩
      case pos =>
        obtain ⟨g, off, rfl, hc⟩ := H.out.at' (Below.refl _ _) hlt
        have hd := fs_drop (fs := fs) (n := n) (by rw [HL.out]; exact hlt)
        have HY : Hid (¬ (fs.getD n []).length ≤ 5000 → (fs.all fun f => decide (f.length ≤ 5000)) = false) := Lib.hid (fun h => by rw [HX.out, hd, List.all_cons, decide_eq_false h]; rfl)
        have HN : Hid ((fs.getD n []).length ≤ 5000 → (fs.all fun f => decide (f.length ≤ 5000)) = (fs.drop (n + 1)).all fun f => decide (f.length ≤ 5000)) := Lib.hid (fun h => by rw [HX.out, hd, List.all_cons, decide_eq_true h]; rfl)
        clear hd
        generalize fs.getD n [] = f at hc HY HN
        obtain ⟨F, hF⟩ : ∃ F : ByteArray, F = ⟨f.toArray⟩ := ⟨_, rfl⟩
        have hFs : F.size = f.length := by rw [hF, cs_size]
        rw [← hF] at hc
        by_cases h5 : F.size ≤ 5000
        · have t2 : decide ((5000 : Int) < (F.size : Int)) = false := by simp; omega
          have HN2 := Lib.hid (HN.out (by omega))
          clear h5 hF hFs HY HN
          go_wp2_with fail
          go_roundw
          case rel => exact ⟨n + 1, hlt, by go_num, HN2, trivial⟩
          case measure => simp [intOf]; omega
        · have t2 : decide ((5000 : Int) < (F.size : Int)) = true := by simp; omega
          have HY2 := Lib.hid (HY.out (by omega))
          clear h5 hF hFs HY HN
          go_wp2_with fail
          go_ret
          exact ⟨by rw [HV.out, HY2.out]; rfl, rfl⟩

set_option maxRecDepth 100000 in
theorem failEq (e l c e' l' c' : Nat) (w : World) : (Op.equalIn 10000 32 (.agg #[.int .i64 (e : Nat), .int .i64 (l : Nat), .int .i64 (c : Nat)]) (.agg #[.int .i64 (e' : Nat), .int .i64 (l' : Nat), .int .i64 (c' : Nat)])).run Tryz.prog w = .ok (decide (e = e' ∧ l = l' ∧ c = c')) w := by
  rw [run_equalIn_agg w 9999 _ _ _ (by simp only [Program.fieldsOf, Tryz.underlying32]) (by kernel_rfl)]
  simp only [Program.fieldsOf, Tryz.underlying32]
  go_simp
  repeat' split
  all_goals simp_all
  all_goals omega
theorem failGuard : Tryz.prog.eqGuardType Tryz.prog.depth 32 = false := by kernel_rfl

theorem vt_len {v : Vd} (h : rightD v) : (vtL v).length ≤ 100000 := by
  obtain ⟨k, i, s, b⟩ := v
  obtain ⟨h, hi⟩ := h
  simp only at h hi
  show (valText k i s b).length ≤ _
  have hsz := right_size h
  rcases right_kind h with rfl | rfl | rfl
  · rw [valText1 h]
    have := Lib.itoa_length_le i hi.1 hi.2
    omega
  · rw [valText2 h, quote_len]
    have := (body_len s.data.toList).2
    rw [sc_size] at hsz
    omega
  · rw [valText3 h]
    cases b <;> decide
theorem cost_le : ∀ (fs : List (List UInt8)) (M : Nat), (∀ f ∈ fs, f.length ≤ M) → costF fs ≤ (2 * M + 3) * fs.length
  | [], _, _ => by simp [costF]
  | f :: r, M, h => by
    have h1 := h f (by simp)
    have h2 := cost_le r M (fun g hg => h g (by simp [hg]))
    rw [costF, List.length_cons, Nat.mul_add, Nat.mul_one]
    omega
theorem allD_vt {A : List Vd} (h : allD A) : ∀ j, j < A.length → (vtL (A.getD j default)).length ≤ 100000 := fun j hj => by
  have e : A.getD j default = A[j] := by simp [List.getD, hj]
  rw [e]; exact vt_len (h _ (List.getElem_mem hj))
theorem allD_right {A : List Vd} (h : allD A) : ∀ j, j < A.length → rightB (A.getD j default).k (A.getD j default).i (A.getD j default).s (A.getD j default).b = true := fun j hj => by
  have e : A.getD j default = A[j] := by simp [List.getD, hj]
  rw [e]; exact (h _ (List.getElem_mem hj)).1
/-- The chapter's example. -/
def openD : List Dc := [(⟨#[111, 112, 101, 110]⟩, [2, 1])]
def openR : List (List UInt8) := [[111, 112, 101, 110], [97], [53]]
def openA : List Vd := [⟨2, 0, ⟨#[97]⟩, false⟩, ⟨1, 5, ⟨#[]⟩, false⟩]
theorem open_sch : SchOk openD := (sch_of (by decide +kernel)).1
theorem itoa5 : Lib.itoa 5 = [53] := by decide +kernel
theorem open_of : ofL openD openR = .ok (⟨#[111, 112, 101, 110]⟩, openA) := by
  have h5 : argV 1 [53] = (⟨1, 5, ⟨#[]⟩, false⟩, 0) := by
    have hp : peN [53] = 0 := by rw [← itoa5]; unfold peN; rw [pe_itoa 5 (by omega)]; rfl
    have hn : pn [53] = 5 := by rw [← itoa5]; exact pn_itoa 5 (by omega)
    unfold argV
    rw [if_neg (by decide), if_neg (by decide), if_pos hp, hn]
  have ha : argV 2 [97] = (⟨2, 0, ⟨#[97]⟩, false⟩, 0) := by unfold argV; rw [if_pos rfl, if_neg (by decide)]
  have hf : findL openD ⟨[111, 112, 101, 110].toArray⟩ = some 0 := by decide +kernel
  refine of_good hf ?_
  show readL [2, 1] [[97], [53]] 2 = _
  rw [readL, ha, if_pos rfl, readL, h5, if_pos rfl, readL]
  rfl
theorem open_text : etT (⟨#[111, 112, 101, 110]⟩, openA) = ⟨#[111, 112, 101, 110, 40, 34, 97, 34, 44, 32, 53, 41]⟩ := by
  have h1 : vtL ⟨2, 0, ⟨#[97]⟩, false⟩ = [34, 97, 34] := by
    show valText 2 0 ⟨#[97]⟩ false = _
    rw [valText2 (by simp [rightB]; decide)]
    decide
  have h2 : vtL ⟨1, 5, ⟨#[]⟩, false⟩ = [53] := by
    show valText 1 5 ⟨#[]⟩ false = _
    rw [valText1 (by simp [rightB])]
    exact itoa5
  have h3 : etL (⟨#[111, 112, 101, 110]⟩, openA) = [111, 112, 101, 110, 40, 34, 97, 34, 44, 32, 53, 41] := by
    rw [etL, etN]
    show _ ++ _ ++ argsN openA 2 ++ _ = _
    rw [argsN, if_neg (by decide), argsN, if_pos rfl]
    show _ ++ _ ++ (vtL ⟨2, 0, ⟨#[97]⟩, false⟩ ++ _ ++ vtL ⟨1, 5, ⟨#[]⟩, false⟩) ++ _ = _
    rw [h1, h2]
    rfl
  unfold etT
  rw [h3]
theorem open_vt : ∀ j, j < openA.length → (vtL (openA.getD j default)).length ≤ 100000 := by
  intro j hj
  have : j = 0 ∨ j = 1 := by have : openA.length = 2 := rfl; omega
  rcases this with rfl | rfl
  · show (valText 2 0 ⟨#[97]⟩ false).length ≤ _
    rw [valText2 (by simp [rightB]; decide)]
    decide
  · show (valText 1 5 ⟨#[]⟩ false).length ≤ _
    rw [valText1 (by simp [rightB]), itoa5]
    decide
theorem kin_two {w : World} {g : Nat} (h0 : w.cell? ⟨g, 0, none⟩ = some (.int .i64 2)) (h1 : w.cell? ⟨g, 1, none⟩ = some (.int .i64 1)) : KIn w (some ⟨g, 0, none⟩) 2 [2, 1] :=
  ⟨rfl, by omega, fun n hn => by
    have : n = 0 ∨ n = 1 := by omega
    rcases this with rfl | rfl
    · exact ⟨g, 0, rfl, block_lt_of_cell h0, h0⟩
    · exact ⟨g, 0, rfl, block_lt_of_cell h0, h1⟩⟩
theorem din_open {w : World} {g g2 : Nat} (h0 : w.cell? ⟨g, 0, none⟩ = some (.string ⟨#[111, 112, 101, 110]⟩)) (h1 : w.cell? ⟨g, 1, none⟩ = some (.slice (some ⟨g2, 0, none⟩) 2 2)) (hk : KIn w (some ⟨g2, 0, none⟩) 2 [2, 1]) : DIn w (some ⟨g, 0, none⟩) 1 openD :=
  ⟨rfl, by omega, fun n hn => by
    obtain rfl : n = 0 := by omega
    exact ⟨g, 0, some ⟨g2, 0, none⟩, 2, rfl, block_lt_of_cell h0, h0, h1, hk, by decide⟩⟩
theorem tin_open {w : World} {g : Nat} (h0 : w.cell? ⟨g, 0, none⟩ = some (.string ⟨#[111, 112, 101, 110]⟩)) (h1 : w.cell? ⟨g, 1, none⟩ = some (.string ⟨#[97]⟩)) (h2 : w.cell? ⟨g, 2, none⟩ = some (.string ⟨#[53]⟩)) : TIn w (some ⟨g, 0, none⟩) 3 openR :=
  ⟨rfl, by omega, fun _ => ⟨g, 0, rfl, block_lt_of_cell h0, fun j t hj => by
    match j, hj with
    | 0, hj => cases hj; rw [Nat.zero_add]; exact h0
    | 1, hj => cases hj; rw [Nat.zero_add]; exact h1
    | 2, hj => cases hj; rw [Nat.zero_add]; exact h2
    | j + 3, hj => simp [openR] at hj⟩⟩

set_option maxHeartbeats 4000000 in
set_option maxRecDepth 100000 in
theorem evAwake_calls (w : World) (hL : Laid w) (het : ErrT w) :
    Calls Tryz.prog 10 #[] w fun e w' => e = .returned (.bool true) ∧ Below w.heap.size w w' := by
  obtain ⟨wa, hwa⟩ : ∃ wa, wa = w.alloc (.cells #[.int .i64 2, .int .i64 1] 3) := ⟨_, rfl⟩
  obtain ⟨wb, hwb⟩ : ∃ wb, wb = wa.alloc (.cells #[.string ⟨#[111, 112, 101, 110]⟩, .slice (some ⟨w.heap.size, 0, none⟩) 2 2] 68) := ⟨_, rfl⟩
  obtain ⟨wc, hwc⟩ : ∃ wc, wc = wb.alloc (.cells #[.string ⟨#[111, 112, 101, 110]⟩, .string ⟨#[97]⟩, .string ⟨#[53]⟩] 9) := ⟨_, rfl⟩
  have za : wa.heap.size = w.heap.size + 1 := by rw [hwa]; simp
  have zb : wb.heap.size = w.heap.size + 1 + 1 := by rw [hwb]; simp [za]
  have a0 : wa.cell? ⟨w.heap.size, 0, none⟩ = some (.int .i64 2) := by rw [hwa]; exact cell_new w _ _ rfl
  have a1 : wa.cell? ⟨w.heap.size, 1, none⟩ = some (.int .i64 1) := by rw [hwa]; exact cell_new w _ _ rfl
  have b0 : wb.cell? ⟨w.heap.size + 1, 0, none⟩ = some (.string ⟨#[111, 112, 101, 110]⟩) := by rw [hwb, ← za]; exact cell_new wa _ _ rfl
  have b1 : wb.cell? ⟨w.heap.size + 1, 1, none⟩ = some (.slice (some ⟨w.heap.size, 0, none⟩) 2 2) := by rw [hwb, ← za]; exact cell_new wa _ _ rfl
  have c0 : wc.cell? ⟨w.heap.size + 1 + 1, 0, none⟩ = some (.string ⟨#[111, 112, 101, 110]⟩) := by rw [hwc, ← zb]; exact cell_new wb _ _ rfl
  have c1 : wc.cell? ⟨w.heap.size + 1 + 1, 1, none⟩ = some (.string ⟨#[97]⟩) := by rw [hwc, ← zb]; exact cell_new wb _ _ rfl
  have c2 : wc.cell? ⟨w.heap.size + 1 + 1, 2, none⟩ = some (.string ⟨#[53]⟩) := by rw [hwc, ← zb]; exact cell_new wb _ _ rfl
  have a0c : wc.cell? ⟨w.heap.size, 0, none⟩ = some (.int .i64 2) := by rw [hwc]; exact cell_alloc (by rw [hwb]; exact cell_alloc a0 _) _
  have a1c : wc.cell? ⟨w.heap.size, 1, none⟩ = some (.int .i64 1) := by rw [hwc]; exact cell_alloc (by rw [hwb]; exact cell_alloc a1 _) _
  have b0c : wc.cell? ⟨w.heap.size + 1, 0, none⟩ = some (.string ⟨#[111, 112, 101, 110]⟩) := by rw [hwc]; exact cell_alloc b0 _
  have b1c : wc.cell? ⟨w.heap.size + 1, 1, none⟩ = some (.slice (some ⟨w.heap.size, 0, none⟩) 2 2) := by rw [hwc]; exact cell_alloc b1 _
  have HBc : Hid (Below w.heap.size w wc) := Lib.hid (by
    rw [hwc, hwb, hwa]
    exact (((Below.refl _ _).alloc (Nat.le_refl _) _).alloc (by simp) _).alloc (by simp; omega) _)
  have HOf : Hid (Calls Tryz.prog 11 #[.slice (some ⟨w.heap.size + 1, 0, none⟩) 1 1, .slice (some ⟨w.heap.size + 1 + 1, 0, none⟩) 3 3] wc fun e w' => (∃ a cap, e = .returned (.tuple #[.agg #[.string ⟨#[111, 112, 101, 110]⟩, .slice a 2 cap], .agg #[.int .i64 0, .int .i64 0, .int .i64 0]]) ∧ VIn w' a 2 openA) ∧ Below wc.heap.size wc w') := Lib.hid ((of_calls' (some ⟨w.heap.size + 1, 0, none⟩) 1 1 openD (some ⟨w.heap.size + 1 + 1, 0, none⟩) 3 3 openR wc (din_open b0c b1c (kin_two a0c a1c)) (tin_open c0 c1 c2) open_sch (by decide) (by omega) (hL.below HBc.out) (het.below HBc.out)).mono (by
    intro e w' h
    rw [open_of] at h
    obtain ⟨⟨a, cap, e1, h1, _⟩, h2⟩ := h
    exact ⟨⟨a, cap, e1, h1⟩, h2⟩))
  have HT := Lib.hid (fun a cap w1 (hv : VIn w1 a 2 openA) (h : Below w.heap.size w w1) => evText_calls ⟨#[111, 112, 101, 110]⟩ a 2 cap openA w1 hv (by decide) (by omega) open_vt (hL.below h))
  rw [open_text] at HT
  have q1 : ∀ w1, (Op.equalIn 10000 32 (.agg #[.int .i64 0, .int .i64 0, .int .i64 0]) (.agg #[.int .i64 0, .int .i64 0, .int .i64 0])).run Tryz.prog w1 = .ok true w1 := fun w1 => failEq 0 0 0 0 0 0 w1
  have q2 := failGuard
  have Hwa := Lib.hid hwa
  have Hwb := Lib.hid hwb
  have Hwc := Lib.hid hwc
  clear za zb a0 a1 b0 b1 c0 c1 c2 a0c a1c b0c b1c hL het hwa hwb hwc
  go_enter Tryz.func10, Tryz.ntmps10
  go_wp2_with fail
  rw [← Hwa.out, ← Hwb.out, ← Hwc.out]
  clear Hwa Hwb Hwc
  refine HOf.out.mono ?_
  rintro e w1 ⟨⟨a, cap, rfl, hv⟩, k1⟩
  have HB1 := Lib.hid (HBc.out.trans (k1.mono HBc.out.size))
  have hb2 := ((Below.refl w1.heap.size w1).alloc (Nat.le_refl _) (.cells #[.string ⟨#[111, 112, 101, 110]⟩, .slice a 2 cap] 29)).alloc (by simp) (.cells #[.int .i64 0, .int .i64 0, .int .i64 0] 32)
  have HB2 := Lib.hid (HB1.out.trans (hb2.mono HB1.out.size))
  have H2 := Lib.hid (HT.out a cap _ (hv.below hb2) HB2.out)
  have HX2 := Lib.hid ((EBx.new ⟨#[111, 112, 101, 110]⟩ (.slice a 2 cap) w1 29).below ((Below.refl (w1.alloc (.cells #[.string ⟨#[111, 112, 101, 110]⟩, .slice a 2 cap] 29)).heap.size _).alloc (Nat.le_refl _) (.cells #[.int .i64 0, .int .i64 0, .int .i64 0] 32)) (by simp))
  clear k1 hb2 hv
  go_wp2_with fail
  refine H2.out.mono ?_
  rintro e w2 ⟨rfl, k2⟩
  have HB3 := Lib.hid (HB2.out.trans (k2.mono HB2.out.size))
  obtain ⟨d0, d1⟩ := HX2.out.below k2 (by simp; omega)
  clear k2
  go_wp2_with fail
  go_ret
  exact ⟨rfl, HB3.out⟩
end Go.Proofs.YtmjchmamkjbgkaaGreatDoor
