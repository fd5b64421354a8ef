/- Which kind of token letters, digits and _ are: wrongNumber, runKind. -/
import Derived.Test.YtbojhcfofgdoeaaDoorLexPlace
import Derived.Test.YtbojhcfofgdoeaaDoorScSpelt
namespace Go.Proofs.YtbojhcfofgdoeaaDoor
open Go.RowKit
set_option linter.unusedVariables false

/-- An error, as the number that it is; nil: none. -/
def errV (e : Nat) : Value := if e = 0 then .nilIface else .iface 24 (.int .i64 (e : Nat))
theorem errV_zero : errV 0 = .nilIface := rfl
theorem errV_pos {e : Nat} (h : e ≠ 0) : errV e = .iface 24 (.int .i64 (e : Nat)) := if_neg h
/-- What is wrong with letters, digits and _, a digit first, as a number. -/
def numE (x : List UInt8) : Nat := if x.all digitB = false then 4 else if 1 < x.length ∧ x.head? = some 48 then 4 else if 32 < x.length then 3 else 0
theorem tw_all {p : UInt8 → Bool} : ∀ (l : List UInt8), decide (twN p l < l.length) = !l.all p
  | [] => rfl
  | c :: l => by
    have ih := tw_all (p := p) l
    cases e : p c
    · rw [twN, List.takeWhile_cons_of_neg (by rw [e]; decide), List.all_cons, e, List.length_nil, List.length_cons]
      simp
    · have e2 : twN p (c :: l) = twN p l + 1 := by rw [twN, List.takeWhile_cons_of_pos e, List.length_cons]; rfl
      rw [e2, List.all_cons, e, List.length_cons, Bool.true_and, ← ih]
      simp
theorem num_e {x : List UInt8} (h0 : 0 < x.length) {d : Nat} (hd : d = twN digitB x) {b1 b2 b3 b4 : Bool} (h1 : decide (d < x.length) = b1) (h2 : decide (1 < d) = b2) (h3 : (x.head? == some 48) = b3) (h4 : decide (32 < d) = b4) :
    errV (numE x) = if b1 || (b2 && b3) then .iface 24 (.int .i64 4) else if b4 then .iface 24 (.int .i64 3) else .nilIface := by
  have ha := tw_all (p := digitB) x
  rw [← hd, h1] at ha
  have hl := tw_le digitB x
  rw [← hd] at hl
  unfold numE
  cases b1
  · have hal : x.all digitB = true := by simpa using ha.symm
    have hdl : d = x.length := by simp at h1; omega
    rw [hal, if_neg (by decide)]
    rw [hdl] at h2 h4
    by_cases hc : 1 < x.length ∧ x.head? = some 48
    · rw [if_pos hc]
      have e2 : b2 = true := by rw [← h2]; simpa using hc.1
      have e3 : b3 = true := by rw [← h3, hc.2]; rfl
      rw [e2, e3]; rfl
    · rw [if_neg hc]
      have e23 : (b2 && b3) = false := by
        rw [← h2, ← h3]
        simpa [Bool.and_eq_false_iff] using hc
      rw [e23]
      by_cases h : 32 < x.length
      · rw [if_pos h]
        have e4 : b4 = true := by rw [← h4]; simpa using h
        rw [e4]; rfl
      · rw [if_neg h]
        have e4 : b4 = false := by rw [← h4]; simpa using h
        rw [e4]; rfl
  · have hal : x.all digitB = false := by simpa using ha.symm
    rw [hal, if_pos rfl]; rfl
theorem in_digits : inSet ⟨#[48, 49, 50, 51, 52, 53, 54, 55, 56, 57]⟩ = digitB := by
  funext c
  exact (all8 (P := fun c => (inSet ⟨#[48, 49, 50, 51, 52, 53, 54, 55, 56, 57]⟩ c = digitB c)) (by decide +kernel)) c
theorem lx_head (s : ByteArray) (h : 0 < s.size) : s.data.toList.head? = some s[0] := by
  have := cs_cons s 0 h
  rw [List.drop_zero] at this
  rw [this]; rfl
theorem alloc_cell (w : World) (v : Value) (t : TypeId) : (w.alloc (.cells #[v] t)).cell? ⟨w.heap.size, 0, none⟩ = some v := by
  rw [World.cell?_alloc_at (hn := rfl)]; rfl

set_option maxHeartbeats 4000000 in
theorem wrong_calls (x : ByteArray) (w : World) (hs : x.size ≤ 4611686018427387903) (h0 : 0 < x.size) :
    Calls Tryd.prog 67 #[.string x] w fun e w' => e = .returned (errV (numE x.data.toList)) ∧ Below w.heap.size w w' := by
  have HA := Lib.hid (fun w1 => among_calls ⟨#[48, 49, 50, 51, 52, 53, 54, 55, 56, 57]⟩ w1)
  have HR := Lib.hid (fun w1 B (hB : w1.cell? ⟨B, 0, none⟩ = some (.string ⟨#[48, 49, 50, 51, 52, 53, 54, 55, 56, 57]⟩)) => runIn_calls x ⟨#[48, 49, 50, 51, 52, 53, 54, 55, 56, 57]⟩ B w1 (by omega) hB)
  rw [in_digits] at HR
  have HC := Lib.hid (alloc_cell w (.string ⟨#[48, 49, 50, 51, 52, 53, 54, 55, 56, 57]⟩) 9)
  have HB := Lib.hid ((Below.refl w.heap.size w).alloc (Nat.le_refl _) (.cells #[.string ⟨#[48, 49, 50, 51, 52, 53, 54, 55, 56, 57]⟩] 9))
  have hb := cs_beq x[0] 48 (by omega)
  have hh := lx_head x h0
  have hlen := cs_size x
  have h00 : 0 < x.data.toList.length := by rw [← hlen]; exact h0
  obtain ⟨d, hd⟩ : ∃ d, d = twN digitB x.data.toList := ⟨_, rfl⟩
  have HV := Lib.hid (fun b1 b2 b3 b4 => num_e h00 hd (b1 := b1) (b2 := b2) (b3 := b3) (b4 := b4))
  rw [← hd] at HR
  have hdl : d ≤ x.size := by rw [hd, hlen]; exact tw_le _ _
  have hne : ¬ x = ByteArray.empty := fun e => by rw [e] at h0; exact absurd h0 (by decide)
  generalize errV (numE x.data.toList) = V at HV ⊢
  rw [← hlen, hh] at HV
  clear hd h00 hlen hh
  have q2 : decide ((1 : Int) < (d : Int)) = decide (1 < d) := by rw [decide_eq_decide]; omega
  have q4 : decide ((32 : Int) < (d : Int)) = decide (32 < d) := by rw [decide_eq_decide]; omega
  have q3 : (some x[0] == some (48 : UInt8)) = (x[0] == 48) := by
    rw [Bool.eq_iff_iff, beq_iff_eq, beq_iff_eq, Option.some.injEq]
  rw [q3] at HV
  have q5 : ((x[0].toNat : Int) == 48) = (x[0] == 48) := hb
  clear hb q3
  cases b1 : decide (d < x.size) <;> cases b2 : decide (1 < d) <;> cases b3 : (x[0] == 48) <;> cases b4 : decide (32 < d)
  all_goals
    rw [b2] at q2
    rw [b3] at q5
    rw [b4] at q4
    have HV := Lib.hid (HV.out _ _ _ _ b1 b2 b3 b4)
    clear b2 b3 b4
    go_enter Tryd.func67, Tryd.ntmps67
    go_wp2_with fail
    refine (HA.out _).mono ?_
    rintro e w1 ⟨rfl, hw⟩
    subst hw
    go_wp2_with fail
    refine (HR.out _ _ HC.out).mono ?_
    rintro e w1 ⟨rfl, hw⟩
    subst hw
    go_wp2_with fail
    go_ret
    exact ⟨by rw [HV.out]; rfl, HB.out⟩

theorem words_small : ∀ t ∈ wordsL, t.size ≤ 32 ∧ lineB t = false := by
  unfold wordsL
  intro t ht
  simp only [List.mem_cons, List.not_mem_nil, or_false] at ht
  rcases ht with rfl | rfl | rfl | rfl | rfl | rfl | rfl | rfl | rfl | rfl | rfl | rfl | rfl | rfl | rfl | rfl | rfl | rfl | rfl | rfl | rfl | rfl <;> decide +kernel
theorem word_small {s : ByteArray} (h : wordB s = true) : s.size ≤ 32 ∧ lineB s = false := by
  unfold wordB at h
  obtain ⟨t, ht, e⟩ := List.any_eq_true.1 h
  rw [isT_iff.1 e]
  exact words_small t ht
/-- The kind of a token of letters, digits and _; or what is wrong. -/
def kindE (s : ByteArray) : Nat × Nat :=
  if (s.data.toList.head?.any digitB) = true then (3, numE s.data.toList) else if wordB s = true then (2, 0) else if (lineB s || nameB s) = true then (1, 0) else (0, 3)
theorem line_list (s : ByteArray) : lineB s = (s.data.toList == [95]) := by
  unfold lineB isT; rw [sc_tl, sc_tl]
theorem kind_word {s : ByteArray} (h0 : 0 < s.size) (hn : s.data.toList.all nameC = true) :
    wordT s.data.toList = if (kindE s).2 = 0 then .ok ((kindE s).1, s.data.toList, s.data.toList.length) else .error (kindE s).2 := by
  have hmk : (⟨s.data.toList.toArray⟩ : ByteArray) = s := (sc_eq rfl).symm
  have hlen := sc_size s
  unfold wordT kindE
  rw [hmk]
  by_cases hd : (s.data.toList.head?.any digitB) = true
  · rw [if_pos hd, if_pos hd]
    unfold numE
    by_cases h1 : s.data.toList.all digitB = false
    · rw [if_pos h1, if_pos h1]; rfl
    · rw [if_neg h1, if_neg h1]
      by_cases h2 : 1 < s.data.toList.length ∧ s.data.toList.head? = some 48
      · rw [if_pos h2, if_pos h2]; rfl
      · rw [if_neg h2, if_neg h2]
        by_cases h3 : 32 < s.data.toList.length
        · rw [if_pos h3, if_pos h3]; rfl
        · rw [if_neg h3, if_neg h3]; rfl
  · rw [if_neg hd, if_neg hd]
    have hd0 : digitB s[0] = false := by
      rw [lx_head s h0] at hd
      simpa using hd
    by_cases hw : wordB s = true
    · have hsm := word_small hw
      have hnm : nameB s = false := by unfold nameB; rw [hw]; simp
      rw [if_pos hw, if_neg (by rw [← hlen]; omega), hnm, ← line_list, hsm.2]
      rfl
    · have hw' : wordB s = false := by simpa using hw
      rw [if_neg hw]
      by_cases h32 : 32 < s.data.toList.length
      · rw [if_pos h32]
        have hsp : speltB s = false := spelt_long (by rw [hlen]; exact h32)
        have hli : lineB s = false := by
          rw [line_list]
          rw [beq_eq_false_iff_ne]
          intro e; rw [e] at h32; exact absurd h32 (by decide)
        have hnm : nameB s = false := by unfold nameB; rw [hsp]; rfl
        rw [hli, hnm]; rfl
      · rw [if_neg h32]
        have hsp : speltB s = true := spelt_good h0 (by rw [hlen]; omega) hd0 (by
          unfold namesTo
          rw [hlen, List.take_length]
          exact List.all_eq_true.1 hn)
        have hnm : nameB s = !lineB s := by unfold nameB; rw [hsp, hw']; simp
        rw [hnm, ← line_list]
        cases lineB s <;> rfl

set_option maxHeartbeats 2000000 in
theorem kind_calls (s : ByteArray) (w : World) (hs : s.size ≤ 4611686018427387903) (h0 : 0 < s.size) (hw : Wds w) :
    Calls Tryd.prog 45 #[.string s] w fun e w' => e = .returned (.tuple #[.int .i64 ((kindE s).1 : Nat), errV (kindE s).2]) ∧ Below w.heap.size w w' := by
  have HA := Lib.hid (fun w1 => among_calls ⟨#[48, 49, 50, 51, 52, 53, 54, 55, 56, 57]⟩ w1)
  have HI := Lib.hid (fun c B w1 (hB : w1.cell? ⟨B, 0, none⟩ = some (.string ⟨#[48, 49, 50, 51, 52, 53, 54, 55, 56, 57]⟩)) => amongIn_calls c ⟨#[48, 49, 50, 51, 52, 53, 54, 55, 56, 57]⟩ B w1 hB)
  rw [in_digits] at HI
  have HC := Lib.hid (alloc_cell w (.string ⟨#[48, 49, 50, 51, 52, 53, 54, 55, 56, 57]⟩) 9)
  have hb := (Below.refl w.heap.size w).alloc (Nat.le_refl _) (.cells #[.string ⟨#[48, 49, 50, 51, 52, 53, 54, 55, 56, 57]⟩] 9)
  have hW := hw.below hb
  have hsz : (w.alloc (.cells #[.string ⟨#[48, 49, 50, 51, 52, 53, 54, 55, 56, 57]⟩] 9)).heap.size = w.heap.size + 1 := by simp
  have HB := Lib.hid hb
  have HX := Lib.hid (wrong_calls s (w.alloc (.cells #[.string ⟨#[48, 49, 50, 51, 52, 53, 54, 55, 56, 57]⟩] 9)) hs h0)
  have HW := Lib.hid (scWord_calls s (w.alloc (.cells #[.string ⟨#[48, 49, 50, 51, 52, 53, 54, 55, 56, 57]⟩] 9)) hW)
  have HN := Lib.hid (scName_calls s (w.alloc (.cells #[.string ⟨#[48, 49, 50, 51, 52, 53, 54, 55, 56, 57]⟩] 9)) (by omega) hW)
  have hne : ¬ s = ByteArray.empty := fun e => by rw [e] at h0; exact absurd h0 (by decide)
  have hl : (s.toList == [95]) = lineB s := by unfold lineB isT; rw [sc_tl ⟨#[95]⟩]
  have hh := lx_head s h0
  have HV : Hid (kindE s = if digitB s[0] = true then (3, numE s.data.toList) else if wordB s = true then (2, 0) else if (lineB s || nameB s) = true then (1, 0) else (0, 3)) := Lib.hid (by
    unfold kindE; rw [hh]; rfl)
  have H0 := Lib.hid (HI.out s[0] w.heap.size _ HC.out)
  have HS : Hid (w.heap.size ≤ (w.alloc (.cells #[.string ⟨#[48, 49, 50, 51, 52, 53, 54, 55, 56, 57]⟩] 9)).heap.size) := Lib.hid (by rw [hsz]; omega)
  clear hh HI hb hW hsz hw
  generalize kindE s = V at HV ⊢
  generalize numE s.data.toList = nE at HV HX
  generalize lineB s = b3 at hl HV
  generalize nameB s = b4 at HN HV
  generalize wordB s = b2 at HW HV
  cases hd : digitB s[0]
  case true =>
    rw [hd] at H0 HV
    clear hd HW HN hl
    go_enter Tryd.func45, Tryd.ntmps45
    go_wp2_with fail
    refine (HA.out _).mono ?_
    rintro e w1 ⟨rfl, hw1⟩
    subst hw1
    go_wp2_with fail
    refine H0.out.mono ?_
    rintro e w1 ⟨rfl, hw1⟩
    subst hw1
    go_wp2_with fail
    refine HX.out.mono ?_
    rintro e w2 ⟨rfl, k2⟩
    have HB2 := Lib.hid (HB.out.trans (k2.mono HS.out))
    clear k2
    go_wp2_with fail
    go_ret2
    exact ⟨by rw [HV.out]; rfl, HB2.out⟩
  case false =>
    rw [hd] at H0 HV
    clear hd HX
    cases b2 <;> cases b3 <;> cases b4
    all_goals
      go_enter Tryd.func45, Tryd.ntmps45
      go_wp2_with fail
      refine (HA.out _).mono ?_
      rintro e w1 ⟨rfl, hw1⟩
      subst hw1
      go_wp2_with fail
      refine H0.out.mono ?_
      rintro e w1 ⟨rfl, hw1⟩
      subst hw1
      go_wp2_with fail
      refine HW.out.mono ?_
      rintro e w1 ⟨rfl, hw1⟩
      subst hw1
      go_wp2_with fail
      (try (refine HN.out.mono ?_; rintro e w1 ⟨rfl, hw1⟩; subst hw1; go_wp2_with fail))
      go_ret2
      exact ⟨by rw [HV.out]; rfl, HB.out⟩
end Go.Proofs.YtbojhcfofgdoeaaDoor
