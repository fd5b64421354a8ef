/- The table of words, and what schema.Word does with any text; the reference's list of words. -/
import Derived.Test.YtojabkhfkbfeaaaGreatDoorScChars
import Derived.Laws.Rows
namespace Go.Proofs.YtojabkhfkbfeaaaGreatDoor
open Go.RowKit
set_option linter.unusedVariables false

/-- The table of words lies in memory as the text of the program lays it. -/
def Wds (w : World) : Prop := ∃ t fr, w.heap[0]? = some (.cells wordsV t fr)
theorem gWds : Tryz.prog.globalNamed "proctor/schema.words" = some 0 := by kernel_rfl
theorem wds_of_var {w : World} (h : w.var? Tryz.prog "proctor/schema.words" = some wordsV) : Wds w := by
  unfold World.var? at h
  rw [gWds] at h
  simp only [Option.bind_some] at h
  split at h
  · rename_i cs t fr e
    obtain rfl := Option.some.inj h
    exact ⟨t, fr, e⟩
  · cases h
theorem Wds.below {w w' : World} (h : Wds w) (hb : Below w.heap.size w w') : Wds w' := by
  obtain ⟨t, fr, e⟩ := h
  exact ⟨t, fr, (hb.block _ (Array.getElem?_eq_some_iff.1 e).1).trans e⟩
theorem words_info : (Tryz.prog.info? 147).map (·.size) = some wordsV.size := by kernel_rfl
theorem word_at : ∀ (n : Nat), n < 22 → ∀ w, (Instr.index 147 (.agg wordsV) (.int .i64 n)).run Tryz.prog w = .ok (.string (wordAt n)) w
  | 0, _, w => by kernel_rfl
  | 1, _, w => by kernel_rfl
  | 2, _, w => by kernel_rfl
  | 3, _, w => by kernel_rfl
  | 4, _, w => by kernel_rfl
  | 5, _, w => by kernel_rfl
  | 6, _, w => by kernel_rfl
  | 7, _, w => by kernel_rfl
  | 8, _, w => by kernel_rfl
  | 9, _, w => by kernel_rfl
  | 10, _, w => by kernel_rfl
  | 11, _, w => by kernel_rfl
  | 12, _, w => by kernel_rfl
  | 13, _, w => by kernel_rfl
  | 14, _, w => by kernel_rfl
  | 15, _, w => by kernel_rfl
  | 16, _, w => by kernel_rfl
  | 17, _, w => by kernel_rfl
  | 18, _, w => by kernel_rfl
  | 19, _, w => by kernel_rfl
  | 20, _, w => by kernel_rfl
  | 21, _, w => by kernel_rfl
  | n + 22, h, w => by omega

set_option maxHeartbeats 2000000 in
set_option maxRecDepth 100000 in
theorem scWord_calls (s : ByteArray) (w : World) (h : Wds w) :
    Calls Tryz.prog 115 #[.string s] w fun e w' => e = .returned (.bool (wordB s)) ∧ w = w' := by
  obtain ⟨ty, fr, hg⟩ := h
  have HW := Lib.hid word_at
  have H0 : Hid (noWord s 0) := Lib.hid (noWord_zero s)
  go_enter Tryz.func115, Tryz.ntmps115
  go_wp2_with (refine wpList_load_row rfl 147 _ rfl 0 rfl ty _ fr _ hg Tryz.underlying147 rfl words_info ?_)
  clear hg
  generalize (Value.agg wordsV) = V at HW ⊢
  go_loopw [6] (fun i wr => ∃ (n : Nat), n ≤ 22 ∧ i = .int .i64 n ∧ Hid (noWord s n) ∧ w = wr) (fun i _ => 22 - (intOf i).toNat)
  case atStart => exact ⟨0, by omega, rfl, H0, rfl⟩
  case round =>
    obtain ⟨n, hn, rfl, HX, rfl⟩ := hrel
    by_cases hlt : n < 22
    case neg =>
      have HV : Hid (wordB s = false) := Lib.hid (noWord_end (by rw [← show n = 22 by omega]; exact HX.out))
      go_wp2_with fail
      go_ret
      exact ⟨by rw [HV.out]; rfl, rfl⟩
    case pos =>
      have hw := HW.out n hlt
      cases e : isT s (wordAt n)
      · have HX2 := Lib.hid (noWord_step HX.out hlt e)
        have t1 : (s.toList == (wordAt n).toList) = false := e
        clear e
        generalize wordAt n = x at hw t1
        go_wp2_with fail
        go_roundw
        case rel => exact ⟨n + 1, hlt, by go_num, HX2, trivial⟩
        case measure => simp [intOf]; omega
      · have HV : Hid (wordB s = true) := Lib.hid (noWord_hit HX.out hlt e)
        have t1 : (s.toList == (wordAt n).toList) = true := e
        clear e
        generalize wordAt n = x at hw t1
        go_wp2_with fail
        go_ret
        exact ⟨by rw [HV.out]; rfl, rfl⟩
end Go.Proofs.YtojabkhfkbfeaaaGreatDoor
