/- What num.Text does, by the library's contract of strconv.FormatInt. -/
import Derived.Test.YtmjchmamkjbgkaaGreatDoorBase
import Derived.Test.YtmjchmamkjbgkaaGreatDoorNumMath
import Derived.RegionTactic
import Derived.Deep.QuietTactic
import Derived.BigQuiet
import Derived.Test.YtmjchmamkjbgkaaGreatDoorShelfText
import Derived.Lib.AppendIntMem
import Derived.Lib.LaidTab
import Derived.LaidMore
import Derived.Stop.Joined
import Derived.Stop.LaidErr
import Derived.ProofKit
namespace Go.Proofs.YtmjchmamkjbgkaaGreatDoor
open Go.RowKit

/-- The library's table of powers of ten stands in memory as its initialiser lays it. -/
abbrev Tab (w : World) : Prop := Lib.TabIs Tryz.prog w "internal/strconv.uint64pow10" .u64 Lib.pow10Tab

set_option maxHeartbeats 400000 in
theorem text_calls (n : Int) (w : World) (hn : -9223372036854775808 ≤ n ∧ n ≤ 9223372036854775807) (htab : Tab w) :
    Calls Tryz.prog 56 #[.int .i64 n] w fun e w' => e = .returned (.string ⟨(Lib.itoa n).toArray⟩) ∧ Below w.heap.size w w' := by
  have H := Lib.hid htab
  clear htab
  go_enter Tryz.func56, Tryz.ntmps56
  go_wp2_with (go_at_call 80; refine (Tryz.strconv_FormatInt_10 n hn.1 hn.2 _ H.out).mono ?_; rintro e w' ⟨rfl, k, os, rfl⟩)
  go_ret
  exact ⟨rfl, Lib.below_grow _ _ (Nat.le_refl _) _ _⟩

theorem tab_drewN {w : World} (n : Nat) (h : Tab w) : Tab (w.drewN n) := h
theorem below_from_drewN {w w' : World} {n : Nat} (h : Below (w.drewN n).heap.size (w.drewN n) w') : Below w.heap.size w w' := ⟨h.os, h.tape, h.output, h.size, h.block⟩
/-! ### the table of powers of ten -/
theorem gPow : Tryz.prog.globalNamed "internal/strconv.uint64pow10" = some 4 := by kernel_rfl
theorem gPowType : (Tryz.prog.globals[4]?).map (·.type) = some 210 := by kernel_rfl
theorem cellsPow : Tryz.prog.cellsOf 210 = 20 := by kernel_rfl
theorem cellsU64 : Tryz.prog.cellsOf 193 = 1 := by kernel_rfl
end Go.Proofs.YtmjchmamkjbgkaaGreatDoor
