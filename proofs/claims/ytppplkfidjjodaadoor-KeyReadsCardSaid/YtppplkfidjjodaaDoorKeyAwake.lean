/- The chapter's example, as the laws ask it. -/
import Derived.Test.YtppplkfidjjodaaDoorKeyOf
namespace Go.Proofs.YtppplkfidjjodaaDoor
open Go.RowKit
set_option linter.unusedVariables false

theorem keys_true : keysL [⟨3, 0, ⟨#[]⟩, true⟩] = [3, 1] := by
  rw [keysL, keysL, key_bool]; rfl
theorem keys_one : keysL [⟨1, 1, ⟨#[]⟩, false⟩] = [1, 128, 0, 0, 0, 0, 0, 0, 1] := by
  have h := key_num (u := 9223372036854775809)
  have e : (((9223372036854775809 : Nat) : Int) - 9223372036854775808) = 1 := by decide
  rw [e] at h
  rw [keysL, keysL, h]
  decide

set_option maxHeartbeats 2000000 in
set_option maxRecDepth 100000 in
theorem awake_calls (w : World) (hm : MaxAt w) :
    Calls Tryd.prog 8 #[] w fun e w' => e = .returned (.bool true) ∧ Below w.heap.size w w' := by
  have H1 := Lib.hid (fun w1 (hv : VIn w1 (some ⟨w.heap.size, 0, none⟩) 1 [⟨3, 0, ⟨#[]⟩, true⟩]) (h1 : MaxAt w1) => ofYes_calls (some ⟨w.heap.size, 0, none⟩) 1 1 [⟨3, 0, ⟨#[]⟩, true⟩] w1 hv (fun v hv => by simp at hv; subst hv; exact right_bool true) (by omega) h1)
  have H2 := Lib.hid (fun g w1 (hv : VIn w1 (some ⟨g, 0, none⟩) 1 [⟨1, 1, ⟨#[]⟩, false⟩]) (h1 : MaxAt w1) => ofYes_calls (some ⟨g, 0, none⟩) 1 1 [⟨1, 1, ⟨#[]⟩, false⟩] w1 hv (fun v hv => by simp at hv; subst hv; exact right_num (u := 9223372036854775809) (by omega)) (by omega) h1)
  rw [keys_true] at H1
  rw [keys_one] at H2
  have HV1 := Lib.hid (VIn.one ⟨3, 0, ⟨#[]⟩, true⟩ w 33 (by show 0 ≤ _; omega) (by simp only; omega))
  have HM := Lib.hid (fun w1 (hb : Below w.heap.size w w1) => hm.below hb)
  have HA := Lib.hid ((Below.refl w.heap.size w).alloc (Nat.le_refl _) (.cells #[.int .i64 3, .int .i64 0, .string ⟨#[]⟩, .bool true] 33))
  clear hm
  go_enter Tryd.func8, Tryd.ntmps8
  go_wp2_with fail
  refine (H1.out _ HV1.out (HM.out _ HA.out)).mono ?_
  rintro e w1 ⟨⟨g1, rfl, hg1, hh1⟩, k1⟩
  have HB1 := Lib.hid (HA.out.trans (k1.mono HA.out.size))
  have HH1 := Lib.hid hh1
  have HV2 := Lib.hid (VIn.one ⟨1, 1, ⟨#[]⟩, false⟩ w1 33 (by show 0 ≤ _; omega) (by simp only; omega))
  have HA2 := Lib.hid (HB1.out.alloc HB1.out.size (.cells #[.int .i64 1, .int .i64 1, .string ⟨#[]⟩, .bool false] 33))
  clear k1 hh1 hg1
  go_wp2_with fail
  refine (H2.out w1.heap.size _ HV2.out (HM.out _ HA2.out)).mono ?_
  rintro e w2 ⟨⟨g2, rfl, hg2, hh2⟩, k2⟩
  have HB2 := Lib.hid (HA2.out.trans (k2.mono HA2.out.size))
  have c2 := hh2.bts.text ([1, 128, 0, 0, 0, 0, 0, 0, 1] : List UInt8).length
  have c1 := ((HH1.out.alloc _).below k2).bts.text ([3, 1] : List UInt8).length
  simp only [List.length_cons, List.length_nil, Nat.zero_add, Nat.reduceAdd] at c1 c2 ⊢
  clear k2 hh2 hg2
  go_wp2_with fail
  go_ret
  exact ⟨rfl, HB2.out⟩
end Go.Proofs.YtppplkfidjjodaaDoor
