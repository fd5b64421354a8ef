/- The walk of the law QuotePlain: with any text it answers true. -/
import Derived.Test.YtlkdimbmlklboaaDoorQuoteLaid
namespace Go.Proofs.YtlkdimbmlklboaaDoor.quotePlain
open Go.RowKit

set_option maxHeartbeats 1000000 in
theorem walk (s : ByteArray) (w : World) (hs : s.size ≤ maxLen) (hE : Esc w) :
    Calls Tryd.prog 5 #[.string s] w fun e w' => e = .returned (.bool true) ∧ Below w.heap.size w w' := by
  unfold maxLen at hs
  by_cases h300 : 300 < s.size
  · have t1 : decide ((300 : Int) < (s.size : Int)) = true := by simp; omega
    have H1 := Lib.hid (awake_calls w hE)
    clear hE
    go_enter Tryd.func5, Tryd.ntmps5
    go_wp2_with fail
    refine H1.out.mono ?_
    rintro e w1 ⟨rfl, hb⟩
    go_wp2_with fail
    go_ret
    exact ⟨rfl, hb⟩
  have t1 : decide ((300 : Int) < (s.size : Int)) = false := by simp; omega
  have hg := var_lt gEsc hE
  have h1 := plain_calls s w (by omega)
  have h2 := refQuote_calls s w (by omega)
  have H3 := Lib.hid (fun w1 (hb : Below w.heap.size w w1) => awake_calls w1 (esc_below hE hg hb))
  obtain ⟨Q, hQ⟩ : ∃ Q : ByteArray, Q = ⟨(quoteL s.data.toList).toArray⟩ := ⟨_, rfl⟩
  rw [← hQ] at h2
  have hc1 : ∀ w, (Op.stringOp .add ⟨#[34]⟩ s).run Tryd.prog w = .ok (.string (⟨#[34]⟩ ++ s)) w := fun w => run_string_add_sum w ⟨#[34]⟩ s (by show 1 + _ ≤ _; omega)
  obtain ⟨a, ha⟩ : ∃ a : ByteArray, a = ⟨#[34]⟩ ++ s := ⟨_, rfl⟩
  have hal : a.data.toList = 34 :: s.data.toList := by rw [ha, cat_list]; rfl
  rw [← ha] at hc1
  have hc2 : ∀ w, (Op.stringOp .add a ⟨#[34]⟩).run Tryd.prog w = .ok (.string (a ++ ⟨#[34]⟩)) w := fun w => run_string_add_sum w a ⟨#[34]⟩ (by rw [ba_size, hal, List.length_cons, ← ba_size]; show _ + 1 ≤ _; omega)
  obtain ⟨b, hb⟩ : ∃ b : ByteArray, b = a ++ ⟨#[34]⟩ := ⟨_, rfl⟩
  have hbl : b.data.toList = 34 :: (s.data.toList ++ [34]) := by rw [hb, cat_list, hal]; rfl
  rw [← hb] at hc2
  have hq : (Q.toList == b.toList) = s.data.toList.all plB := by
    rw [ByteArray.toList_eq, ByteArray.toList_eq, hbl, hQ, ba_list, plain_iff]
  cases hp : s.data.toList.all plB
  all_goals
    rw [hp] at h1 hq
    have H1 := Lib.hid h1
    have H2 := Lib.hid h2
    clear h1 h2 hE hg hQ ha hal hb hbl hp
    go_enter Tryd.func5, Tryd.ntmps5
    go_wp2_with fail
    refine H1.out.mono ?_
    rintro e w' ⟨rfl, rfl⟩
    go_wp2_with fail
    refine H2.out.mono ?_
    rintro e w1 ⟨rfl, k1⟩
    go_wp2_with fail
    refine (H3.out _ k1).mono ?_
    rintro e w2 ⟨rfl, k2⟩
    go_wp2_with fail
    go_ret
    exact ⟨rfl, k1.trans (k2.mono k1.size)⟩
end Go.Proofs.YtlkdimbmlklboaaDoor.quotePlain
