/- What quote.cutChar does with any text that is not empty: the byte as which it begins, and in how many bytes that stands; 0 and 0, if there is none. -/
import Derived.Test.YtbojhcfofgdoeaaDoorQuoteDigits
import Derived.Test.YtbojhcfofgdoeaaDoorQuoteSmall
import Derived.Deep.QuietTactic
import Derived.BigQuiet
import Derived.Deep.RegionWith
namespace Go.Proofs.YtbojhcfofgdoeaaDoor
open Go.RowKit

theorem byte_at (s : ByteArray) (k : Nat) (h : k < s.size) (a : UInt8) (e : s.data.toList[k]? = some a) : s[k] = a := by
  have h' : k < s.data.toList.length := by rw [← ba_size]; exact h
  rw [List.getElem?_eq_getElem h'] at e
  exact Option.some.inj e

set_option maxHeartbeats 1000000 in
theorem cutChar_calls (s : ByteArray) (w : World) (hs : s.size ≤ 9223372036854775807) (h0 : 0 < s.size) (hE : Esc w) :
    Calls Tryd.prog 70 #[.string s] w fun e w' => e = .returned (.tuple #[.int .u8 (cc s.data.toList).1.toNat, .int .i64 (cc s.data.toList).2]) ∧ Below w.heap.size w w' := by
  obtain ⟨a, r, hl⟩ : ∃ a r, s.data.toList = a :: r := by
    cases e : s.data.toList with
    | nil => rw [ba_size, e] at h0; simp at h0
    | cons a r => exact ⟨a, r, rfl⟩
  have hsz : s.size = r.length + 1 := by rw [ba_size, hl]; rfl
  have ha := byte_at s 0 h0 a (by rw [hl]; rfl)
  rw [hl]
  have h1 := fun w => isPlain_calls a w
  by_cases hp : plB a = true
  · have hc : cc (a :: r) = (a, 1) := by simp only [cc, if_pos hp]
    rw [hc]
    rw [hp] at h1
    have H1 := Lib.hid h1
    clear h1 hE hp hc hl hsz
    go_enter Tryd.func70, Tryd.ntmps70
    go_wp2_with fail
    refine (H1.out _).mono ?_
    rintro e w' ⟨rfl, rfl⟩
    go_wp2_with fail
    go_ret2
    exact ⟨rfl, Below.refl _ _⟩
  have hp' : plB a = false := by simpa using hp
  rw [hp'] at h1
  have H1 := Lib.hid h1
  by_cases h92 : a = 92
  case neg =>
    have hc : cc (a :: r) = (0, 0) := by simp only [cc, if_neg hp, if_pos h92]
    rw [hc]
    have t1 : ((a.toNat : Int) != 92) = true := by rw [bne, show ((a.toNat : Int) == 92) = (a == 92) from byte_beq a 92 (by omega)]; simpa using h92
    clear h1 hE hp hp' hc hl hsz h92
    go_enter Tryd.func70, Tryd.ntmps70
    go_wp2_with fail
    refine (H1.out _).mono ?_
    rintro e w' ⟨rfl, rfl⟩
    go_wp2_with fail
    go_ret2
    exact ⟨rfl, Below.refl _ _⟩
  case pos =>
    subst h92
    cases r with
    | nil =>
      have hc : cc [92] = (0, 0) := by decide
      rw [hc]
      have t2 : decide ((s.size : Int) < 2) = true := by simp [hsz]
      clear h1 hE hp hp' hc hl hsz
      go_enter Tryd.func70, Tryd.ntmps70
      go_wp2_with fail
      refine (H1.out _).mono ?_
      rintro e w' ⟨rfl, rfl⟩
      go_wp2_with fail
      go_ret2
      exact ⟨rfl, Below.refl _ _⟩
    | cons d r' =>
      have hsz2 : 1 < s.size := by rw [hsz]; simp
      have hd := byte_at s 1 hsz2 d (by rw [hl]; rfl)
      have t2 : decide ((s.size : Int) < 2) = false := by simp; omega
      have h2 := charOf_calls d w hE
      by_cases hcb : chB d = true
      · have hc : cc (92 :: d :: r') = (chN d, 2) := by simp [cc, hp', hcb]
        rw [hc]
        rw [hcb] at h2
        have H2 := Lib.hid h2
        clear h1 h2 hE hp hp' hc hl hsz hcb
        go_enter Tryd.func70, Tryd.ntmps70
        go_wp2_with fail
        refine (H1.out _).mono ?_
        rintro e w' ⟨rfl, rfl⟩
        go_wp2_with fail
        refine H2.out.mono ?_
        rintro e w1 ⟨rfl, k1⟩
        go_wp2_with fail
        go_ret2
        exact ⟨rfl, k1⟩
      have hcb' : chB d = false := by simpa using hcb
      rw [hcb'] at h2
      have H2 := Lib.hid h2
      by_cases h120 : d = 120
      case neg =>
        have hc : cc (92 :: d :: r') = (0, 0) := by simp [cc, hp', hcb', h120]
        rw [hc]
        have t1 : ((d.toNat : Int) != 120) = true := by rw [bne, show ((d.toNat : Int) == 120) = (d == 120) from byte_beq d 120 (by omega)]; simpa using h120
        clear h1 h2 hE hp hp' hc hl hsz hcb hcb' h120
        go_enter Tryd.func70, Tryd.ntmps70
        go_wp2_with fail
        refine (H1.out _).mono ?_
        rintro e w' ⟨rfl, rfl⟩
        go_wp2_with fail
        refine H2.out.mono ?_
        rintro e w1 ⟨rfl, k1⟩
        go_wp2_with fail
        go_ret2
        exact ⟨rfl, k1⟩
      case pos =>
        subst h120
        by_cases h4 : s.size < 4
        · have hc : cc (92 :: 120 :: r') = (0, 0) := by
            match r', hsz with
            | [], _ => simp [cc, hp', hcb']
            | [x], _ => simp [cc, hp', hcb']
            | x :: y :: z, hsz => simp at hsz; omega
          rw [hc]
          have t3 : decide ((s.size : Int) < 4) = true := by simp; omega
          clear h1 h2 hE hp hp' hc hl hsz hcb hcb' h4
          go_enter Tryd.func70, Tryd.ntmps70
          go_wp2_with fail
          refine (H1.out _).mono ?_
          rintro e w' ⟨rfl, rfl⟩
          go_wp2_with fail
          refine H2.out.mono ?_
          rintro e w1 ⟨rfl, k1⟩
          go_wp2_with fail
          go_ret2
          exact ⟨rfl, k1⟩
        · obtain ⟨x, y, z, rfl⟩ : ∃ x y z, r' = x :: y :: z := by
            match r', hsz with
            | [], hsz => simp at hsz; omega
            | [x], hsz => simp at hsz; omega
            | x :: y :: z, _ => exact ⟨x, y, z, rfl⟩
          have hs2 : 2 < s.size := by omega
          have hs3 : 3 < s.size := by omega
          have hx := byte_at s 2 hs2 x (by rw [hl]; rfl)
          have hy := byte_at s 3 hs3 y (by rw [hl]; rfl)
          have t3 : decide ((s.size : Int) < 4) = false := by simp; omega
          have hg := var_lt gEsc hE
          have h3 := fun w1 (k : Below w.heap.size w w1) => fromDigits_calls x y w1 (esc_below hE hg k)
          have hc : cc (92 :: 120 :: x :: y :: z) = (fdR x y, if fdB x y = true then 4 else 0) := by
            unfold fdR
            by_cases hf : fdB x y = true
            · simp [cc, hp', hcb', hf]
            · simp [cc, hp', hcb', hf]
          rw [hc]
          cases hf : fdB x y
          · rw [hf] at h3
            have hr : fdR x y = 0 := by unfold fdR; rw [hf]; rfl
            rw [hr]
            have H3 := Lib.hid h3
            clear h1 h2 h3 hE hp hp' hc hl hsz hcb hcb' hf hr hg
            go_enter Tryd.func70, Tryd.ntmps70
            go_wp2_with fail
            refine (H1.out _).mono ?_
            rintro e w' ⟨rfl, rfl⟩
            go_wp2_with fail
            refine H2.out.mono ?_
            rintro e w1 ⟨rfl, k1⟩
            go_wp2_with fail
            go_region_with (go_at_call 78; refine (H3.out _ k1.drew).mono ?_; rintro e w2 ⟨rfl, k2⟩)
            all_goals
              go_wp2_with fail
              go_ret2
              exact ⟨rfl, k1.drew.trans (k2.mono k1.drew.size)⟩
          · rw [hf] at h3
            have H3 := Lib.hid h3
            clear h1 h2 h3 hE hp hp' hc hl hsz hcb hcb' hf hg
            go_enter Tryd.func70, Tryd.ntmps70
            go_wp2_with fail
            refine (H1.out _).mono ?_
            rintro e w' ⟨rfl, rfl⟩
            go_wp2_with fail
            refine H2.out.mono ?_
            rintro e w1 ⟨rfl, k1⟩
            go_wp2_with fail
            go_region_with (go_at_call 78; refine (H3.out _ k1.drew).mono ?_; rintro e w2 ⟨rfl, k2⟩)
            all_goals
              go_wp2_with fail
              go_ret2
              exact ⟨rfl, k1.drew.trans (k2.mono k1.drew.size)⟩
end Go.Proofs.YtbojhcfofgdoeaaDoor
