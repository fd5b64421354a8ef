/- The walk of the law NumSums: with any list of int64 it answers true. -/
import Derived.Test.YtjomnmpabchikaaDoorNumText
import Derived.Test.YtjomnmpabchikaaDoorNumSum
import Derived.OpenShut
namespace Go.Proofs.YtjomnmpabchikaaDoor
open Go.RowKit

/-- What a walk is told of a slice of integers that came in: it is nil; or it leads to a row of cap cells, the numbers zs. -/
def IsRow (k : IntKind) (w : World) (a : Option Addr) (len cap : Nat) (zs : List Int) : Prop :=
  (a = none ∧ len = 0 ∧ cap = 0 ∧ zs = []) ∨
  ∃ x, a = some x ∧ len ≤ cap ∧ cap ≤ maxLen ∧ zs.length = cap ∧ (∀ i, i < zs.length → w.cell? (x.add i) = some (.int k (zs.getD i 0))) ∧ ∀ n ∈ zs, (Lit.int k n).wf = true

theorem row64_of {w : World} {a : Option Addr} {len cap : Nat} {zs : List Int} (h : IsRow .i64 w a len cap zs) (h0 : 0 < len) :
    ∃ b off l, a = some ⟨b, off, none⟩ ∧ l.length = len ∧ Row64 w b off l := by
  rcases h with ⟨rfl, rfl, rfl, rfl⟩ | ⟨x, rfl, hl, hm, hz, hcell, hwz⟩
  · omega
  · obtain ⟨b, off, spot⟩ := x
    have hc := hcell 0 (by omega)
    have hspot : spot = none := by simpa [Addr.add] using World.cell?_spot hc
    subst hspot
    have hg : ∀ i, i < len → (zs.take len).getD i 0 = zs.getD i 0 := fun i hi => by simp [List.getD, hi]
    have hlen : (zs.take len).length = len := by simp; omega
    refine ⟨b, off, zs.take len, rfl, hlen, ⟨fun i hi => ?_, fun i hi => ?_⟩⟩
    · rw [hlen] at hi
      rw [hg i hi]
      have hq := hcell i (by omega)
      by_cases hi0 : i = 0
      · subst hi0; simpa [Addr.add] using hq
      · simpa [Addr.add, hi0] using hq
    · rw [hlen] at hi
      rw [hg i hi]
      have hi2 : i < zs.length := by omega
      have : zs.getD i 0 ∈ zs := by simp [List.getD, hi2]
      exact bounds_i64 (hwz _ this)

theorem tellsSum_calls (l : List Int) (w : World) :
    Calls Tryd.prog 11 #[.int .i64 (sv (sumTo l)), .int .i64 (se (sumTo l)), .int .i64 (sv (sumTo l)), .bool (sb (sumTo l))] w fun e w' => e = .returned (.bool true) ∧ w = w' := by
  cases h : sumTo l with
  | none =>
    have c := tells_calls 9223372036854775808 w
    rw [tn_no (by omega), te_no (by omega), tb_no (by omega)] at c
    exact c
  | some n =>
    obtain ⟨h1, h2⟩ := sum_bounds l n h
    have c := tells_calls n w
    rw [tn_yes h1 h2, te_yes h1 h2, tb_yes h1 h2] at c
    exact c

namespace numSums

set_option maxHeartbeats 1000000 in
theorem walkMany (a : Option Addr) (len cap : Nat) (w : World) (hl : 50 < len) (hm : len ≤ 9223372036854775807) (htab : Tab w) :
    Calls Tryd.prog 5 #[.slice a len cap] w fun e w' => e = .returned (.bool true) ∧ Below w.heap.size w w' := by
  have H := Lib.hid htab
  clear htab
  go_enter Tryd.func5, Tryd.ntmps5
  go_wp2_with (go_at_call 17; refine (awake_calls _ H.out).mono ?_; rintro e w' ⟨rfl, hbel⟩)
  go_ret
  exact ⟨rfl, hbel⟩

set_option maxHeartbeats 1000000 in
theorem walkNone (a : Option Addr) (cap : Nat) (w : World) (htab : Tab w) :
    Calls Tryd.prog 5 #[.slice a 0 cap] w fun e w' => e = .returned (.bool true) ∧ Below w.heap.size w w' := by
  have ct := tells_calls 0 w
  rw [tn_yes (by omega) (by omega), te_yes (by omega) (by omega), tb_yes (by omega) (by omega)] at ct
  have HT := Lib.hid ct
  have H := Lib.hid htab
  clear htab ct
  go_enter Tryd.func5, Tryd.ntmps5
  go_wp2
  go_loop [3, 4, 5] (fun n ok i => n = .int .i64 0 ∧ ok = .bool true ∧ i = .int .i64 0) (fun _ _ _ => 0)
  case atStart => exact ⟨rfl, rfl, rfl⟩
  case round =>
    obtain ⟨rfl, rfl, rfl⟩ := hrel
    go_wp2_with (first
      | (go_at_call 21; refine (sumNone_calls a cap _).mono ?_; rintro e w' ⟨rfl, rfl⟩)
      | (go_at_call 11; refine HT.out.mono ?_; rintro e w' ⟨rfl, rfl⟩)
      | (go_at_call 17; refine (awake_calls _ H.out).mono ?_; rintro e w' ⟨rfl, hbel⟩))
    go_ret
    exact ⟨rfl, hbel⟩

set_option maxHeartbeats 1000000 in
theorem walkSome (b off cap : Nat) (l : List Int) (w : World) (hr : Row64 w b off l) (hl : l.length ≤ 50) (htab : Tab w) :
    Calls Tryd.prog 5 #[.slice (some ⟨b, off, none⟩) l.length cap] w fun e w' => e = .returned (.bool true) ∧ Below w.heap.size w w' := by
  have HS := Lib.hid (sum_calls b off cap l w hr (by omega))
  have HT := Lib.hid (tellsSum_calls l w)
  obtain ⟨len, hlen⟩ : ∃ n, n = l.length := ⟨_, rfl⟩
  rw [← hlen] at hl HS ⊢
  have HL := Lib.hid hlen
  have HR := Lib.hid hr
  have H := Lib.hid htab
  clear hlen hr htab
  go_enter Tryd.func5, Tryd.ntmps5
  go_wp2
  go_loop [3, 4, 5] (fun n ok i => ∃ (k : Nat) (m : Int) (g : Bool), k ≤ len ∧ i = .int .i64 k ∧ n = .int .i64 m ∧ ok = .bool g ∧ Hid (m = sv (sumTo (l.take k)) ∧ g = sb (sumTo (l.take k)))) (fun _ _ i => len - (intOf i).toNat)
  case atStart => exact ⟨0, 0, true, Nat.zero_le _, rfl, rfl, rfl, Lib.hid ⟨rfl, rfl⟩⟩
  case round =>
    obtain ⟨k, m, g, hk, rfl, rfl, rfl, HM⟩ := hrel
    by_cases hend : k = len ∨ g = false
    · have HE : Hid (m = sv (sumTo l) ∧ g = sb (sumTo l)) := by
        rcases hend with rfl | rfl
        · have := HM.out
          rw [List.take_of_length_le (by rw [← HL.out]; omega)] at this
          exact Lib.hid this
        · have hn : sumTo (l.take k) = none := by
            have := HM.out.2
            cases h : sumTo (l.take k) with
            | none => rfl
            | some n => rw [h] at this; simp [sb] at this
          have := HM.out
          rw [hn] at this
          rw [← sumTo_dead l k hn] at this
          exact Lib.hid this
      have HT2 := HT
      rw [← HE.out.1, ← HE.out.2] at HT2
      have HS2 := HS
      rw [← HE.out.1] at HS2
      obtain ⟨er, her⟩ : ∃ x, x = se (sumTo l) := ⟨_, rfl⟩
      rw [← her] at HT2 HS2
      clear HM HE HT HS her
      rcases hend with hend | hend
      · by_cases hg : g = true
        · subst hg
          have hnl : ¬ (k < len) := by omega
          have hd : decide (k < len) = false := by simp; omega
          clear hend
          go_wp2_with (first
            | (go_at_call 21; refine HS2.out.mono ?_; rintro e w' ⟨rfl, rfl⟩)
            | (go_at_call 11; refine HT2.out.mono ?_; rintro e w' ⟨rfl, rfl⟩)
            | (go_at_call 17; refine (awake_calls _ H.out).mono ?_; rintro e w' ⟨rfl, hbel⟩))
          go_ret
          exact ⟨rfl, hbel⟩
        · have hg2 : g = false := by simpa using hg
          subst hg2
          have hd : decide (k < len) = false := by simp; omega
          clear hend hg
          go_wp2_with (first
            | (go_at_call 21; refine HS2.out.mono ?_; rintro e w' ⟨rfl, rfl⟩)
            | (go_at_call 11; refine HT2.out.mono ?_; rintro e w' ⟨rfl, rfl⟩)
            | (go_at_call 17; refine (awake_calls _ H.out).mono ?_; rintro e w' ⟨rfl, hbel⟩))
          go_ret
          exact ⟨rfl, hbel⟩
      · subst hend
        by_cases hlt : k < len
        · have hd : decide (k < len) = true := by simp; omega
          go_wp2_with (first
            | (go_at_call 21; refine HS2.out.mono ?_; rintro e w' ⟨rfl, rfl⟩)
            | (go_at_call 11; refine HT2.out.mono ?_; rintro e w' ⟨rfl, rfl⟩)
            | (go_at_call 17; refine (awake_calls _ H.out).mono ?_; rintro e w' ⟨rfl, hbel⟩))
          go_ret
          exact ⟨rfl, hbel⟩
        · have hd : decide (k < len) = false := by simp; omega
          go_wp2_with (first
            | (go_at_call 21; refine HS2.out.mono ?_; rintro e w' ⟨rfl, rfl⟩)
            | (go_at_call 11; refine HT2.out.mono ?_; rintro e w' ⟨rfl, rfl⟩)
            | (go_at_call 17; refine (awake_calls _ H.out).mono ?_; rintro e w' ⟨rfl, hbel⟩))
          go_ret
          exact ⟨rfl, hbel⟩
    · have hlt : k < len := by omega
      have hg : g = true := by cases g <;> simp_all
      subst hg
      clear hend HT HS
      have hsome : sumTo (l.take k) = some m := by
        have := HM.out
        cases h : sumTo (l.take k) with
        | none => rw [h] at this; simp [sb] at this
        | some n => rw [h] at this; rw [this.1]; rfl
      obtain ⟨n1, n2⟩ := sum_bounds _ _ hsome
      obtain ⟨x, hx⟩ : ∃ x, x = l.getD k 0 := ⟨_, rfl⟩
      have hcell : w.cell? ⟨b, off + k, none⟩ = some (.int .i64 x) := by rw [hx]; exact HR.out.cell k (by rw [← HL.out]; exact hlt)
      obtain ⟨x1, x2⟩ : -9223372036854775808 ≤ x ∧ x ≤ 9223372036854775807 := by rw [hx]; exact HR.out.fits k (by rw [← HL.out]; exact hlt)
      have HM2 := Lib.hid (sum_more l k m (by rw [← HL.out]; exact hlt) hsome)
      rw [← hx] at HM2
      have HA := Lib.hid (fun w => refAdd_calls m x w ⟨n1, n2⟩ ⟨x1, x2⟩)
      have HN : Hid (tn (m + x) = sv (sumTo (l.take (k + 1))) ∧ tb (m + x) = sb (sumTo (l.take (k + 1)))) := by
        refine Lib.hid ?_
        rw [HM2.out]
        by_cases hf : -9223372036854775808 ≤ m + x ∧ m + x ≤ 9223372036854775807
        · rw [tb_yes hf.1 hf.2, tn_yes hf.1 hf.2, if_pos rfl]; exact ⟨rfl, rfl⟩
        · rw [tb_no hf, tn_no hf]; exact ⟨rfl, rfl⟩
      have hd : decide (k < len) = true := by simp; omega
      clear hx hsome HM HM2 n1 n2 x1 x2
      go_wp2_with (go_at_call 10; refine (HA.out _).mono ?_; rintro e w' ⟨rfl, rfl⟩)
      go_round
      case rel => exact ⟨k + 1, tn (m + x), tb (m + x), by omega, by go_num, rfl, rfl, HN⟩
      case measure => simp [intOf]; omega

theorem walk (a : Option Addr) (len cap : Nat) (zs : List Int) (w : World) (hrow : IsRow .i64 w a len cap zs) (htab : Tab w) :
    Calls Tryd.prog 5 #[.slice a len cap] w fun e w' => e = .returned (.bool true) ∧ Below w.heap.size w w' := by
  by_cases h0 : len = 0
  · subst h0; exact walkNone a cap w htab
  · have hm : len ≤ 9223372036854775807 := by
      rcases hrow with ⟨_, h, _⟩ | ⟨_, _, h1, h2, _⟩
      · omega
      · unfold maxLen at h2; omega
    by_cases h5 : 50 < len
    · exact walkMany a len cap w h5 hm htab
    · obtain ⟨b, off, l, rfl, rfl, hr⟩ := row64_of hrow (by omega)
      exact walkSome b off cap l w hr (by omega) htab
end numSums
end Go.Proofs.YtjomnmpabchikaaDoor
