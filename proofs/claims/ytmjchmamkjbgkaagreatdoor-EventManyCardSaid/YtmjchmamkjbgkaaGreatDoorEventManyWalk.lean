/- The walk of the law EventMany: with any number it answers true. -/
import Derived.Test.YtmjchmamkjbgkaaGreatDoorEvAwake
import Derived.Test.YtmjchmamkjbgkaaGreatDoorLowEvL
import Derived.Deep.RegionHeld3
import Derived.BigQuiet
namespace Go.Proofs.YtmjchmamkjbgkaaGreatDoor.eventMany
open Go.RowKit
set_option linter.unusedVariables false

/-- The row, so many times. -/
def mL : Nat → List UInt8
  | 0 => []
  | n + 1 => 97 :: 13 :: 10 :: mL n
theorem mL_snoc : ∀ n, mL (n + 1) = mL n ++ [97, 13, 10]
  | 0 => rfl
  | n + 1 => by
    show (97 :: 13 :: 10 :: mL (n + 1) : List UInt8) = 97 :: 13 :: 10 :: (mL n ++ [97, 13, 10])
    rw [mL_snoc n]
theorem mL_len : ∀ n, (mL n).length = 3 * n
  | 0 => rfl
  | n + 1 => by rw [mL, List.length_cons, List.length_cons, List.length_cons, mL_len n]; omega
/-- The schema, and the event. -/
def oneD : List Dc := [(⟨#[97]⟩, [])]
def oneE : Ev := (⟨#[97]⟩, [])
theorem one_sch : SchOk oneD := (sch_of (by decide +kernel)).1
theorem one_row (rest : List UInt8) : rowR (97 :: 13 :: 10 :: rest) = .ok ([[97]], rest) := by
  have h1 := rowR_back rest [[97]] (by simp)
  rw [← line_row [[97]] rest (by simp), if_pos (by decide)] at h1
  exact h1
theorem one_of : ofL oneD [[97]] = .ok oneE := of_good (i := 0) (by decide +kernel) rfl
theorem one_step {k : Nat} (hk : k ≠ 16384) (rest : List UInt8) : stepL oneD k (97 :: 13 :: 10 :: rest) = .ok (oneE, rest) := step_ok (by simp) (one_row rest) one_of hk
theorem one_stop (rest : List UInt8) : stepL oneD 16384 (97 :: 13 :: 10 :: rest) = .error (14, 16385, 1) := step_many (by simp) (one_row rest) one_of rfl
theorem ev_all : ∀ m k : Nat, k + m ≤ 16384 → (evT oneD k (mL m)).1.length = m ∧ (evT oneD k (mL m)).2 = (0, 0, 0)
  | 0, k, _ => by rw [mL, evT_stop (step_nil oneD k)]; exact ⟨rfl, rfl⟩
  | m + 1, k, h => by
    have h1 := ev_all m (k + 1) (by omega)
    rw [mL, evT_more (one_step (by omega) (mL m))]
    exact ⟨by rw [List.length_cons, h1.1], h1.2⟩
theorem ev_many : ∀ d m k : Nat, k + d = 16384 → d < m → (evT oneD k (mL m)).1.length = d ∧ (evT oneD k (mL m)).2 = (14, 16385, 1)
  | 0, m + 1, k, h, _ => by
    obtain rfl : k = 16384 := by omega
    rw [mL, evT_stop (one_stop (mL m))]; exact ⟨rfl, rfl⟩
  | d + 1, m + 1, k, h, hm => by
    have h1 := ev_many d m (k + 1) (by omega) (by omega)
    rw [mL, evT_more (one_step (by omega) (mL m))]
    exact ⟨by rw [List.length_cons, h1.1], h1.2⟩
  | d, 0, k, _, hm => by omega
theorem din_one {w : World} {g : Nat} (h0 : w.cell? ⟨g, 0, none⟩ = some (.string ⟨#[97]⟩)) (h1 : w.cell? ⟨g, 1, none⟩ = some (.slice none 0 0)) : DIn w (some ⟨g, 0, none⟩) 1 oneD :=
  ⟨rfl, by omega, fun n hn => by
    obtain rfl : n = 0 := by omega
    exact ⟨g, 0, none, 0, rfl, block_lt_of_cell h0, h0, h1, ⟨rfl, by decide, fun n hn => absurd hn (by simp [ksAt, oneD])⟩, by decide⟩⟩
theorem new_line (w : World) : ∀ j u, [Value.int .u8 97, .int .u8 13, .int .u8 10][j]? = some u → (w.alloc (.cells #[.int .u8 97, .int .u8 13, .int .u8 10] 5)).cell? ((⟨w.heap.size, 0, none⟩ : Addr).add j) = some u := by
  intro j u hj
  rw [show (⟨w.heap.size, 0, none⟩ : Addr).add j = ⟨w.heap.size, j, none⟩ by unfold Addr.add; split <;> simp_all, World.cell?_alloc_at (hn := rfl)]
  simpa using hj
/-- append of the row to bytes of the call's own. -/
theorem wpList_append_line {w : World} {ops : Array Oper} {rest : List Oper} {o : Oper} {a : Act} {Q : Exit → Act → World → Prop} (hgd : o.guard = none) (s x : Operand)
    (ho : o.op = .call { callee := .builtin .append, args := #[s, x], argTypes := #[65, 65] }) (B : Nat) (v : Value) (t : List UInt8) (hs : a.eval s = v) (w1 : World) (hw : w = w1.alloc (.cells #[.int .u8 97, .int .u8 13, .int .u8 10] 5)) (hown : w1.ownsRow B 5 1 v t.length (Lib.byteCells t))
    (k : Nat) (hx : a.eval x = .slice (some ⟨w1.heap.size, 0, none⟩) 3 k) (hsz : t.length ≤ 1000000000) (hbase : B ≤ w1.heap.size) (A : Nat) (w0 : World) (hb : Below A w0 w1) (hA : A ≤ B)
    (h : ∀ v' w', Hid (w'.ownsRow B 5 1 v' (t ++ [97, 13, 10]).length (Lib.byteCells (t ++ [97, 13, 10]))) → Hid (Below A w0 w') → wpList Tryz.prog ops Q rest (a.put o.dst v') w') : wpList Tryz.prog ops Q (o :: rest) a w := by
  subst hw
  obtain ⟨i0, hi, hz0, hz1, hz2⟩ := cs_parts cs_infoU8
  refine wpList_append_own _ hgd s x 65 ho B 5 i0 (.int .u8 0) 1 1 Tryz.underlying65 hi hz0 hz1 hz2 rfl (by decide) v t.length (Lib.byteCells t) hs (hown.alloc _) ⟨w1.heap.size, 0, none⟩ 3 k [.int .u8 97, .int .u8 13, .int .u8 10] hx rfl (new_line w1) (by intro u hu; simp at hu; rcases hu with rfl | rfl | rfl <;> rfl) (by unfold maxLen; omega) (by omega) (by simp; omega) ?_
  intro v' w' h1 h2 _
  refine h v' w' (Lib.hid ?_) (Lib.hid ((hb.alloc (Nat.le_trans hA hbase) _).grown h2 (by simp; omega) (fun k hk => Nat.le_trans hA (hown.lt k hk).1)))
  rw [List.length_append]
  have : Lib.byteCells (t ++ [97, 13, 10]) = Lib.byteCells t ++ [.int .u8 97, .int .u8 13, .int .u8 10] := by simp [Lib.byteCells]
  rw [this]
  exact h1

set_option maxHeartbeats 8000000 in
set_option maxRecDepth 100000 in
theorem walk (n : Int) (w : World) (hL : Laid w) (het : ErrT w) (hm : MaxC w) :
    Calls Tryz.prog 7 #[.int .i64 n] w fun e w' => e = .returned (.bool true) ∧ Below w.heap.size w w' := by
  have HAw := Lib.hid (fun w1 (hb : Below w.heap.size w w1) => evAwake_calls w1 (hL.below hb) (het.below hb))
  by_cases h1 : n < 16380
  · have t1 : decide (n < 16380) = true := by simpa using h1
    clear hL het hm h1
    go_enter Tryz.func7, Tryz.ntmps7
    go_wp2_with fail
    refine (HAw.out _ (Below.refl _ _)).mono ?_
    rintro e w2 ⟨rfl, k2⟩
    go_wp2_with fail
    go_ret
    exact ⟨rfl, k2⟩
  by_cases h2 : 16390 < n
  · have t1 : decide (n < 16380) = false := by simpa using h1
    have t2 : decide (16390 < n) = true := by simpa using h2
    clear hL het hm h1 h2
    go_enter Tryz.func7, Tryz.ntmps7
    go_wp2_with fail
    refine (HAw.out _ (Below.refl _ _)).mono ?_
    rintro e w2 ⟨rfl, k2⟩
    go_wp2_with fail
    go_ret
    exact ⟨rfl, k2⟩
  obtain ⟨N, rfl⟩ : ∃ N : Nat, n = N := ⟨n.toNat, by omega⟩
  have t1 : decide ((N : Int) < 16380) = false := by simp; omega
  have t2 : decide ((16390 : Int) < (N : Int)) = false := by simp; omega
  have hN : N ≤ 16390 := by omega
  have HA := Lib.hid (fun (s : ByteArray) g w1 (hb : Below w.heap.size w w1) (h0 : w1.cell? ⟨g, 0, none⟩ = some (.string ⟨#[97]⟩)) (h1 : w1.cell? ⟨g, 1, none⟩ = some (.slice none 0 0)) (hs : s.size ≤ 4000000) => allEv_calls (some ⟨g, 0, none⟩) 1 1 oneD s w1 (din_one h0 h1) one_sch hs (hL.below hb) (het.below hb) (hm.below hb))
  have q1 : ∀ w1, (Op.equalIn 10000 32 (.agg #[.int .i64 0, .int .i64 0, .int .i64 0]) (.agg #[.int .i64 0, .int .i64 0, .int .i64 0])).run Tryz.prog w1 = .ok true w1 := fun w1 => failEq 0 0 0 0 0 0 w1
  have q3 : ∀ w1, (Op.equalIn 10000 32 (.agg #[.int .i64 14, .int .i64 16385, .int .i64 1]) (.agg #[.int .i64 14, .int .i64 16385, .int .i64 1])).run Tryz.prog w1 = .ok true w1 := fun w1 => failEq 14 16385 1 14 16385 1 w1
  have q2 := failGuard
  clear hL het hm h1 h2
  go_enter Tryz.func7, Tryz.ntmps7
  go_wp2_with fail
  go_loopw [3, 4] (fun o i wr => ∃ (k : Nat), k ≤ N ∧ i = .int .i64 k ∧ Hid (wr.ownsRow w.heap.size 5 1 o (mL k).length (Lib.byteCells (mL k))) ∧ Hid (Below w.heap.size w wr)) (fun _ i _ => N - (intOf i).toNat)
  case atStart => exact ⟨0, Nat.zero_le _, rfl, Lib.hid (World.ownsRow_nil _ _ _ _), Lib.hid (Below.refl _ _)⟩
  case round =>
    rename_i o _
    obtain ⟨k, hk, rfl, HO, HB⟩ := hrel
    by_cases hlt : k < N
    case pos =>
      have hsz : (mL k).length ≤ 1000000000 := by rw [mL_len]; omega
      have HS := Lib.hid (mL_snoc k)
      have HSz := Lib.hid hsz
      clear hsz
      obtain ⟨t, ht⟩ : ∃ t, t = mL k := ⟨_, rfl⟩
      rw [← ht] at HO HS HSz
      clear ht
      go_wp2_with (at_builtin; refine wpList_append_line rfl _ _ rfl w.heap.size _ t rfl wr rfl HO.out 3 rfl HSz.out HB.out.size w.heap.size w HB.out (Nat.le_refl _) ?_; intro v' w2 HO2 HB2)
      rw [← HS.out] at HO2
      go_roundw
      case rel => exact ⟨k + 1, hlt, by go_num, HO2, HB2⟩
      case measure => simp [intOf]; omega
    case neg =>
      obtain rfl : k = N := by omega
      obtain ⟨oa, oc, rfl⟩ := cs_own HO.out
      have hcv := cs_text (HO.out.alloc (.cells #[.string ⟨#[97]⟩, .slice none 0 0] 68))
      have hc0 : (wr.alloc (.cells #[.string ⟨#[97]⟩, .slice none 0 0] 68)).cell? ⟨wr.heap.size, 0, none⟩ = some (.string ⟨#[97]⟩) := cell_new wr _ _ rfl
      have hc1 : (wr.alloc (.cells #[.string ⟨#[97]⟩, .slice none 0 0] 68)).cell? ⟨wr.heap.size, 1, none⟩ = some (.slice none 0 0) := cell_new wr _ _ rfl
      have hbA := HB.out.alloc HB.out.size (.cells #[.string ⟨#[97]⟩, .slice none 0 0] 68)
      have hA1 := HA.out ⟨(mL k).toArray⟩ wr.heap.size _ hbA hc0 hc1 (by rw [sc_size]; show (mL k).length ≤ _; rw [mL_len]; omega)
      have hts : (⟨(mL k).toArray⟩ : ByteArray).data.toList = mL k := rfl
      rw [hts, ← evT_zero] at hA1
      have HBA := Lib.hid hbA
      by_cases hle : k ≤ 16384
      case pos =>
        have t3 : decide ((k : Int) ≤ 16384) = true := by simp; omega
        obtain ⟨hl, he⟩ := ev_all k 0 (by omega)
        have HA1 : Hid (Calls Tryz.prog 22 #[.slice (some ⟨wr.heap.size, 0, none⟩) 1 1, .string ⟨(mL k).toArray⟩] (wr.alloc (.cells #[.string ⟨#[97]⟩, .slice none 0 0] 68)) fun e w' => ∃ a cap, e = .returned (.tuple #[.slice a k cap, .agg #[.int .i64 0, .int .i64 0, .int .i64 0]]) ∧ Below (wr.alloc (.cells #[.string ⟨#[97]⟩, .slice none 0 0] 68)).heap.size (wr.alloc (.cells #[.string ⟨#[97]⟩, .slice none 0 0] 68)) w') := Lib.hid (hA1.mono (by
          rintro e w' ⟨a, cap, h3, h4, h5⟩
          rw [hl, he] at h3
          exact ⟨a, cap, h3, h5⟩))
        generalize (⟨(mL k).toArray⟩ : ByteArray) = X at hcv HA1
        have HO := HO.out.2
        clear hA1 hl he hle hts hbA hc0 hc1
        clear HO
        go_wp2_with fail
        refine HA1.out.mono ?_
        rintro e w2 ⟨a2, c2, rfl, k2⟩
        have HB2 := Lib.hid ((HBA.out.trans (k2.mono HBA.out.size)).alloc (Nat.le_trans HBA.out.size k2.size) (.cells #[.int .i64 0, .int .i64 0, .int .i64 0] 32))
        clear k2
        go_wp2_with fail
        refine (HAw.out _ HB2.out).mono ?_
        rintro e w3 ⟨rfl, k3⟩
        have HB3 := Lib.hid (HB2.out.trans (k3.mono HB2.out.size))
        clear k3
        go_wp2_with fail
        go_ret
        exact ⟨rfl, HB3.out⟩
      case neg =>
        have t3 : decide ((k : Int) ≤ 16384) = false := by simp; omega
        obtain ⟨hl, he⟩ := ev_many 16384 k 0 (by omega) (by omega)
        have HA1 : Hid (Calls Tryz.prog 22 #[.slice (some ⟨wr.heap.size, 0, none⟩) 1 1, .string ⟨(mL k).toArray⟩] (wr.alloc (.cells #[.string ⟨#[97]⟩, .slice none 0 0] 68)) fun e w' => ∃ a cap, e = .returned (.tuple #[.slice a 16384 cap, .agg #[.int .i64 14, .int .i64 16385, .int .i64 1]]) ∧ Below (wr.alloc (.cells #[.string ⟨#[97]⟩, .slice none 0 0] 68)).heap.size (wr.alloc (.cells #[.string ⟨#[97]⟩, .slice none 0 0] 68)) w') := Lib.hid (hA1.mono (by
          rintro e w' ⟨a, cap, h3, h4, h5⟩
          rw [hl, he] at h3
          exact ⟨a, cap, h3, h5⟩))
        generalize (⟨(mL k).toArray⟩ : ByteArray) = X at hcv HA1
        have HO := HO.out.2
        clear hA1 hl he hle hts hbA hc0 hc1
        clear HO
        go_wp2_with fail
        refine HA1.out.mono ?_
        rintro e w2 ⟨a2, c2, rfl, k2⟩
        have HB2 := Lib.hid ((HBA.out.trans (k2.mono HBA.out.size)).alloc (Nat.le_trans HBA.out.size k2.size) (.cells #[.int .i64 14, .int .i64 16385, .int .i64 1] 32))
        clear k2
        go_wp2_with fail
        refine (HAw.out _ HB2.out).mono ?_
        rintro e w3 ⟨rfl, k3⟩
        have HB3 := Lib.hid (HB2.out.trans (k3.mono HB2.out.size))
        clear k3
        go_wp2_with fail
        go_ret
        exact ⟨rfl, HB3.out⟩
end Go.Proofs.YtmjchmamkjbgkaaGreatDoor.eventMany
