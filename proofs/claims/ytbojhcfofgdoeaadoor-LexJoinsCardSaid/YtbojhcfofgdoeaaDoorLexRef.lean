/- What the reference's digit, letter, Blank and Sign do. -/
import Derived.Test.YtbojhcfofgdoeaaDoorLexSign
import Derived.OwnWalk
import Derived.BigQuiet
namespace Go.Proofs.YtbojhcfofgdoeaaDoor
open Go.RowKit
set_option linter.unusedVariables false

set_option maxHeartbeats 400000 in
theorem lxDigit_calls (c : UInt8) (w : World) :
    Calls Tryd.prog 31 #[.int .u8 c.toNat] w fun e w' => e = .returned (.bool (digitB c)) ∧ w = w' := by
  have HV : Hid (digitB c = (decide (48 ≤ c.toNat) && decide (c.toNat ≤ 57))) := Lib.hid rfl
  cases h1 : decide (48 ≤ c.toNat)
  all_goals cases h2 : decide (c.toNat ≤ 57)
  all_goals
    have t1 : decide ((48 : Int) ≤ (c.toNat : Int)) = _ := byteB c 48 _ h1
    have t2 : decide ((c.toNat : Int) ≤ (57 : Int)) = _ := byteT c 57 _ h2
    rw [h1, h2] at HV
    clear h1 h2
    go_enter Tryd.func31, Tryd.ntmps31
    go_wp2_with fail
    go_ret
    exact ⟨by rw [HV.out]; rfl, rfl⟩

set_option maxHeartbeats 4000000 in
theorem lxLetter_calls (c : UInt8) (w : World) :
    Calls Tryd.prog 29 #[.int .u8 c.toNat] w fun e w' => e = .returned (.bool (nameC c)) ∧ w = w' := by
  have HV : Hid (nameC c = (((decide (65 ≤ c.toNat) && decide (c.toNat ≤ 90)) || (decide (97 ≤ c.toNat) && decide (c.toNat ≤ 122))) || digitB c || (c == 95))) := Lib.hid rfl
  have HD := Lib.hid (lxDigit_calls c w)
  have e5 := byte95 c
  generalize nameC c = V at HV ⊢
  generalize digitB c = d at HV HD
  cases h1 : decide (65 ≤ c.toNat)
  all_goals cases h2 : decide (c.toNat ≤ 90)
  all_goals cases h3 : decide (97 ≤ c.toNat)
  all_goals cases h4 : decide (c.toNat ≤ 122)
  all_goals cases h5 : (c == 95)
  all_goals
    have t1 : decide ((65 : Int) ≤ (c.toNat : Int)) = _ := byteB c 65 _ h1
    have t2 : decide ((c.toNat : Int) ≤ (90 : Int)) = _ := byteT c 90 _ h2
    have t3 : decide ((97 : Int) ≤ (c.toNat : Int)) = _ := byteB c 97 _ h3
    have t4 : decide ((c.toNat : Int) ≤ (122 : Int)) = _ := byteT c 122 _ h4
    have t5 : ((c.toNat : Int) == 95) = _ := e5.trans h5
    rw [h1, h2, h3, h4, h5] at HV
    clear h1 h2 h3 h4 h5 e5
    go_enter Tryd.func29, Tryd.ntmps29
    go_wp2_with fail
    (try (refine HD.out.mono ?_; rintro e w1 ⟨rfl, hw1⟩; subst hw1; go_wp2_with fail))
    go_ret
    exact ⟨by rw [HV.out]; cases d <;> rfl, rfl⟩

theorem blX_end2 {l : List UInt8} {i : Nat} (h : blX l i true) (hi : l.length ≤ i) : blX l i false := by
  unfold blX at h ⊢
  rw [List.drop_eq_nil_iff.2 hi] at h ⊢
  exact h
set_option maxHeartbeats 4000000 in
theorem lxBlank_calls (s : ByteArray) (w : World) (hs : s.size ≤ 4611686018427387903) :
    Calls Tryd.prog 14 #[.string s] w fun e w' => e = .returned (.int .i64 (blankN s.data.toList false : Nat)) ∧ w = w' := by
  have HL : Hid (s.data.toList.length = s.size) := Lib.hid (cs_size s).symm
  obtain ⟨N, hN⟩ : ∃ N, N = blankN s.data.toList false := ⟨_, rfl⟩
  rw [← hN]
  have HN := Lib.hid hN
  clear hN
  go_enter Tryd.func14, Tryd.ntmps14
  go_wp2_with fail
  go_loopw [3] (fun v wr => ∃ (n : Nat), n ≤ s.size ∧ v = .int .i64 n ∧ Hid (blX s.data.toList n false) ∧ w = wr) (fun v _ => s.size - (intOf v).toNat)
  case atStart => exact ⟨0, Nat.zero_le _, rfl, Lib.hid (blX_zero _), rfl⟩
  case round =>
    obtain ⟨n, hn, rfl, HX, rfl⟩ := hrel
    by_cases hlt : n < s.size
    case neg =>
      have HE : Hid (N = n) := Lib.hid (by rw [HN.out]; exact blX_end HX.out (by rw [HL.out]; omega))
      go_wp2_with fail
      go_ret
      exact ⟨by rw [HE.out]; rfl, rfl⟩
    case pos =>
      have hat := cs_at s n hlt
      have b35 := cs_beq s[n] 35 (by omega)
      have b32 := cs_beq s[n] 32 (by omega)
      have b10 := cs_beq s[n] 10 (by omega)
      have b13 := cs_beq s[n] 13 (by omega)
      have b9 := cs_beq s[n] 9 (by omega)
      by_cases h35 : s[n] = 35
      case pos =>
        have t35 : ((s[n].toNat : Int) == 35) = true := b35.trans (by rw [h35]; rfl)
        have HX2 := Lib.hid (blX_hash HX.out (by rw [hat, h35]))
        have HA : Hid (s[n] ≠ 10) := Lib.hid (by rw [h35]; decide)
        clear b35 b32 b10 b13 b9 hat h35
        go_wp2_with fail
        go_loopw [3] (fun v wr => ∃ (j : Nat), n ≤ j ∧ j ≤ s.size ∧ v = .int .i64 j ∧ Hid (blX s.data.toList j true) ∧ w = wr) (fun v _ => s.size - (intOf v).toNat)
        case atStart => exact ⟨n, Nat.le_refl _, hn, rfl, HX2, rfl⟩
        case round =>
          clear HX2
          obtain ⟨j, hnj, hj, rfl, HY, rfl⟩ := hrel
          by_cases hjl : j < s.size
          case neg =>
            have HE := Lib.hid (blX_end2 HY.out (by rw [HL.out]; omega))
            have hjn : n < j := by omega
            go_wp2_with fail
            go_roundw
            case rel => exact ⟨j, hj, rfl, HE, trivial⟩
            case measure => simp [intOf]; omega
          case pos =>
            have b10 := cs_beq s[j] 10 (by omega)
            have hat := cs_at s j hjl
            by_cases h10 : s[j] = 10
            · have HE := Lib.hid (blX_out HY.out (by rw [hat, h10]))
              have hjn : n < j := by
                rcases Nat.lt_or_eq_of_le hnj with h | h
                · exact h
                · subst h; exact absurd h10 HA.out
              have t10 : ((s[j].toNat : Int) != 10) = false := by rw [bne, show ((s[j].toNat : Int) == 10) = (s[j] == 10) from b10, h10]; rfl
              clear b10 hat h10
              go_wp2_with fail
              go_roundw
              case rel => exact ⟨j, hj, rfl, HE, trivial⟩
              case measure => simp [intOf]; omega
            · have HE := Lib.hid (blX_in HY.out hat h10)
              have t10 : ((s[j].toNat : Int) != 10) = true := by rw [bne, show ((s[j].toNat : Int) == 10) = (s[j] == 10) from b10]; simpa using h10
              clear b10 hat h10
              go_wp2_with fail
              go_roundw
              case rel => exact ⟨j + 1, by omega, hjl, by go_num, HE, trivial⟩
              case measure => simp [intOf]; omega
      case neg =>
        have t35 : ((s[n].toNat : Int) == 35) = false := b35.trans (by simpa using h35)
        have q32 : ((s[n].toNat : Int) != 32) = !(s[n] == 32) := by rw [bne]; exact congrArg not b32
        have q10 : ((s[n].toNat : Int) != 10) = !(s[n] == 10) := by rw [bne]; exact congrArg not b10
        have q13 : ((s[n].toNat : Int) != 13) = !(s[n] == 13) := by rw [bne]; exact congrArg not b13
        have q9 : ((s[n].toNat : Int) != 9) = !(s[n] == 9) := by rw [bne]; exact congrArg not b9
        have hbl : blankB s[n] = (s[n] == 32 || (s[n] == 10 || (s[n] == 13 || s[n] == 9))) := rfl
        have HB := Lib.hid (fun hb => blX_blank HX.out hat hb)
        have HS := Lib.hid (fun hb => blX_stop HX.out hat hb h35)
        clear b35 b32 b10 b13 b9 hat h35
        rw [hbl] at HB HS
        clear hbl
        cases h1 : (s[n] == 32) <;> cases h2 : (s[n] == 10) <;> cases h3 : (s[n] == 13) <;> cases h4 : (s[n] == 9)
        all_goals
          rw [h1] at q32
          rw [h2] at q10
          rw [h3] at q13
          rw [h4] at q9
          rw [h1, h2, h3, h4] at HB HS
          clear h1 h2 h3 h4
        case false.false.false.false =>
          have HE : Hid (N = n) := Lib.hid (by rw [HN.out]; exact HS.out rfl)
          go_wp2_with fail
          go_ret
          exact ⟨by rw [HE.out]; rfl, rfl⟩
        all_goals
          have HE := Lib.hid (HB.out rfl)
          clear HB HS
          go_wp2_with fail
          go_roundw
          case rel => exact ⟨n + 1, hlt, by go_num, HE, trivial⟩
          case measure => simp [intOf]; omega
theorem signs_at : ∀ (n : Nat), n < 16 → signsV[n]? = some (.string ⟨(signAt n).toArray⟩)
  | 0, _ => rfl
  | 1, _ => rfl
  | 2, _ => rfl
  | 3, _ => rfl
  | 4, _ => rfl
  | 5, _ => rfl
  | 6, _ => rfl
  | 7, _ => rfl
  | 8, _ => rfl
  | 9, _ => rfl
  | 10, _ => rfl
  | 11, _ => rfl
  | 12, _ => rfl
  | 13, _ => rfl
  | 14, _ => rfl
  | 15, _ => rfl
  | n + 16, h => by omega
theorem sign_len : ∀ (n : Nat), n < 16 → (signAt n).length ≤ 2
  | 0, _ => by decide
  | 1, _ => by decide
  | 2, _ => by decide
  | 3, _ => by decide
  | 4, _ => by decide
  | 5, _ => by decide
  | 6, _ => by decide
  | 7, _ => by decide
  | 8, _ => by decide
  | 9, _ => by decide
  | 10, _ => by decide
  | 11, _ => by decide
  | 12, _ => by decide
  | 13, _ => by decide
  | 14, _ => by decide
  | 15, _ => by decide
  | n + 16, h => by omega
theorem lx_drewN {B : Nat} {a w : World} (h : Below B a w) (n : Nat) : Below B a (w.drewN n) := ⟨h.os, h.tape, h.output, h.size, h.block⟩
theorem pre_take {x l : List UInt8} (h : x.length ≤ l.length) : x.isPrefixOf l = (l.take x.length == x) := by
  rw [Bool.eq_iff_iff, List.isPrefixOf_iff_prefix, beq_iff_eq]
  constructor
  · rintro ⟨y, rfl⟩; exact List.take_left
  · intro e; rw [← e]; exact List.take_prefix _ _
theorem pre_long {x l : List UInt8} (h : l.length < x.length) : x.isPrefixOf l = false := by
  rw [Bool.eq_false_iff]
  intro e
  rw [List.isPrefixOf_iff_prefix] at e
  have := e.length_le
  omega
set_option maxHeartbeats 4000000 in
set_option maxRecDepth 100000 in
theorem lxSign_calls (s : ByteArray) (w : World) (hs : s.size ≤ 4611686018427387903) :
    Calls Tryd.prog 30 #[.string s] w fun e w' => e = .returned (.string ⟨(s.data.toList.take (signN s.data.toList)).toArray⟩) ∧ Below w.heap.size w w' := by
  obtain ⟨l, hl⟩ : ∃ l, l = s.data.toList := ⟨_, rfl⟩
  have HLn : Hid (l.length = s.size) := Lib.hid (by rw [hl, ← cs_size])
  rw [← hl]
  have HL := Lib.hid hl
  have H0 : Hid (noSign l 0) := Lib.hid (noSign_zero l)
  have HS0 := Lib.hid (heap_alloc_new w (.cells signsV 9))
  have HB := Lib.hid ((Below.refl w.heap.size w).alloc (Nat.le_refl _) (.cells signsV 9))
  obtain ⟨V, hV⟩ : ∃ V : ByteArray, V = ⟨(l.take (signN l)).toArray⟩ := ⟨_, rfl⟩
  rw [← hV]
  have HVV := Lib.hid hV
  clear hl hV
  go_enter Tryd.func30, Tryd.ntmps30
  go_wp2_with fail
  unfold signsV at HS0 HB
  generalize hw2 : w.alloc (.cells #[.string ⟨#[61, 61]⟩, .string ⟨#[33, 61]⟩, .string ⟨#[60, 61]⟩, .string ⟨#[62, 61]⟩, .string ⟨#[60]⟩, .string ⟨#[62]⟩, .string ⟨#[61]⟩, .string ⟨#[40]⟩, .string ⟨#[41]⟩, .string ⟨#[44]⟩, .string ⟨#[58]⟩, .string ⟨#[43]⟩, .string ⟨#[45]⟩, .string ⟨#[42]⟩, .string ⟨#[47]⟩, .string ⟨#[37]⟩] 9) = w2 at HS0 HB ⊢
  clear hw2
  go_loopw [4] (fun i wr => ∃ (n : Nat), n ≤ 16 ∧ i = .int .i64 n ∧ Hid (noSign l n) ∧ Hid (Below w.heap.size w wr) ∧ Hid (wr.heap[w.heap.size]? = some (.cells signsV 9 (0, 0)))) (fun i _ => 16 - (intOf i).toNat)
  case atStart => exact ⟨0, by omega, rfl, H0, HB, HS0⟩
  case round =>
    clear HB HS0
    obtain ⟨n, hn, rfl, HX, HB, HS0⟩ := hrel
    by_cases hlt : n < 16
    case neg =>
      have HV : Hid (V = ⟨#[]⟩) := Lib.hid (by rw [HVV.out, sign_none (by rw [← show n = 16 by omega]; exact HX.out)]; rfl)
      go_wp2_with fail
      go_ret
      exact ⟨by rw [HV.out]; rfl, HB.out⟩
    case pos =>
      have hc : wr.cell? ⟨w.heap.size, n, none⟩ = some (.string ⟨(signAt n).toArray⟩) := by rw [cell_of_row wr _ n _ _ _ HS0.out]; exact signs_at n hlt
      obtain ⟨x, hx⟩ : ∃ x : ByteArray, x = ⟨(signAt n).toArray⟩ := ⟨_, rfl⟩
      have hxs : x.size = (signAt n).length := by rw [hx, lx_size]
      have hxl : x.data.toList = signAt n := by rw [hx]
      rw [← hx] at hc
      have hblk := block_lt_of_cell hc
      by_cases hle : x.size ≤ s.size
      case neg =>
        have HX2 := Lib.hid (noSign_more HX.out hlt (pre_long (l := l) (by rw [HLn.out]; unfold signAt at hxs; omega)))
        have hxm : x.size ≤ 9223372036854775807 := by
          have h1 := sign_len n hlt
          omega
        have t1 : decide (x.size ≤ s.size) = false := by simpa using hle
        clear hx hxs hxl
        go_wp2_with fail
        go_quiet (fail)
        all_goals (go_wp2_with fail)
        go_roundw
        case rel => exact ⟨n + 1, hlt, by go_num, HX2, Lib.hid (lx_drewN HB.out _), HS0⟩
        case measure => simp [intOf]; omega
      case pos =>
        have hpre := pre_take (x := signAt n) (l := l) (by rw [HLn.out, ← hxs]; exact hle)
        have heq : ((s.extract 0 x.size).toList == x.toList) = (signAt n).isPrefixOf l := by rw [hpre, cs_tl, cs_tl, cs_take, hxl, hxs, ← HL.out]
        have t1 : decide (x.size ≤ s.size) = true := by simpa using hle
        cases e : (signAt n).isPrefixOf l
        · have HX2 := Lib.hid (noSign_more HX.out hlt e)
          rw [e] at heq
          clear e hx hxs hxl hpre
          go_wp2_with fail
          go_quiet (fail)
          all_goals (go_wp2_with fail)
          go_roundw
          case rel => exact ⟨n + 1, hlt, by go_num, HX2, Lib.hid (lx_drewN HB.out _), HS0⟩
          case measure => simp [intOf]; omega
        · have HV : Hid (V = x) := Lib.hid (by rw [HVV.out, ← (sign_hit HX.out hlt e).1, hx])
          rw [e] at heq
          clear e hx hxs hxl hpre
          go_wp2_with fail
          go_quiet (fail)
          all_goals (go_wp2_with fail)
          go_ret
          exact ⟨by rw [HV.out]; rfl, lx_drewN HB.out _⟩
end Go.Proofs.YtbojhcfofgdoeaaDoor
