/- Contracts of a lower layer, several texts in one. -/
import Derived.Test.YtmjchmamkjbgkaaGreatDoorShelfAll
import Derived.Test.YtmjchmamkjbgkaaGreatDoorLowSc1
import Derived.OwnWalk
import Derived.Deep.Slices
import Derived.ChangeSlices
import Derived.ChangeAt
import Derived.ChangeSame
import Derived.OpenShut
/- ShelfJoin -/


/- ScText0 -/
namespace Go.Proofs.YtmjchmamkjbgkaaGreatDoor
open Go.RowKit
set_option linter.unusedVariables false

theorem scInfoS : (Tryz.prog.info? 9).map (fun i => (i.zero, i.size, i.bytes)) = some (some (.string ⟨#[]⟩), 1, 16) := by kernel_rfl
theorem sc_parts {i : Option TypeInfo} {z : Value} {s b : Nat} (h : i.map (fun i => (i.zero, i.size, i.bytes)) = some (some z, s, b)) : ∃ i0, i = some i0 ∧ i0.zero = some z ∧ i0.size = s ∧ i0.bytes = b := by
  cases i with
  | none => cases h
  | some i0 =>
    simp only [Option.map_some, Option.some.injEq, Prod.mk.injEq] at h
    exact ⟨i0, rfl, h.1, h.2.1, h.2.2⟩
theorem make_strs (K : Nat) (hK : K ≤ 1000000) (w : World) : (Instr.makeSlice 23 (.int .i64 (K : Int)) (.int .i64 (K : Int))).run Tryz.prog w = .ok (.slice (some ⟨w.heap.size, 0, none⟩) K K) (w.alloc (.cells (madeCells #[.string ⟨#[]⟩] K) 9)) := by
  obtain ⟨i0, hi, hz0, hz1, hz2⟩ := sc_parts scInfoS
  have h := run_make w 23 9 i0 (.string ⟨#[]⟩) Tryz.underlying23 hi hz0 .i64 .i64 (K : Int) (K : Int) (by omega) (by omega) (by rw [hz2]; omega) (by omega)
  rw [h, hz1]
  simp [Value.cells]
/-- A block of texts. -/
def HoldT (g : Nat) (l : List ByteArray) (w : World) : Prop := w.heap[g]? = some (.cells (l.map Value.string).toArray 9 (0, 0))
theorem HoldT.cell {g : Nat} {l : List ByteArray} {w : World} (h : HoldT g l w) {j : Nat} {x : ByteArray} (hj : l[j]? = some x) : w.cell? ⟨g, j, none⟩ = some (.string x) := by
  rw [cell_of_row w g j _ _ _ h]
  simp [hj]
theorem HoldT.frozen {g : Nat} {l : List ByteArray} {w : World} (h : HoldT g l w) (j : Nat) : w.frozen? ⟨g, j, none⟩ = false := frozen_of_row w g j _ _ h
theorem HoldT.lt {g : Nat} {l : List ByteArray} {w : World} (h : HoldT g l w) : g < w.heap.size := (Array.getElem?_eq_some_iff.1 h).1
theorem HoldT.set {g : Nat} {l : List ByteArray} {w : World} (h : HoldT g l w) (i : Nat) (x : ByteArray) : HoldT g (l.set i x) (w.setCell ⟨g, i, none⟩ (.string x)) := by
  have := heap_setCell_same w g i _ _ (.string x) h
  unfold HoldT
  rw [this]
  congr 2
  apply Array.ext'
  simp [List.map_set]
theorem HoldT.made (w : World) (n : Nat) : HoldT w.heap.size (List.replicate n ⟨#[]⟩) (w.alloc (.cells (madeCells #[.string ⟨#[]⟩] n) 9)) := by
  have h := heap_alloc_new w (.cells (madeCells #[.string ⟨#[]⟩] n) 9)
  unfold HoldT
  rw [h]
  congr 2
  apply Array.ext'
  apply List.ext_getElem (by simp [madeCells])
  intro j h1 h2
  simp [madeCells, Nat.mod_one]
/-- But for one block, the world is as it was. -/
def ScBut (g : Nat) (w w' : World) : Prop := w.grownBy w' (some g)
theorem ScBut.refl (g : Nat) (w : World) : ScBut g w w := ⟨rfl, rfl, rfl, Nat.le_refl _, fun _ _ _ => rfl⟩
theorem ScBut.set {g o : Nat} {w w' : World} (h : ScBut g w w') (v : Value) : ScBut g w (w'.setCell ⟨g, o, none⟩ v) :=
  ⟨h.os, h.tape, h.output, by rw [World.size_setCell]; exact h.size, fun k hk hne => (heap_setCell_other w' _ k v (fun e => hne (by rw [e]))).trans (h.block k hk hne)⟩
theorem ScBut.cell {g : Nat} {w w' : World} (h : ScBut g w w') {c o : Nat} {v : Value} (hc : w.cell? ⟨c, o, none⟩ = some v) (hne : c ≠ g) : w'.cell? ⟨c, o, none⟩ = some v :=
  World.grownBy.cell h hc (fun e => hne (Option.some.inj e))
/-- The names of kinds, so far. -/
def namesN (V : List Int) (n : Nat) : List ByteArray := (V.take n).map kindT ++ List.replicate (V.length - n) ⟨#[]⟩
theorem namesN_zero (V : List Int) : namesN V 0 = List.replicate V.length ⟨#[]⟩ := by simp [namesN]
theorem namesN_all (V : List Int) : namesN V V.length = V.map kindT := by simp [namesN]
theorem namesN_len (V : List Int) (n : Nat) (h : n ≤ V.length) : (namesN V n).length = V.length := by
  simp [namesN]; omega
theorem namesN_set (V : List Int) (n : Nat) (h : n < V.length) : (namesN V n).set n (kindT (V.getD n 0)) = namesN V (n + 1) := by
  have ht : V.take (n + 1) = V.take n ++ [V.getD n 0] := by
    rw [List.take_succ_eq_append_getElem h]
    simp [List.getD, h]
  have hr : V.length - n = (V.length - (n + 1)) + 1 := by omega
  have hl : ((V.take n).map kindT).length = n := by rw [List.length_map, List.length_take]; omega
  unfold namesN
  rw [List.set_append_right _ _ (by omega), hl, Nat.sub_self, hr, List.replicate_succ, List.set_cons_zero, ht]
  simp
theorem kindT_list (k : Int) : (kindT k).data.toList = kindL k := rfl
theorem names_join (V : List Int) : Lib.join ((V.map kindT).map (·.data.toList)) [44, 32] = kindsN V V.length := by
  rw [kinds_join V V.length (Nat.le_refl _), List.take_length, List.map_map]
  rfl
theorem sc_cat (a b : ByteArray) : (a ++ b).data.toList = a.data.toList ++ b.data.toList := by simp
theorem sc_hcat (a b : ByteArray) (h : a.size + b.size ≤ 9223372036854775807) : ∀ w, (Op.stringOp .add a b).run Tryz.prog w = .ok (.string (a ++ b)) w := fun w => run_string_add_sum w a b h
theorem sc_catSize (a b : ByteArray) : (a ++ b).size = a.size + b.size := by rw [sc_size, sc_cat, List.length_append, ← sc_size, ← sc_size]

theorem cell_alloc {w : World} {g n : Nat} {v : Value} (hc : w.cell? ⟨g, n, none⟩ = some v) (o : Obj) : (w.alloc o).cell? ⟨g, n, none⟩ = some v :=
  (((Below.refl w.heap.size w).alloc (Nat.le_refl _) o).cell (p := ⟨g, n, none⟩) (block_lt_of_cell hc)).trans hc
theorem cell_new (w : World) (cs : Array Value) (t : TypeId) {n : Nat} {v : Value} (h : cs[n]? = some v) : (w.alloc (.cells cs t)).cell? ⟨w.heap.size, n, none⟩ = some v := by
  rw [World.cell?_alloc_at (hn := rfl)]
  exact h
end Go.Proofs.YtmjchmamkjbgkaaGreatDoor

/- ScRefNames -/
namespace Go.Proofs.YtmjchmamkjbgkaaGreatDoor
open Go.RowKit
set_option linter.unusedVariables false

theorem eq95_iff (c : UInt8) : (c == 95) = true ↔ c.toNat = 95 := by
  rw [beq_iff_eq]
  constructor
  · rintro rfl; rfl
  · intro h; exact UInt8.toNat_inj.1 h
theorem nameC_iff (c : UInt8) : nameC c = true ↔ ((65 ≤ c.toNat ∧ c.toNat ≤ 90) ∨ (97 ≤ c.toNat ∧ c.toNat ≤ 122)) ∨ (48 ≤ c.toNat ∧ c.toNat ≤ 57) ∨ c.toNat = 95 := by
  unfold nameC letterB digitB
  rw [Bool.or_eq_true, Bool.or_eq_true, eq95_iff]
  simp only [Bool.or_eq_true, Bool.and_eq_true, decide_eq_true_eq]
  omega
theorem digitB_iff (c : UInt8) : digitB c = true ↔ 48 ≤ c.toNat ∧ c.toNat ≤ 57 := by
  unfold digitB
  simp only [Bool.and_eq_true, decide_eq_true_eq]
/-- So far all is as in a name. -/
def spTo (s : ByteArray) (n : Nat) : Prop := namesTo s n ∧ ∀ h : 0 < s.size, 0 < n → digitB (s[0]'h) = false
theorem spTo_zero (s : ByteArray) : spTo s 0 := ⟨namesTo_zero s, fun _ h => by omega⟩
theorem spTo_letter {s : ByteArray} {n : Nat} (h : spTo s n) (hn : n < s.size) (e : nameC s[n] = true) (e2 : digitB s[n] = false) : spTo s (n + 1) :=
  ⟨namesTo_step h.1 hn e, fun h0 _ => by
    by_cases hz : n = 0
    · subst hz; exact e2
    · exact h.2 h0 (by omega)⟩
theorem spTo_digit {s : ByteArray} {n : Nat} (h : spTo s n) (hn : n < s.size) (e : nameC s[n] = true) (hz : n ≠ 0) : spTo s (n + 1) :=
  ⟨namesTo_step h.1 hn e, fun h0 _ => h.2 h0 (by omega)⟩
theorem spTo_end {s : ByteArray} (h0 : 0 < s.size) (h1 : s.size ≤ 32) (h : spTo s s.size) : speltB s = true := spelt_good h0 h1 (h.2 h0 h0) h.1

set_option maxHeartbeats 4000000 in
theorem refSpelt_calls (s : ByteArray) (w : World) (hs : s.size ≤ 9223372036854775807) :
    Calls Tryz.prog 69 #[.string s] w fun e w' => e = .returned (.bool (speltB s)) ∧ w = w' := by
  by_cases h0 : s.size = 0
  · have HV : Hid (speltB s = false) := Lib.hid (spelt_none h0)
    have he : s = ⟨#[]⟩ := sc_eq (t := []) (List.length_eq_zero_iff.1 (by rw [← sc_size]; exact h0))
    clear h0 hs
    generalize speltB s = b at HV ⊢
    subst he
    go_enter Tryz.func69, Tryz.ntmps69
    go_wp2_with fail
    go_ret
    exact ⟨by rw [HV.out]; rfl, rfl⟩
  have hp : 0 < s.size := by omega
  have hne : ¬ s = ByteArray.empty := fun e => by rw [e] at hp; exact absurd hp (by decide)
  have t0 : decide ((s.size : Int) < 1) = false := by simp; omega
  by_cases h1 : 32 < s.size
  · have HV : Hid (speltB s = false) := Lib.hid (spelt_long h1)
    have t1 : decide ((32 : Int) < (s.size : Int)) = true := by simp; omega
    clear h0
    go_enter Tryz.func69, Tryz.ntmps69
    go_wp2_with fail
    go_ret
    exact ⟨by rw [HV.out]; rfl, rfl⟩
  have t1 : decide ((32 : Int) < (s.size : Int)) = false := by simp; omega
  have HG : Hid (spTo s s.size → speltB s = true) := Lib.hid (spTo_end hp (by omega))
  have H0 := Lib.hid (spTo_zero s)
  have HZ : Hid (digitB (s[0]'hp) = true → speltB s = false) := Lib.hid (spelt_digit hp)
  clear h0
  go_enter Tryz.func69, Tryz.ntmps69
  go_wp2_with fail
  clear t0 t1
  go_loopw [3] (fun i wr => ∃ (n : Nat), n ≤ s.size ∧ i = .int .i64 n ∧ Hid (spTo s n) ∧ w = wr) (fun i _ => s.size - (intOf i).toNat)
  case atStart => exact ⟨0, by omega, rfl, H0, rfl⟩
  case round =>
    obtain ⟨n, hn, rfl, HX, rfl⟩ := hrel
    by_cases hlt : n < s.size
    case neg =>
      have HV : Hid (speltB s = true) := Lib.hid (HG.out (by rw [← show n = s.size by omega]; exact HX.out))
      go_wp2_with fail
      go_ret
      exact ⟨by rw [HV.out]; rfl, rfl⟩
    case pos =>
      have HSL := Lib.hid (fun e e2 => spTo_letter HX.out hlt e e2)
      have HSD := Lib.hid (fun e e2 => spTo_digit HX.out hlt e e2)
      have HB := Lib.hid (fun e => spelt_bad (s := s) hlt e)
      have hN := nameC_iff s[n]
      have hD := digitB_iff s[n]
      have h95 := byte95 s[n]
      have hE := eq95_iff s[n]
      have HZn : Hid (n = 0 → digitB s[n] = true → speltB s = false) := Lib.hid (by rintro rfl; exact HZ.out)
      by_cases hr : 48 ≤ s[n].toNat ∧ s[n].toNat ≤ 57
      case pos =>
        have ta : decide ((65 : Int) ≤ (s[n].toNat : Int)) = false := by rw [decide_eq_false_iff_not]; omega
        have tb : decide ((s[n].toNat : Int) ≤ 90) = true := by rw [decide_eq_true_eq]; omega
        have tc : decide ((97 : Int) ≤ (s[n].toNat : Int)) = false := by rw [decide_eq_false_iff_not]; omega
        have td : decide ((s[n].toNat : Int) ≤ 122) = true := by rw [decide_eq_true_eq]; omega
        have tf : decide ((s[n].toNat : Int) < 48) = false := by rw [decide_eq_false_iff_not]; omega
        have tg : decide ((57 : Int) < (s[n].toNat : Int)) = false := by rw [decide_eq_false_iff_not]; omega
        have te : ((s[n].toNat : Int) == 95) = false := by rw [h95, Bool.eq_false_iff, Ne, hE]; omega
        by_cases hz : n = 0
        · have HV : Hid (speltB s = false) := Lib.hid (HZn.out hz (hD.2 (by omega)))
          have tz : ((n : Int) == 0) = true := by simp; omega
          clear hz
          clear hN hD h95 hE hr
          go_wp2_with fail
          go_ret
          exact ⟨by rw [HV.out]; rfl, rfl⟩
        · have HX2 := Lib.hid (HSD.out (hN.2 (by omega)) hz)
          have tz : ((n : Int) == 0) = false := by simp; omega
          clear hz
          clear hN hD h95 hE hr
          go_wp2_with fail
          go_roundw
          case rel => exact ⟨n + 1, hlt, by go_num, HX2, trivial⟩
          case measure => simp [intOf]; omega
      case neg =>
        by_cases hr : 0 ≤ s[n].toNat ∧ s[n].toNat ≤ 47
        case pos =>
          have ta : decide ((65 : Int) ≤ (s[n].toNat : Int)) = false := by rw [decide_eq_false_iff_not]; omega
          have tb : decide ((s[n].toNat : Int) ≤ 90) = true := by rw [decide_eq_true_eq]; omega
          have tc : decide ((97 : Int) ≤ (s[n].toNat : Int)) = false := by rw [decide_eq_false_iff_not]; omega
          have td : decide ((s[n].toNat : Int) ≤ 122) = true := by rw [decide_eq_true_eq]; omega
          have tf : decide ((s[n].toNat : Int) < 48) = true := by rw [decide_eq_true_eq]; omega
          have tg : decide ((57 : Int) < (s[n].toNat : Int)) = false := by rw [decide_eq_false_iff_not]; omega
          have te : ((s[n].toNat : Int) == 95) = false := by rw [h95, Bool.eq_false_iff, Ne, hE]; omega
          by_cases hz : n = 0
          · have HV : Hid (speltB s = false) := Lib.hid (HB.out (Bool.eq_false_iff.2 (fun e => by have := hN.1 e; omega)))
            have tz : ((n : Int) == 0) = true := by simp; omega
            clear hz
            clear hN hD h95 hE hr
            go_wp2_with fail
            go_ret
            exact ⟨by rw [HV.out]; rfl, rfl⟩
          · have HV : Hid (speltB s = false) := Lib.hid (HB.out (Bool.eq_false_iff.2 (fun e => by have := hN.1 e; omega)))
            have tz : ((n : Int) == 0) = false := by simp; omega
            clear hz
            clear hN hD h95 hE hr
            go_wp2_with fail
            go_ret
            exact ⟨by rw [HV.out]; rfl, rfl⟩
        case neg =>
          by_cases hr : 58 ≤ s[n].toNat ∧ s[n].toNat ≤ 64
          case pos =>
            have ta : decide ((65 : Int) ≤ (s[n].toNat : Int)) = false := by rw [decide_eq_false_iff_not]; omega
            have tb : decide ((s[n].toNat : Int) ≤ 90) = true := by rw [decide_eq_true_eq]; omega
            have tc : decide ((97 : Int) ≤ (s[n].toNat : Int)) = false := by rw [decide_eq_false_iff_not]; omega
            have td : decide ((s[n].toNat : Int) ≤ 122) = true := by rw [decide_eq_true_eq]; omega
            have tf : decide ((s[n].toNat : Int) < 48) = false := by rw [decide_eq_false_iff_not]; omega
            have tg : decide ((57 : Int) < (s[n].toNat : Int)) = true := by rw [decide_eq_true_eq]; omega
            have te : ((s[n].toNat : Int) == 95) = false := by rw [h95, Bool.eq_false_iff, Ne, hE]; omega
            by_cases hz : n = 0
            · have HV : Hid (speltB s = false) := Lib.hid (HB.out (Bool.eq_false_iff.2 (fun e => by have := hN.1 e; omega)))
              have tz : ((n : Int) == 0) = true := by simp; omega
              clear hz
              clear hN hD h95 hE hr
              go_wp2_with fail
              go_ret
              exact ⟨by rw [HV.out]; rfl, rfl⟩
            · have HV : Hid (speltB s = false) := Lib.hid (HB.out (Bool.eq_false_iff.2 (fun e => by have := hN.1 e; omega)))
              have tz : ((n : Int) == 0) = false := by simp; omega
              clear hz
              clear hN hD h95 hE hr
              go_wp2_with fail
              go_ret
              exact ⟨by rw [HV.out]; rfl, rfl⟩
          case neg =>
            by_cases hr : 65 ≤ s[n].toNat ∧ s[n].toNat ≤ 90
            case pos =>
              have ta : decide ((65 : Int) ≤ (s[n].toNat : Int)) = true := by rw [decide_eq_true_eq]; omega
              have tb : decide ((s[n].toNat : Int) ≤ 90) = true := by rw [decide_eq_true_eq]; omega
              have tc : decide ((97 : Int) ≤ (s[n].toNat : Int)) = false := by rw [decide_eq_false_iff_not]; omega
              have td : decide ((s[n].toNat : Int) ≤ 122) = true := by rw [decide_eq_true_eq]; omega
              have tf : decide ((s[n].toNat : Int) < 48) = false := by rw [decide_eq_false_iff_not]; omega
              have tg : decide ((57 : Int) < (s[n].toNat : Int)) = true := by rw [decide_eq_true_eq]; omega
              have te : ((s[n].toNat : Int) == 95) = false := by rw [h95, Bool.eq_false_iff, Ne, hE]; omega
              have HX2 := Lib.hid (HSL.out (hN.2 (by omega)) (Bool.eq_false_iff.2 (fun e => by have := hD.1 e; omega)))
              clear hN hD h95 hE hr
              go_wp2_with fail
              go_roundw
              case rel => exact ⟨n + 1, hlt, by go_num, HX2, trivial⟩
              case measure => simp [intOf]; omega
            case neg =>
              by_cases hr : 91 ≤ s[n].toNat ∧ s[n].toNat ≤ 94
              case pos =>
                have ta : decide ((65 : Int) ≤ (s[n].toNat : Int)) = true := by rw [decide_eq_true_eq]; omega
                have tb : decide ((s[n].toNat : Int) ≤ 90) = false := by rw [decide_eq_false_iff_not]; omega
                have tc : decide ((97 : Int) ≤ (s[n].toNat : Int)) = false := by rw [decide_eq_false_iff_not]; omega
                have td : decide ((s[n].toNat : Int) ≤ 122) = true := by rw [decide_eq_true_eq]; omega
                have tf : decide ((s[n].toNat : Int) < 48) = false := by rw [decide_eq_false_iff_not]; omega
                have tg : decide ((57 : Int) < (s[n].toNat : Int)) = true := by rw [decide_eq_true_eq]; omega
                have te : ((s[n].toNat : Int) == 95) = false := by rw [h95, Bool.eq_false_iff, Ne, hE]; omega
                by_cases hz : n = 0
                · have HV : Hid (speltB s = false) := Lib.hid (HB.out (Bool.eq_false_iff.2 (fun e => by have := hN.1 e; omega)))
                  have tz : ((n : Int) == 0) = true := by simp; omega
                  clear hz
                  clear hN hD h95 hE hr
                  go_wp2_with fail
                  go_ret
                  exact ⟨by rw [HV.out]; rfl, rfl⟩
                · have HV : Hid (speltB s = false) := Lib.hid (HB.out (Bool.eq_false_iff.2 (fun e => by have := hN.1 e; omega)))
                  have tz : ((n : Int) == 0) = false := by simp; omega
                  clear hz
                  clear hN hD h95 hE hr
                  go_wp2_with fail
                  go_ret
                  exact ⟨by rw [HV.out]; rfl, rfl⟩
              case neg =>
                by_cases hr : 95 ≤ s[n].toNat ∧ s[n].toNat ≤ 95
                case pos =>
                  have ta : decide ((65 : Int) ≤ (s[n].toNat : Int)) = true := by rw [decide_eq_true_eq]; omega
                  have tb : decide ((s[n].toNat : Int) ≤ 90) = false := by rw [decide_eq_false_iff_not]; omega
                  have tc : decide ((97 : Int) ≤ (s[n].toNat : Int)) = false := by rw [decide_eq_false_iff_not]; omega
                  have td : decide ((s[n].toNat : Int) ≤ 122) = true := by rw [decide_eq_true_eq]; omega
                  have tf : decide ((s[n].toNat : Int) < 48) = false := by rw [decide_eq_false_iff_not]; omega
                  have tg : decide ((57 : Int) < (s[n].toNat : Int)) = true := by rw [decide_eq_true_eq]; omega
                  have te : ((s[n].toNat : Int) == 95) = true := by rw [h95, hE]; omega
                  have HX2 := Lib.hid (HSL.out (hN.2 (by omega)) (Bool.eq_false_iff.2 (fun e => by have := hD.1 e; omega)))
                  clear hN hD h95 hE hr
                  go_wp2_with fail
                  go_roundw
                  case rel => exact ⟨n + 1, hlt, by go_num, HX2, trivial⟩
                  case measure => simp [intOf]; omega
                case neg =>
                  by_cases hr : 96 ≤ s[n].toNat ∧ s[n].toNat ≤ 96
                  case pos =>
                    have ta : decide ((65 : Int) ≤ (s[n].toNat : Int)) = true := by rw [decide_eq_true_eq]; omega
                    have tb : decide ((s[n].toNat : Int) ≤ 90) = false := by rw [decide_eq_false_iff_not]; omega
                    have tc : decide ((97 : Int) ≤ (s[n].toNat : Int)) = false := by rw [decide_eq_false_iff_not]; omega
                    have td : decide ((s[n].toNat : Int) ≤ 122) = true := by rw [decide_eq_true_eq]; omega
                    have tf : decide ((s[n].toNat : Int) < 48) = false := by rw [decide_eq_false_iff_not]; omega
                    have tg : decide ((57 : Int) < (s[n].toNat : Int)) = true := by rw [decide_eq_true_eq]; omega
                    have te : ((s[n].toNat : Int) == 95) = false := by rw [h95, Bool.eq_false_iff, Ne, hE]; omega
                    by_cases hz : n = 0
                    · have HV : Hid (speltB s = false) := Lib.hid (HB.out (Bool.eq_false_iff.2 (fun e => by have := hN.1 e; omega)))
                      have tz : ((n : Int) == 0) = true := by simp; omega
                      clear hz
                      clear hN hD h95 hE hr
                      go_wp2_with fail
                      go_ret
                      exact ⟨by rw [HV.out]; rfl, rfl⟩
                    · have HV : Hid (speltB s = false) := Lib.hid (HB.out (Bool.eq_false_iff.2 (fun e => by have := hN.1 e; omega)))
                      have tz : ((n : Int) == 0) = false := by simp; omega
                      clear hz
                      clear hN hD h95 hE hr
                      go_wp2_with fail
                      go_ret
                      exact ⟨by rw [HV.out]; rfl, rfl⟩
                  case neg =>
                    by_cases hr : 97 ≤ s[n].toNat ∧ s[n].toNat ≤ 122
                    case pos =>
                      have ta : decide ((65 : Int) ≤ (s[n].toNat : Int)) = true := by rw [decide_eq_true_eq]; omega
                      have tb : decide ((s[n].toNat : Int) ≤ 90) = false := by rw [decide_eq_false_iff_not]; omega
                      have tc : decide ((97 : Int) ≤ (s[n].toNat : Int)) = true := by rw [decide_eq_true_eq]; omega
                      have td : decide ((s[n].toNat : Int) ≤ 122) = true := by rw [decide_eq_true_eq]; omega
                      have tf : decide ((s[n].toNat : Int) < 48) = false := by rw [decide_eq_false_iff_not]; omega
                      have tg : decide ((57 : Int) < (s[n].toNat : Int)) = true := by rw [decide_eq_true_eq]; omega
                      have te : ((s[n].toNat : Int) == 95) = false := by rw [h95, Bool.eq_false_iff, Ne, hE]; omega
                      have HX2 := Lib.hid (HSL.out (hN.2 (by omega)) (Bool.eq_false_iff.2 (fun e => by have := hD.1 e; omega)))
                      clear hN hD h95 hE hr
                      go_wp2_with fail
                      go_roundw
                      case rel => exact ⟨n + 1, hlt, by go_num, HX2, trivial⟩
                      case measure => simp [intOf]; omega
                    case neg =>
                      have hr : 123 ≤ s[n].toNat := by omega
                      have ta : decide ((65 : Int) ≤ (s[n].toNat : Int)) = true := by rw [decide_eq_true_eq]; omega
                      have tb : decide ((s[n].toNat : Int) ≤ 90) = false := by rw [decide_eq_false_iff_not]; omega
                      have tc : decide ((97 : Int) ≤ (s[n].toNat : Int)) = true := by rw [decide_eq_true_eq]; omega
                      have td : decide ((s[n].toNat : Int) ≤ 122) = false := by rw [decide_eq_false_iff_not]; omega
                      have tf : decide ((s[n].toNat : Int) < 48) = false := by rw [decide_eq_false_iff_not]; omega
                      have tg : decide ((57 : Int) < (s[n].toNat : Int)) = true := by rw [decide_eq_true_eq]; omega
                      have te : ((s[n].toNat : Int) == 95) = false := by rw [h95, Bool.eq_false_iff, Ne, hE]; omega
                      by_cases hz : n = 0
                      · have HV : Hid (speltB s = false) := Lib.hid (HB.out (Bool.eq_false_iff.2 (fun e => by have := hN.1 e; omega)))
                        have tz : ((n : Int) == 0) = true := by simp; omega
                        clear hz
                        clear hN hD h95 hE hr
                        go_wp2_with fail
                        go_ret
                        exact ⟨by rw [HV.out]; rfl, rfl⟩
                      · have HV : Hid (speltB s = false) := Lib.hid (HB.out (Bool.eq_false_iff.2 (fun e => by have := hN.1 e; omega)))
                        have tz : ((n : Int) == 0) = false := by simp; omega
                        clear hz
                        clear hN hD h95 hE hr
                        go_wp2_with fail
                        go_ret
                        exact ⟨by rw [HV.out]; rfl, rfl⟩

theorem word_cells : ∀ (n : Nat), n < 22 → wordsV[n]? = some (.string (wordAt n))
  | 0, _ => rfl
  | 1, _ => rfl
  | 2, _ => rfl
  | 3, _ => rfl
  | 4, _ => rfl
  | 5, _ => rfl
  | 6, _ => rfl
  | 7, _ => rfl
  | 8, _ => rfl
  | 9, _ => rfl
  | 10, _ => rfl
  | 11, _ => rfl
  | 12, _ => rfl
  | 13, _ => rfl
  | 14, _ => rfl
  | 15, _ => rfl
  | 16, _ => rfl
  | 17, _ => rfl
  | 18, _ => rfl
  | 19, _ => rfl
  | 20, _ => rfl
  | 21, _ => rfl
  | n + 22, h => by omega
set_option maxHeartbeats 1000000 in
set_option maxRecDepth 100000 in
theorem refWords_calls (w : World) :
    Calls Tryz.prog 68 #[] w fun e w' => e = .returned (.slice (some ⟨w.heap.size, 0, none⟩) 22 22) ∧ w' = w.alloc (.cells wordsV 9) := by
  go_enter Tryz.func68, Tryz.ntmps68
  go_wp2_with fail
  go_ret
  exact ⟨rfl, rfl⟩
theorem words_lie (w : World) (n : Nat) (h : n < 22) : (w.alloc (.cells wordsV 9)).cell? ⟨w.heap.size, n, none⟩ = some (.string (wordAt n)) := by
  rw [World.cell?_alloc_at (hn := rfl)]
  exact word_cells n h

set_option maxHeartbeats 2000000 in
theorem refName_calls (s : ByteArray) (w : World) (hs : s.size ≤ 9223372036854775807) :
    Calls Tryz.prog 48 #[.string s] w fun e w' => e = .returned (.bool (nameB s)) ∧ Below w.heap.size w w' := by
  have HV0 : Hid (nameB s = (speltB s && (!wordB s && !lineB s))) := Lib.hid rfl
  have H1 := Lib.hid (refWords_calls w)
  have H2 := Lib.hid (fun w1 => refSpelt_calls s w1 hs)
  have hb : (s.toList == [95]) = lineB s := by unfold lineB isT; rw [sc_tl ⟨#[95]⟩]
  have H0 : Hid (noWord s 0) := Lib.hid (noWord_zero s)
  have HC := Lib.hid (words_lie w)
  have HB := Lib.hid ((Below.refl w.heap.size w).alloc (Nat.le_refl _) (.cells wordsV 9))
  have hlt0 : w.heap.size < (w.alloc (.cells wordsV 9)).heap.size := by simp
  clear hs
  generalize lineB s = b3 at hb HV0
  go_enter Tryz.func48, Tryz.ntmps48
  go_wp2_with fail
  refine H1.out.mono ?_
  rintro e w1 ⟨rfl, rfl⟩
  obtain ⟨wq, hwq⟩ : ∃ wq, wq = w.alloc (.cells wordsV 9) := ⟨_, rfl⟩
  rw [← hwq] at HC HB hlt0 ⊢
  clear hwq H1
  go_wp2_with fail
  go_loopw [4] (fun i wr => ∃ (n : Nat), n ≤ 22 ∧ i = .int .i64 n ∧ Hid (noWord s n) ∧ wq = wr) (fun i _ => 22 - (intOf i).toNat)
  case atStart => exact ⟨0, by omega, rfl, H0, rfl⟩
  case round =>
    obtain ⟨n, hn, rfl, HX, rfl⟩ := hrel
    by_cases hlt : n < 22
    case neg =>
      have hw : wordB s = false := noWord_end (by rw [← show n = 22 by omega]; exact HX.out)
      rw [hw] at HV0
      clear hw
      generalize speltB s = b1 at H2 HV0
      cases b1
      · go_wp2_with fail
        refine (H2.out _).mono ?_
        rintro e w1 ⟨rfl, rfl⟩
        go_wp2_with fail
        go_ret
        exact ⟨by rw [HV0.out]; rfl, HB.out⟩
      · cases b3
        all_goals
          go_wp2_with fail
          refine (H2.out _).mono ?_
          rintro e w1 ⟨rfl, rfl⟩
          go_wp2_with fail
          go_ret
          exact ⟨by rw [HV0.out]; simp, HB.out⟩
    case pos =>
      have hc := HC.out n hlt
      cases e : isT s (wordAt n)
      · have HX2 := Lib.hid (noWord_step HX.out hlt e)
        have t1 : ((wordAt n).toList == s.toList) = false := by rw [isT_comm] at e; exact e
        clear e
        generalize wordAt n = x at hc t1
        go_wp2_with fail
        go_roundw
        case rel => exact ⟨n + 1, hlt, by go_num, HX2, trivial⟩
        case measure => simp [intOf]; omega
      · have HV : Hid (nameB s = false) := Lib.hid (by rw [HV0.out, noWord_hit HX.out hlt e]; simp)
        have t1 : ((wordAt n).toList == s.toList) = true := by rw [isT_comm] at e; exact e
        clear e
        generalize wordAt n = x at hc t1
        go_wp2_with fail
        go_ret
        exact ⟨by rw [HV.out]; rfl, HB.out⟩
end Go.Proofs.YtmjchmamkjbgkaaGreatDoor

/- ScRefCheck -/
namespace Go.Proofs.YtmjchmamkjbgkaaGreatDoor
open Go.RowKit
set_option linter.unusedVariables false

theorem noKind_low {k : Int} (h : k < 1) : noKind k = true := by unfold noKind; rw [decide_eq_false (by omega)]; rfl
theorem noKind_high {k : Int} (h : 3 < k) : noKind k = true := by unfold noKind; rw [decide_eq_false (by omega)]; rfl
theorem noKind_in {k : Int} (h : ¬ k < 1) (h2 : ¬ 3 < k) : noKind k = false := by unfold noKind; rw [decide_eq_true (by omega)]; rfl

set_option maxHeartbeats 4000000 in
set_option maxRecDepth 100000 in
theorem refCheck_calls (a : Option Addr) (len cap : Nat) (L : List Dc) (w : World) (h : DIn w a len L) :
    Calls Tryz.prog 28 #[.slice a len cap] w fun e w' => e = .returned (.tuple #[.int .i64 (checkL L).2, .int .i64 (checkL L).1]) ∧ Below w.heap.size w w' := by
  have HL := Lib.hid h.leng
  have hsm := h.small
  by_cases h32 : 32 < len
  · have HV : Hid (checkL L = (32, 14)) := Lib.hid (check_long (by rw [HL.out]; exact h32))
    have t1 : decide ((32 : Int) < (len : Int)) = true := by simp; omega
    clear h h32
    go_enter Tryz.func28, Tryz.ntmps28
    go_wp2_with fail
    go_ret2
    exact ⟨by rw [HV.out]; rfl, Below.refl _ _⟩
  have t1 : decide ((32 : Int) < (len : Int)) = false := by simp; omega
  have H32 := Lib.hid h32
  have HD := Lib.hid h
  have H0 := Lib.hid (noneTo_zero (fun n => wrongAt L n != 0))
  have HN := Lib.hid (fun y w1 hs => refName_calls y w1 hs)
  clear h h32
  go_enter Tryz.func28, Tryz.ntmps28
  go_wp2_with fail
  go_loopw [4] (fun i wr => ∃ (n : Nat), n ≤ len ∧ i = .int .i64 n ∧ Hid (noneTo (fun n => wrongAt L n != 0) n) ∧ Hid (Below w.heap.size w wr)) (fun i _ => len - (intOf i).toNat)
  case atStart => exact ⟨0, Nat.zero_le _, rfl, H0, Lib.hid (Below.refl _ _)⟩
  case round =>
    obtain ⟨n, hn, rfl, HX, HB⟩ := hrel
    by_cases hlt : n < len
    case neg =>
      have HV : Hid (checkL L = (-1, 0)) := Lib.hid (check_none (by rw [HL.out]; exact H32.out) (by rw [HL.out, ← show n = len by omega]; exact HX.out))
      go_wp2_with fail
      go_ret2
      exact ⟨by rw [HV.out]; rfl, HB.out⟩
    case pos =>
      have HLn : Hid (n < L.length) := Lib.hid (by rw [HL.out]; exact hlt)
      obtain ⟨g, off, b, c, rfl, hg, h1, h2, h3, h4⟩ := (HD.out.below HB.out).at' n hlt
      have HA : Hid (∀ e, wrongAt L n = e → e ≠ 0 → checkL L = ((n : Int), e)) := Lib.hid (fun e he h0 => by rw [check_at (by rw [HL.out]; exact H32.out) HLn.out HX.out (by rw [he]; exact h0), he])
      have H1 := Lib.hid (HN.out (nmAt L n) wr h4)
      have HS := Lib.hid (noneTo_step HX.out)
      obtain ⟨y, hy⟩ : ∃ y, y = nmAt L n := ⟨_, rfl⟩
      have HY := Lib.hid hy
      have HR := Lib.hid (twice_ref HLn.out)
      have HR2 : Hid (decide (findR L y < (n : Int)) = findB (L.take n) (nmAt L n)) := Lib.hid (by rw [hy]; exact HR.out)
      rw [← hy] at h1 H1
      have hh1 := Lib.hid h1
      have hh2 := Lib.hid h2
      have hh3 := Lib.hid h3
      have hg1 := hg
      clear h2 h3 h4 hy
      cases e1 : nameB (nmAt L n)
      case false =>
        have HV := Lib.hid (HA.out 11 (wrong_name e1) (by decide))
        rw [HY.out, e1] at H1
        rw [← HY.out] at H1
        clear e1
        go_wp2_with fail
        refine H1.out.mono ?_
        rintro e w3 ⟨rfl, k3⟩
        have HB3 := Lib.hid (HB.out.trans (k3.mono HB.out.size))
        clear k3
        go_wp2_with fail
        go_ret2
        exact ⟨by rw [HV.out]; rfl, HB3.out⟩
      case true =>
        rw [HY.out, e1] at H1
        rw [← HY.out] at H1
        go_wp2_with fail
        refine H1.out.mono ?_
        rintro e w3 ⟨rfl, k3⟩
        have HB3 := Lib.hid (HB.out.trans (k3.mono HB.out.size))
        have h1' := (k3.cell (p := ⟨g, off + n * 2, none⟩) hg).trans hh1.out
        have h2' := (k3.cell (p := ⟨g, off + n * 2 + 1, none⟩) hg).trans hh2.out
        have HKI := Lib.hid (hh3.out.below k3)
        have H2 := Lib.hid (refFind_calls (some ⟨g, off, none⟩) len cap L y w3 (HD.out.below HB3.out))
        clear k3 h1 hh1 hh2 hh3 H1
        generalize findR L y = fi at H2 HR2
        cases e2 : findB (L.take n) (nmAt L n)
        case true =>
          have HV := Lib.hid (HA.out 10 (wrong_twice e1 e2) (by decide))
          have t2 : decide (fi < (n : Int)) = true := HR2.out.trans e2
          clear e1 e2 HR2
          go_wp2_with fail
          refine H2.out.mono ?_
          rintro e w4 ⟨rfl, hw4⟩
          subst hw4
          go_wp2_with fail
          go_ret2
          exact ⟨by rw [HV.out]; rfl, HB3.out⟩
        case false =>
          have t2 : decide (fi < (n : Int)) = false := HR2.out.trans e2
          have hks := HKI.out.small
          have HKL := Lib.hid HKI.out.leng
          have HW14 : Hid (8 < (ksAt L n).length → wrongAt L n = 14) := Lib.hid (fun h => wrong_many e1 e2 h)
          have HW8 : Hid (¬ 8 < (ksAt L n).length → (ksAt L n).any noKind = true → wrongAt L n = 8) := Lib.hid (fun h h' => wrong_kind e1 e2 h h')
          have HW0 : Hid (¬ 8 < (ksAt L n).length → (ksAt L n).any noKind = false → wrongAt L n = 0) := Lib.hid (fun h h' => wrong_not e1 e2 h h')
          clear e1 e2 HR2
          generalize ksAt L n = V at h2' HKI hks HKL HW14 HW8 HW0
          generalize hm : V.length = m at h2' HKI hks HW14 HW8 HW0
          clear hm
          by_cases h8 : 8 < m
          · have HV := Lib.hid (HA.out 14 (HW14.out h8) (by decide))
            have t3 : decide ((8 : Int) < (m : Int)) = true := by simp; omega
            clear h8
            go_wp2_with fail
            refine H2.out.mono ?_
            rintro e w4 ⟨rfl, hw4⟩
            subst hw4
            go_wp2_with fail
            go_ret2
            exact ⟨by rw [HV.out]; rfl, HB3.out⟩
          · have t3 : decide ((8 : Int) < (m : Int)) = false := by simp; omega
            have H8 := Lib.hid h8
            clear h8
            go_wp2_with fail
            refine H2.out.mono ?_
            rintro e w4 ⟨rfl, hw4⟩
            subst hw4
            go_wp2_with fail
            go_loopw [5] (fun j wq => ∃ (k : Nat), k ≤ m ∧ j = .int .i64 k ∧ Hid (V.any noKind = (V.drop k).any noKind) ∧ w3 = wq) (fun j _ => m - (intOf j).toNat)
            case atStart => exact ⟨0, Nat.zero_le _, rfl, Lib.hid rfl, rfl⟩
            case round =>
              obtain ⟨k, hk, rfl, HP, rfl⟩ := hrel
              by_cases hkm : k < m
              case neg =>
                have HX2 := Lib.hid (HS.out (by rw [HW0.out H8.out (by rw [HP.out, List.drop_eq_nil_iff.2 (by rw [HKI.out.leng]; omega)]; rfl)]; rfl))
                go_wp2_with fail
                go_roundw
                case rel => exact ⟨n + 1, hlt, by go_num, HX2, HB3⟩
                case measure => simp [intOf]; omega
              case pos =>
                obtain ⟨g2, off2, rfl, hg2, hc⟩ := HKI.out.at' k hkm
                have HDr := Lib.hid (KIn.drop_at V k (by rw [HKI.out.leng]; exact hkm))
                generalize V.getD k 0 = x at hc HDr
                have HYes : Hid (noKind x = true → checkL L = ((n : Int), 8)) := Lib.hid (fun e => HA.out 8 (HW8.out H8.out (by rw [HP.out, HDr.out, List.any_cons, e]; rfl)) (by decide))
                have HNo : Hid (noKind x = false → V.any noKind = (V.drop (k + 1)).any noKind) := Lib.hid (fun e => by rw [HP.out, HDr.out, List.any_cons, e]; rfl)
                by_cases hx1 : x < 1
                · have HV := Lib.hid (HYes.out (noKind_low hx1))
                  have t4 : decide (x < 1) = true := by simp; omega
                  clear hx1
                  go_wp2_with fail
                  go_ret2
                  exact ⟨by rw [HV.out]; rfl, HB3.out⟩
                · by_cases hx2 : 3 < x
                  · have HV := Lib.hid (HYes.out (noKind_high hx2))
                    have t4 : decide (x < 1) = false := by simp; omega
                    have t5 : decide (3 < x) = true := by simp; omega
                    clear hx1 hx2
                    go_wp2_with fail
                    go_ret2
                    exact ⟨by rw [HV.out]; rfl, HB3.out⟩
                  · have HP2 := Lib.hid (HNo.out (noKind_in hx1 hx2))
                    have t4 : decide (x < 1) = false := by simp; omega
                    have t5 : decide (3 < x) = false := by simp; omega
                    clear hx1 hx2
                    go_wp2_with fail
                    go_roundw
                    case rel => exact ⟨k + 1, hkm, by go_num, HP2, trivial⟩
                    case measure => simp [intOf]; omega
end Go.Proofs.YtmjchmamkjbgkaaGreatDoor

/- ScOpen -/
namespace Go.Proofs.YtmjchmamkjbgkaaGreatDoor
open Go.ChangeShapes Go.WideShapes Go.ChangeAt Go.RowKit Go.Deep
set_option linter.unusedVariables false

theorem sc_cells1 : Tryz.prog.cellsOf 9 = 1 := by kernel_rfl
theorem sc_cells2 : Tryz.prog.cellsOf 66 = 1 := by kernel_rfl
theorem sc_cellsD : Tryz.prog.cellsOf 68 = 2 := by kernel_rfl
theorem sc_add (g off n : Nat) : (⟨g, off, none⟩ : Addr).add n = ⟨g, off + n, none⟩ := by unfold Addr.add; split <;> simp_all
set_option maxRecDepth 100000 in
theorem open_kinds {H : Type} {enc : TypeId × Value → H} {W : World} {fuel : Nat} {cs : List Value} {x : DataW H × List MemPlace}
    (h : DataW.trod enc Tryz.prog W 0 (fun _ => true) true fuel 66 cs = some x) : ∃ b V c, cs = [.slice b V.length c] ∧ KIn W b V.length V := by
  rcases open_ints Tryz.underlying66 Tryz.underlying3 (by kernel_rfl) h with ⟨hcs, _⟩ | ⟨ad, l, c, zs, hcs, _, hl, hm, hz, _, hcell, _⟩
  · exact ⟨none, [], 0, hcs, rfl, by simp, fun n hn => by simp at hn⟩
  · simp only [if_true] at hz
    have hlen : (zs.take l).length = l := by rw [List.length_take]; omega
    refine ⟨some ad, zs.take l, c, by rw [hlen]; exact hcs, rfl, by rw [hlen]; unfold maxLen at hm; omega, fun n hn => ?_⟩
    rw [hlen] at hn
    obtain ⟨g, off, spot⟩ := ad
    have hc0 := hcell 0 (by omega)
    have hspot : spot = none := by simpa [Addr.add] using World.cell?_spot hc0
    subst hspot
    have hcn := hcell n (by omega)
    rw [sc_add] at hcn
    refine ⟨g, off, rfl, block_lt_of_cell hcn, ?_⟩
    rw [hcn]
    simp [List.getD, hn]
theorem two_ofD {α : Type} : ∀ {l : List α}, l.length = 2 → ∃ a b, l = [a, b]
  | [a, b], _ => ⟨a, b, rfl⟩
set_option maxRecDepth 100000 in
theorem open_decl {H : Type} {enc : TypeId × Value → H} {W : World} {fuel : Nat} {cs : List Value} {x : DataW H × List MemPlace}
    (h : DataW.trod enc Tryz.prog W 0 (fun _ => true) true fuel 68 cs = some x) : ∃ (y : ByteArray) (b : Option Addr) (V : List Int) (c : Nat), cs = [.string y, .slice b V.length c] ∧ KIn W b V.length V ∧ y.size ≤ 9223372036854775807 := by
  obtain ⟨y0, y1, n, hx, hlen, h0, h1⟩ := trod_struct2 Tryz.underlying68 h
  rw [sc_cellsD] at hlen
  obtain ⟨u, v, rfl⟩ := two_ofD hlen
  simp [sc_cells1, sc_cells2] at h0 h1
  obtain ⟨s, e0, _, hs⟩ := DataW.trod_string Tryz.underlying9 h0
  obtain ⟨b, V, c, e1, hk⟩ := open_kinds h1
  simp at e0 e1
  exact ⟨s, b, V, c, by rw [e0, e1], hk, by unfold maxLen at hs; omega⟩
set_option maxRecDepth 100000 in
theorem open_din {H : Type} {enc : TypeId × Value → H} {W : World} {a : Option Addr} {len cap : Nat} {d : DataW H} {p : List MemPlace}
    (h : DataW.Trod enc Tryz.prog W 0 (fun _ => true) true 22 (.slice a len cap) d p) : ∃ L, DIn W a len L ∧ len ≤ cap ∧ cap ≤ 9223372036854775807 := by
  obtain ⟨fuel, hf⟩ := h
  rcases open_slice Tryz.underlying22 hf with ⟨hcs, _⟩ | ⟨x, l, c, m, n, D, Pl, hcs, _, hl, hm, hmm, _, hi⟩
  · simp [Value.cells] at hcs
    obtain ⟨rfl, rfl, rfl⟩ := hcs
    exact ⟨[], ⟨rfl, by omega, fun n hn => by omega⟩, by omega, by omega⟩
  · simp [Value.cells] at hcs
    obtain ⟨rfl, rfl, rfl⟩ := hcs
    simp only [if_true] at hmm
    subst hmm
    rw [sc_cellsD] at hi
    have key : ∀ j, ∃ z : (ByteArray × List Int) × Option Addr × Nat, j < len → (W.cell? ((x.add (j * 2)).add 0) = some (.string z.1.1) ∧ W.cell? ((x.add (j * 2)).add 1) = some (.slice z.2.1 z.1.2.length z.2.2) ∧ KIn W z.2.1 z.1.2.length z.1.2 ∧ z.1.1.size ≤ 9223372036854775807) := by
      intro j
      by_cases hj : j < len
      · obtain ⟨cs', hc, ht⟩ := hi j (by omega)
        obtain ⟨y, b, V, c, rfl, hk, hs⟩ := open_decl ht
        obtain ⟨_, _, hat⟩ := World.cells?_some hc
        exact ⟨((y, V), b, c), fun _ => ⟨hat 0 (by omega), hat 1 (by omega), hk, hs⟩⟩
      · exact ⟨((⟨#[]⟩, []), none, 0), fun h => absurd h hj⟩
    obtain ⟨f, hf⟩ : ∃ f : Nat → (ByteArray × List Int) × Option Addr × Nat, ∀ j, j < len → (W.cell? ((x.add (j * 2)).add 0) = some (.string (f j).1.1) ∧ W.cell? ((x.add (j * 2)).add 1) = some (.slice (f j).2.1 (f j).1.2.length (f j).2.2) ∧ KIn W (f j).2.1 (f j).1.2.length (f j).1.2 ∧ (f j).1.1.size ≤ 9223372036854775807) :=
      ⟨fun j => (key j).choose, fun j hj => (key j).choose_spec hj⟩
    refine ⟨(List.range len).map (fun j => (f j).1), ⟨by simp, by unfold maxLen at hm; omega, fun n hn => ?_⟩, hl, by unfold maxLen at hm; omega⟩
    obtain ⟨g, off, spot⟩ := x
    have hc0 := (hf 0 (by omega)).1
    have hspot : spot = none := by simpa [Addr.add] using World.cell?_spot hc0
    subst hspot
    obtain ⟨h1, h2, h3, h4⟩ := hf n hn
    simp only [sc_add, Nat.add_zero] at h1 h2
    have e : ((List.range len).map (fun j => (f j).1)).getD n default = (f n).1 := by simp [List.getD, hn]
    rw [nmAt, ksAt, e]
    exact ⟨g, off, (f n).2.1, (f n).2.2, rfl, block_lt_of_cell h1, h1, h2, h3, h4⟩
end Go.Proofs.YtmjchmamkjbgkaaGreatDoor
