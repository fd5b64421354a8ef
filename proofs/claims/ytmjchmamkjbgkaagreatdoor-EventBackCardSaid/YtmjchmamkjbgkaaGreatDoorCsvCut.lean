/- What strings.ReplaceAll makes of quotes; and the fields that package csv cuts. -/
import Derived.Test.YtmjchmamkjbgkaaGreatDoorCsvSmall
import Derived.Test.YtmjchmamkjbgkaaGreatDoorShelfRepl
import Derived.Lib.ReplaceLaws
import Derived.Deep.RegionHeld3
namespace Go.Proofs.YtmjchmamkjbgkaaGreatDoor
open Go.RowKit
set_option linter.unusedVariables false

theorem unq_replaceK : ∀ l : List UInt8, Lib.replaceK [34, 34] [34] (Lib.count l [34, 34]) l = unqL l
  | [] => by
    rw [Lib.count_miss (by rfl)]; rfl
  | [c] => by
    rw [Lib.count_miss (by simp [Lib.index, List.isPrefixOf])]; rfl
  | c :: d :: r => by
    by_cases h2 : c = 34 ∧ d = 34
    · obtain ⟨rfl, rfl⟩ := h2
      have ih := unq_replaceK r
      have h0 : Lib.index (34 :: 34 :: r) [34, 34] = ((0 : Nat) : Int) := by simp [Lib.index]
      rw [Lib.count_hit (by simp) h0, Nat.add_comm, Lib.replaceK_hit _ _ _ _ 0 h0, unqL_two]
      simp
      exact ih
    · have ih := unq_replaceK (d :: r)
      rw [unqL, if_neg h2]
      have hp : ¬ (List.isPrefixOf [34, 34] (c :: d :: r)) = true := by
        simp [List.isPrefixOf]
        exact fun e1 e2 => h2 ⟨e1.symm, e2.symm⟩
      by_cases hm : Lib.index (d :: r) [34, 34] = -1
      · have h1 : Lib.index (c :: d :: r) [34, 34] = -1 := by rw [Lib.index, if_neg hp, if_pos (by rw [hm]; rfl)]
        rw [Lib.count_miss hm] at ih
        rw [Lib.count_miss h1, Lib.replaceK]
        rw [Lib.replaceK] at ih
        rw [← ih]
      · have hge := Lib.index_ge (d :: r) [34, 34]
        obtain ⟨i, hi⟩ : ∃ i : Nat, Lib.index (d :: r) [34, 34] = i := ⟨(Lib.index (d :: r) [34, 34]).toNat, by omega⟩
        have h1 : Lib.index (c :: d :: r) [34, 34] = ((i + 1 : Nat) : Int) := by
          rw [Lib.index, if_neg hp, if_neg (by rw [hi]; simp), hi]; rfl
        rw [Lib.count_hit (by simp) hi, Nat.add_comm, Lib.replaceK_hit _ _ _ _ i hi] at ih
        rw [Lib.count_hit (by simp) h1, Nat.add_comm, Lib.replaceK_hit _ _ _ _ (i + 1) h1]
        rw [show (c :: d :: r).drop (i + 1 + [(34 : UInt8), 34].length) = (d :: r).drop (i + [(34 : UInt8), 34].length) by rw [Nat.add_right_comm]; rfl, List.take_succ_cons]
        rw [← ih]
        simp
theorem unq_replace (l : List UInt8) : Lib.replaceAll l [34, 34] [34] = unqL l := by
  have h : ([(34 : UInt8), 34] == [34]) = false := by decide
  rw [Lib.replaceAll, Lib.replace, if_neg (by rw [h]; simp), Lib.replaceNum, if_pos (.inl (by decide)), unq_replaceK]
theorem ib_none : ∀ {l : List UInt8} {c : UInt8}, Lib.indexByte l c = -1 → c ∉ l
  | [], c, _ => by simp
  | d :: l, c, h => by
    rw [Lib.indexByte] at h
    by_cases hd : (d == c) = true
    · rw [if_pos hd] at h; omega
    · rw [if_neg hd] at h
      by_cases hm : (Lib.indexByte l c == -1) = true
      · have := ib_none (beq_iff_eq.1 hm)
        intro hc
        rcases List.mem_cons.1 hc with e | e
        · exact hd (beq_iff_eq.2 e.symm)
        · exact this e
      · rw [if_neg hm] at h
        have := Lib.indexByte_ge l c
        omega
theorem ib_some : ∀ {l : List UInt8} {c : UInt8} {i : Nat}, Lib.indexByte l c = i → ∃ a r, l = a ++ c :: r ∧ a.length = i ∧ c ∉ a
  | [], c, i, h => by rw [Lib.indexByte] at h; omega
  | d :: l, c, i, h => by
    rw [Lib.indexByte] at h
    by_cases hd : (d == c) = true
    · rw [if_pos hd] at h
      have : i = 0 := by omega
      subst this
      exact ⟨[], l, by rw [beq_iff_eq.1 hd]; rfl, rfl, by simp⟩
    · rw [if_neg hd] at h
      by_cases hm : (Lib.indexByte l c == -1) = true
      · rw [if_pos hm] at h; omega
      · rw [if_neg hm] at h
        obtain ⟨j, hj⟩ : ∃ j : Nat, Lib.indexByte l c = j := ⟨(Lib.indexByte l c).toNat, by
          have := Lib.indexByte_ge l c
          have : Lib.indexByte l c ≠ -1 := fun e => hm (beq_iff_eq.2 e)
          omega⟩
        obtain ⟨a, r, e1, e2, e3⟩ := ib_some hj
        refine ⟨d :: a, r, by rw [e1]; rfl, by simp; omega, fun hc => ?_⟩
        rcases List.mem_cons.1 hc with e | e
        · exact hd (beq_iff_eq.2 e.symm)
        · exact e3 e
theorem cs_mid (s : ByteArray) (a b : Nat) : (s.extract a b).data.toList = (s.data.toList.drop a).take (b - a) := by
  rw [ByteArray.data_extract]
  simp

/-- The library's own number, whatever it holds. -/
def MaxC (w : World) : Prop := ∃ m, w.cell? ⟨3, 0, none⟩ = some (.int .i64 m)
theorem MaxC.below {w w' : World} (h : MaxC w) (hb : Below w.heap.size w w') : MaxC w' := by
  obtain ⟨m, hm⟩ := h
  exact ⟨m, (hb.cell (p := ⟨3, 0, none⟩) (block_lt_of_cell hm)).trans hm⟩
theorem MaxC.drew {w : World} (h : MaxC w) : MaxC w.drew := h
theorem csUnq_calls (s : ByteArray) (w : World) (hs : s.size ≤ 4000000) (hm : MaxC w) :
    Calls Tryz.prog 87 #[.string s, .string ⟨#[34, 34]⟩, .string ⟨#[34]⟩] w fun e w' => e = .returned (.string ⟨(unqL s.data.toList).toArray⟩) ∧ Below w.heap.size w w' := by
  obtain ⟨m, hm⟩ := hm
  have hc := Lib.count_le s.data.toList [34, 34]
  have hl := cs_size s
  refine (Tryz.strings_ReplaceAll s ⟨#[34, 34]⟩ ⟨#[34]⟩ m w (by omega) hm (by decide) ?_).mono ?_
  · show s.size + Lib.count s.data.toList [34, 34] * 1 ≤ _
    omega
  · rintro e w' ⟨rfl, hb⟩
    refine ⟨?_, hb⟩
    rw [show (⟨#[34, 34]⟩ : ByteArray).data.toList = [34, 34] from rfl, show (⟨#[34]⟩ : ByteArray).data.toList = [34] from rfl, unq_replace]
theorem idx_calls (s : ByteArray) (w : World) : Calls Tryz.prog 120 #[.string s, .string ⟨#[34]⟩] w fun e w' => e = .returned (.int .i64 (Lib.indexByte s.data.toList 34)) ∧ w = w' := by
  refine (Tryz.strings_Index_one s 34 w).mono ?_
  rintro e w' ⟨rfl, rfl⟩
  exact ⟨rfl, rfl⟩

/-- What a call that cuts a field hands back. -/
def cutV : Except Nat (List UInt8 × List UInt8) → Value
  | .error e => .tuple #[.string ⟨#[]⟩, .string ⟨#[]⟩, .iface 30 (.int .i64 (e : Nat))]
  | .ok (f, r) => .tuple #[.string ⟨f.toArray⟩, .string ⟨r.toArray⟩, .nilIface]
/-- The field at the beginning, whatever stands behind it. -/
def cutF (l : List UInt8) : Except Nat (List UInt8 × List UInt8) :=
  match fieldF l with
  | none => .error 17
  | some (f, n) => .ok (f, l.drop n)

set_option maxHeartbeats 1000000 in
theorem cutPlain_calls (s : ByteArray) (w : World) (hs : s.size ≤ 4000000) (h34 : s.data.toList.head? ≠ some 34) :
    Calls Tryz.prog 105 #[.string s] w fun e w' => e = .returned (cutV (cutF s.data.toList)) ∧ Below w.heap.size w w' := by
  have hn := plSize_le s.data.toList
  rw [← cs_size] at hn
  have HF : Hid (fieldF s.data.toList = if (s.data.toList.drop (plSize s.data.toList)).head? = some 34 then none else some (s.data.toList.take (plSize s.data.toList), plSize s.data.toList)) := Lib.hid (by rw [fieldF, if_neg h34])
  have H0 := Lib.hid (fun w1 => plainSize_calls s w1 (by omega))
  obtain ⟨n, hnn⟩ : ∃ n, n = plSize s.data.toList := ⟨_, rfl⟩
  rw [← hnn] at hn HF H0
  have H1 := Lib.hid (fun w1 => pre_calls1 (s.extract n s.size) 34 w1)
  rw [cs_drop] at H1
  have HB := Lib.hid (Below.refl w.heap.size w)
  clear h34 hnn
  by_cases h : (s.data.toList.drop n).head? = some 34
  · have HV : Hid (cutV (cutF s.data.toList) = .tuple #[.string ⟨#[]⟩, .string ⟨#[]⟩, .iface 30 (.int .i64 17)]) := Lib.hid (by rw [cutF, HF.out, if_pos h]; rfl)
    rw [show ((s.data.toList.drop n).head? == some 34) = true from beq_iff_eq.2 h] at H1
    clear h
    go_enter Tryz.func105, Tryz.ntmps105
    go_wp2_with fail
    refine (H0.out _).mono ?_
    rintro e w1 ⟨rfl, rfl⟩
    go_wp2_with fail
    refine (H1.out _).mono ?_
    rintro e w1 ⟨rfl, rfl⟩
    go_wp2_with fail
    go_ret3
    exact ⟨by rw [HV.out]; rfl, HB.out⟩
  · have HV : Hid (cutV (cutF s.data.toList) = .tuple #[.string (s.extract 0 n), .string (s.extract n s.size), .nilIface]) := Lib.hid (by
      rw [cutF, HF.out, if_neg h, cs_of (cs_take s n), cs_of (cs_drop s n)]; rfl)
    rw [show ((s.data.toList.drop n).head? == some 34) = false from beq_eq_false_iff_ne.2 h] at H1
    clear h
    go_enter Tryz.func105, Tryz.ntmps105
    go_wp2_with fail
    refine (H0.out _).mono ?_
    rintro e w1 ⟨rfl, rfl⟩
    go_wp2_with fail
    refine (H1.out _).mono ?_
    rintro e w1 ⟨rfl, rfl⟩
    go_wp2_with fail
    go_region
    all_goals (go_wp2_with fail)
    all_goals go_ret3
    all_goals exact ⟨by rw [HV.out]; rfl, HB.out.drew⟩

set_option maxHeartbeats 2000000 in
theorem cutQuoted_calls (s : ByteArray) (w : World) (hs : s.size ≤ 4000000) (h34 : s.data.toList.head? = some 34) (hm : MaxC w) :
    Calls Tryz.prog 107 #[.string s] w fun e w' => e = .returned (cutV (cutF s.data.toList)) ∧ Below w.heap.size w w' := by
  have h1s : 1 ≤ s.size := by
    rw [cs_size]
    cases e : s.data.toList with
    | nil => rw [e] at h34; cases h34
    | cons c r => simp
  have HF : Hid (fieldF s.data.toList = (endQ (s.data.toList.drop 1)).map fun n => (unqL ((s.data.toList.drop 1).take n), n + 2)) := Lib.hid (by rw [fieldF, if_pos h34])
  have HM := Lib.hid hm
  have HI := Lib.hid (fun t w1 => idx_calls t w1)
  have HP := Lib.hid (fun t w1 => pre_calls2 t 34 34 w1)
  have HU := Lib.hid (fun t (h : t.size ≤ 4000000) w1 (hm1 : MaxC w1) => csUnq_calls t w1 h hm1)
  have HB := Lib.hid (Below.refl w.heap.size w)
  clear h34 hm
  go_enter Tryz.func107, Tryz.ntmps107
  go_wp2_with fail
  go_loopw [5] (fun i wr => ∃ (n : Nat), 1 ≤ n ∧ n ≤ s.size ∧ i = .int .i64 n ∧ Hid (endQ (s.data.toList.drop 1) = (endQ (s.data.toList.drop n)).map (· + (n - 1))) ∧ w = wr) (fun i _ => s.size - (intOf i).toNat)
  case atStart => exact ⟨1, Nat.le_refl _, h1s, rfl, Lib.hid (by cases endQ (s.data.toList.drop 1) <;> rfl), rfl⟩
  case round =>
    obtain ⟨n, h1n, hn, rfl, HX, rfl⟩ := hrel
    have H1 := Lib.hid (fun w1 => HI.out (s.extract n s.size) w1)
    rw [cs_drop] at H1
    have hge := Lib.indexByte_ge (s.data.toList.drop n) 34
    by_cases hno : Lib.indexByte (s.data.toList.drop n) 34 = -1
    case pos =>
      have HV : Hid (cutV (cutF s.data.toList) = .tuple #[.string ⟨#[]⟩, .string ⟨#[]⟩, .iface 30 (.int .i64 17)]) := Lib.hid (by rw [cutF, HF.out, HX.out, endQ_none (ib_none hno)]; rfl)
      rw [hno] at H1
      clear hno hge
      go_wp2_with fail
      refine (H1.out _).mono ?_
      rintro e w1 ⟨rfl, rfl⟩
      go_wp2_with fail
      go_ret3
      exact ⟨by rw [HV.out]; rfl, HB.out⟩
    case neg =>
      obtain ⟨i, hi⟩ : ∃ i : Nat, Lib.indexByte (s.data.toList.drop n) 34 = i := ⟨(Lib.indexByte (s.data.toList.drop n) 34).toNat, by omega⟩
      obtain ⟨a, r, e1, e2, e3⟩ := ib_some hi
      have hlen : n + i + 1 ≤ s.size := by
        have := congrArg List.length e1
        rw [List.length_drop, ← cs_size] at this
        simp at this
        omega
      have hr : s.data.toList.drop (n + i) = 34 :: r := by
        rw [← List.drop_drop, e1, ← e2]; simp
      have HX2 : Hid (endQ (s.data.toList.drop 1) = (endQ (34 :: r)).map (· + (n + i - 1))) := Lib.hid (by
        rw [HX.out, e1, endQ_skip a _ e3, e2, Option.map_map]
        congr 1
        funext x
        simp; omega)
      have H2 := Lib.hid (fun w1 => HP.out (s.extract (n + i) s.size) w1)
      rw [cs_drop, hr] at H2
      rw [hi] at H1
      clear hno hge e1 e2 e3 HX
      by_cases hp : r.head? = some 34
      · obtain ⟨r2, rfl⟩ : ∃ r2, r = 34 :: r2 := by
          cases r with
          | nil => cases hp
          | cons c r => simp at hp; exact ⟨r, by rw [hp]⟩
        have hlen2 : n + i + 2 ≤ s.size := by
          have := congrArg List.length hr
          rw [List.length_drop, ← cs_size] at this
          simp at this
          omega
        have HX3 : Hid (endQ (s.data.toList.drop 1) = (endQ (s.data.toList.drop (n + i + 2))).map (· + (n + i + 2 - 1))) := Lib.hid (by
          rw [HX2.out, endQ_two, ← List.drop_drop, hr, Option.map_map]
          congr 1
          funext x
          simp; omega)
        rw [show ([34, 34].isPrefixOf (34 :: 34 :: r2)) = true by simp [List.isPrefixOf]] at H2
        clear hp hr hi
        go_wp2_with fail
        refine (H1.out _).mono ?_
        rintro e w1 ⟨rfl, rfl⟩
        go_wp2_with fail
        refine (H2.out _).mono ?_
        rintro e w1 ⟨rfl, rfl⟩
        go_wp2_with fail
        go_roundw
        case rel => exact ⟨n + i + 2, by omega, hlen2, by go_num, HX3, trivial⟩
        case measure => simp [intOf]; omega
      · have HV : Hid (cutF s.data.toList = .ok (unqL (s.extract 1 (n + i)).data.toList, (s.extract (n + i + 1) s.size).data.toList)) := Lib.hid (by
          rw [cutF, HF.out, HX2.out, endQ_end hp, cs_mid, cs_drop]
          simp
          omega)
        have h5 : (s.extract 1 (n + i)).size ≤ 4000000 := by
          rw [cs_size, cs_mid, List.length_take, List.length_drop, ← cs_size]; omega
        have HU1 := Lib.hid (fun w1 hm1 => HU.out (s.extract 1 (n + i)) h5 w1 hm1)
        obtain ⟨U, hU⟩ : ∃ U, U = unqL (s.extract 1 (n + i)).data.toList := ⟨_, rfl⟩
        rw [← hU] at HU1 HV
        have HV2 : Hid (cutV (cutF s.data.toList) = .tuple #[.string ⟨U.toArray⟩, .string (s.extract (n + i + 1) s.size), .nilIface]) := Lib.hid (by rw [HV.out]; rfl)
        have HT : Hid (((n : Int) + (i : Int) + 1).toNat = n + i + 1) := Lib.hid (by omega)
        clear hU HV
        rw [show ([34, 34].isPrefixOf (34 :: r)) = false by
          cases r with
          | nil => rfl
          | cons c r =>
            have : c ≠ 34 := fun e => hp (by rw [e]; rfl)
            simp [List.isPrefixOf]
            exact fun e => this e.symm] at H2
        clear hp hr hi h5
        go_wp2_with fail
        refine (H1.out _).mono ?_
        rintro e w1 ⟨rfl, rfl⟩
        go_wp2_with fail
        refine (H2.out _).mono ?_
        rintro e w1 ⟨rfl, rfl⟩
        go_wp2_with fail
        have i1 : (1 : Int) ≤ (n : Int) + (i : Int) := by omega
        have i2 : (n : Int) + (i : Int) ≤ (s.size : Int) := by omega
        have i3 : (n : Int) + (i : Int) + 1 ≤ (s.size : Int) := by omega
        have i4 : (0 : Int) ≤ (n : Int) + (i : Int) + 1 := by omega
        have i5 : IntKind.i64.wrap ((n : Int) + (i : Int) + 1) = (n : Int) + (i : Int) + 1 := by rw [IntKind.wrap_i64]; omega
        go_region_held3 (fun w1 => MaxC w1) (first | exact HM.out | exact HM2.out) (first
          | (go_at_call 87; refine (HU1.out _ ?_).mono ?_; assumption; rintro e w4 ⟨rfl, k4⟩; have HM2 := Lib.hid (HM.out.drew.below k4)))
        go_wp2_with fail
        go_ret3
        exact ⟨by rw [HV2.out, ← HT.out]; rfl, HB.out.drew.trans (k4.mono (Nat.le_refl _))⟩
theorem cutF_field {l : List UInt8} : fieldR l = (match cutF l with | .error e => .error e | .ok (f, r) => if 4096 < f.length then .error 3 else if endsF r then .ok (f, r) else .error (if l.head? = some 34 then 17 else 15)) := by
  rw [fieldR, cutF]
  cases fieldF l with
  | none => rfl
  | some x => rfl
theorem cutF_err {l : List UInt8} {e : Nat} (h : cutF l = .error e) : e = 17 := by
  rw [cutF] at h
  split at h
  · cases h; rfl
  · cases h

set_option maxHeartbeats 2000000 in
theorem cutField_calls (s : ByteArray) (w : World) (hs : s.size ≤ 4000000) (hm : MaxC w) :
    Calls Tryz.prog 90 #[.string s] w fun e w' => e = .returned (cutV (fieldR s.data.toList)) ∧ Below w.heap.size w w' := by
  have H1 := Lib.hid (fun w1 => pre_calls1 s 34 w1)
  have HEF := Lib.hid (fun t w1 => endsField_calls t w1)
  by_cases h34 : s.data.toList.head? = some 34
  · have HC := Lib.hid (cutQuoted_calls s w hs h34 hm)
    have HF : Hid (fieldR s.data.toList = (match cutF s.data.toList with | .error e => .error e | .ok (f, r) => if 4096 < f.length then .error 3 else if endsF r then .ok (f, r) else .error 17)) := Lib.hid (by rw [cutF_field, if_pos h34])
    have HER := Lib.hid (fun e (h : cutF s.data.toList = .error e) => cutF_err h)
    rw [show (s.data.toList.head? == some 34) = true from beq_iff_eq.2 h34] at H1
    clear h34 hm
    cases hc : cutF s.data.toList with
    | error e =>
      obtain rfl := HER.out e hc
      rw [hc] at HC HF
      have HV : Hid (cutV (fieldR s.data.toList) = .tuple #[.string ⟨#[]⟩, .string ⟨#[]⟩, .iface 30 (.int .i64 17)]) := Lib.hid (by rw [HF.out]; rfl)
      have HC2 : Hid (Calls Tryz.prog 107 #[.string s] w fun e w' => e = .returned (.tuple #[.string ⟨#[]⟩, .string ⟨#[]⟩, .iface 30 (.int .i64 17)]) ∧ Below w.heap.size w w') := HC
      clear HC hc HER HF
      go_enter Tryz.func90, Tryz.ntmps90
      go_wp2_with fail
      refine (H1.out _).mono ?_
      rintro e w1 ⟨rfl, rfl⟩
      go_wp2_with fail
      refine HC2.out.mono ?_
      rintro e w1 ⟨rfl, k1⟩
      have HB := Lib.hid k1
      clear k1
      go_wp2_with fail
      go_ret3
      exact ⟨by rw [HV.out]; rfl, HB.out⟩
    | ok x =>
      obtain ⟨f, r⟩ := x
      rw [hc] at HC HF
      have HC2 : Hid (Calls Tryz.prog 107 #[.string s] w fun e w' => e = .returned (.tuple #[.string ⟨f.toArray⟩, .string ⟨r.toArray⟩, .nilIface]) ∧ Below w.heap.size w w') := HC
      have H2 := Lib.hid (fun w1 => HEF.out ⟨r.toArray⟩ w1)
      have hfs : (⟨f.toArray⟩ : ByteArray).size = f.length := by rw [cs_size]
      have HF2 : Hid (fieldR s.data.toList = if 4096 < f.length then .error 3 else if endsF r then .ok (f, r) else .error 17) := HF
      rw [show (⟨r.toArray⟩ : ByteArray).data.toList = r from rfl] at H2
      obtain ⟨F, hF⟩ : ∃ F : ByteArray, F = ⟨f.toArray⟩ := ⟨_, rfl⟩
      obtain ⟨R, hR⟩ : ∃ R : ByteArray, R = ⟨r.toArray⟩ := ⟨_, rfl⟩
      rw [← hF, ← hR] at HC2
      rw [← hF] at hfs
      rw [← hR] at H2
      have hFm : F.size = f.length := hfs
      clear HC hc HER HF hfs
      by_cases h4 : 4096 < f.length
      · have HV : Hid (cutV (fieldR s.data.toList) = .tuple #[.string ⟨#[]⟩, .string ⟨#[]⟩, .iface 30 (.int .i64 3)]) := Lib.hid (by rw [HF2.out, if_pos h4]; rfl)
        have t4 : decide ((4096 : Int) < (F.size : Int)) = true := decide_eq_true (by omega)
        clear h4 hFm hF hR
        go_enter Tryz.func90, Tryz.ntmps90
        go_wp2_with fail
        refine (H1.out _).mono ?_
        rintro e w1 ⟨rfl, rfl⟩
        go_wp2_with fail
        refine HC2.out.mono ?_
        rintro e w1 ⟨rfl, k1⟩
        have HB := Lib.hid k1
        clear k1
        go_wp2_with fail
        go_ret3
        exact ⟨by rw [HV.out]; rfl, HB.out⟩
      · have t4 : decide ((4096 : Int) < (F.size : Int)) = false := decide_eq_false (by omega)
        cases he : endsF r
        · have HV : Hid (cutV (fieldR s.data.toList) = .tuple #[.string ⟨#[]⟩, .string ⟨#[]⟩, .iface 30 (.int .i64 17)]) := Lib.hid (by rw [HF2.out, if_neg h4, he]; rfl)
          rw [he] at H2
          clear h4 hFm hF hR he
          go_enter Tryz.func90, Tryz.ntmps90
          go_wp2_with fail
          refine (H1.out _).mono ?_
          rintro e w1 ⟨rfl, rfl⟩
          go_wp2_with fail
          refine HC2.out.mono ?_
          rintro e w1 ⟨rfl, k1⟩
          have HB := Lib.hid k1
          clear k1
          go_wp2_with fail
          refine (H2.out _).mono ?_
          rintro e w2 ⟨rfl, rfl⟩
          go_wp2_with fail
          go_ret3
          exact ⟨by rw [HV.out]; rfl, HB.out⟩
        · have HV : Hid (cutV (fieldR s.data.toList) = .tuple #[.string F, .string R, .nilIface]) := Lib.hid (by rw [HF2.out, if_neg h4, he, hF, hR]; rfl)
          rw [he] at H2
          clear h4 hFm hF hR he
          go_enter Tryz.func90, Tryz.ntmps90
          go_wp2_with fail
          refine (H1.out _).mono ?_
          rintro e w1 ⟨rfl, rfl⟩
          go_wp2_with fail
          refine HC2.out.mono ?_
          rintro e w1 ⟨rfl, k1⟩
          have HB := Lib.hid k1
          clear k1
          go_wp2_with fail
          refine (H2.out _).mono ?_
          rintro e w2 ⟨rfl, rfl⟩
          go_wp2_with fail
          go_ret3
          exact ⟨by rw [HV.out]; rfl, HB.out⟩
  · have HC := Lib.hid (cutPlain_calls s w hs h34)
    have HF : Hid (fieldR s.data.toList = (match cutF s.data.toList with | .error e => .error e | .ok (f, r) => if 4096 < f.length then .error 3 else if endsF r then .ok (f, r) else .error 15)) := Lib.hid (by rw [cutF_field, if_neg h34])
    have HER := Lib.hid (fun e (h : cutF s.data.toList = .error e) => cutF_err h)
    rw [show (s.data.toList.head? == some 34) = false from beq_eq_false_iff_ne.2 h34] at H1
    clear h34 hm
    cases hc : cutF s.data.toList with
    | error e =>
      obtain rfl := HER.out e hc
      rw [hc] at HC HF
      have HV : Hid (cutV (fieldR s.data.toList) = .tuple #[.string ⟨#[]⟩, .string ⟨#[]⟩, .iface 30 (.int .i64 17)]) := Lib.hid (by rw [HF.out]; rfl)
      have HC2 : Hid (Calls Tryz.prog 105 #[.string s] w fun e w' => e = .returned (.tuple #[.string ⟨#[]⟩, .string ⟨#[]⟩, .iface 30 (.int .i64 17)]) ∧ Below w.heap.size w w') := HC
      clear HC hc HER HF
      go_enter Tryz.func90, Tryz.ntmps90
      go_wp2_with fail
      refine (H1.out _).mono ?_
      rintro e w1 ⟨rfl, rfl⟩
      go_wp2_with fail
      refine HC2.out.mono ?_
      rintro e w1 ⟨rfl, k1⟩
      have HB := Lib.hid k1
      clear k1
      go_wp2_with fail
      go_ret3
      exact ⟨by rw [HV.out]; rfl, HB.out⟩
    | ok x =>
      obtain ⟨f, r⟩ := x
      rw [hc] at HC HF
      have HC2 : Hid (Calls Tryz.prog 105 #[.string s] w fun e w' => e = .returned (.tuple #[.string ⟨f.toArray⟩, .string ⟨r.toArray⟩, .nilIface]) ∧ Below w.heap.size w w') := HC
      have H2 := Lib.hid (fun w1 => HEF.out ⟨r.toArray⟩ w1)
      have hfs : (⟨f.toArray⟩ : ByteArray).size = f.length := by rw [cs_size]
      have HF2 : Hid (fieldR s.data.toList = if 4096 < f.length then .error 3 else if endsF r then .ok (f, r) else .error 15) := HF
      rw [show (⟨r.toArray⟩ : ByteArray).data.toList = r from rfl] at H2
      obtain ⟨F, hF⟩ : ∃ F : ByteArray, F = ⟨f.toArray⟩ := ⟨_, rfl⟩
      obtain ⟨R, hR⟩ : ∃ R : ByteArray, R = ⟨r.toArray⟩ := ⟨_, rfl⟩
      rw [← hF, ← hR] at HC2
      rw [← hF] at hfs
      rw [← hR] at H2
      have hFm : F.size = f.length := hfs
      clear HC hc HER HF hfs
      by_cases h4 : 4096 < f.length
      · have HV : Hid (cutV (fieldR s.data.toList) = .tuple #[.string ⟨#[]⟩, .string ⟨#[]⟩, .iface 30 (.int .i64 3)]) := Lib.hid (by rw [HF2.out, if_pos h4]; rfl)
        have t4 : decide ((4096 : Int) < (F.size : Int)) = true := decide_eq_true (by omega)
        clear h4 hFm hF hR
        go_enter Tryz.func90, Tryz.ntmps90
        go_wp2_with fail
        refine (H1.out _).mono ?_
        rintro e w1 ⟨rfl, rfl⟩
        go_wp2_with fail
        refine HC2.out.mono ?_
        rintro e w1 ⟨rfl, k1⟩
        have HB := Lib.hid k1
        clear k1
        go_wp2_with fail
        go_ret3
        exact ⟨by rw [HV.out]; rfl, HB.out⟩
      · have t4 : decide ((4096 : Int) < (F.size : Int)) = false := decide_eq_false (by omega)
        cases he : endsF r
        · have HV : Hid (cutV (fieldR s.data.toList) = .tuple #[.string ⟨#[]⟩, .string ⟨#[]⟩, .iface 30 (.int .i64 15)]) := Lib.hid (by rw [HF2.out, if_neg h4, he]; rfl)
          rw [he] at H2
          clear h4 hFm hF hR he
          go_enter Tryz.func90, Tryz.ntmps90
          go_wp2_with fail
          refine (H1.out _).mono ?_
          rintro e w1 ⟨rfl, rfl⟩
          go_wp2_with fail
          refine HC2.out.mono ?_
          rintro e w1 ⟨rfl, k1⟩
          have HB := Lib.hid k1
          clear k1
          go_wp2_with fail
          refine (H2.out _).mono ?_
          rintro e w2 ⟨rfl, rfl⟩
          go_wp2_with fail
          go_ret3
          exact ⟨by rw [HV.out]; rfl, HB.out⟩
        · have HV : Hid (cutV (fieldR s.data.toList) = .tuple #[.string F, .string R, .nilIface]) := Lib.hid (by rw [HF2.out, if_neg h4, he, hF, hR]; rfl)
          rw [he] at H2
          clear h4 hFm hF hR he
          go_enter Tryz.func90, Tryz.ntmps90
          go_wp2_with fail
          refine (H1.out _).mono ?_
          rintro e w1 ⟨rfl, rfl⟩
          go_wp2_with fail
          refine HC2.out.mono ?_
          rintro e w1 ⟨rfl, k1⟩
          have HB := Lib.hid k1
          clear k1
          go_wp2_with fail
          refine (H2.out _).mono ?_
          rintro e w2 ⟨rfl, rfl⟩
          go_wp2_with fail
          go_ret3
          exact ⟨by rw [HV.out]; rfl, HB.out⟩
end Go.Proofs.YtmjchmamkjbgkaaGreatDoor
