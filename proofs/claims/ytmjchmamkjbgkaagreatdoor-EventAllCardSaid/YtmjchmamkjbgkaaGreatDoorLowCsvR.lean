/- Contracts of a lower layer, several texts in one. -/
import Derived.Test.YtmjchmamkjbgkaaGreatDoorCsvSmall
import Derived.OwnWalk
import Derived.Test.YtmjchmamkjbgkaaGreatDoorCsvOwn
import Derived.Test.YtmjchmamkjbgkaaGreatDoorCsvCut
import Derived.Test.YtmjchmamkjbgkaaGreatDoorLowCsvN
/- CsvRef -/
namespace Go.Proofs.YtmjchmamkjbgkaaGreatDoor
open Go.RowKit
set_option linter.unusedVariables false

def endsN (r : List UInt8) : Nat := if r = [] then 2 else if [13, 10].isPrefixOf r then 1 else 0
theorem ba_nil {s : ByteArray} : s.size = 0 ↔ s.data.toList = [] := by rw [cs_size]; exact List.length_eq_zero_iff

set_option maxHeartbeats 1000000 in
theorem ends_calls (s : ByteArray) (w : World) (hs : s.size ≤ 9223372036854775807) :
    Calls Tryz.prog 89 #[.string s] w fun e w' => e = .returned (.int .i64 (endsN s.data.toList : Nat)) ∧ w = w' := by
  by_cases h0 : s.size = 0
  · have HE : Hid (endsN s.data.toList = 2) := Lib.hid (by rw [endsN, if_pos (ba_nil.1 h0)])
    have t0 : ((s.size : Int) == 0) = true := by rw [h0]; rfl
    have t1 : s.toList.isEmpty = true := by rw [cs_tl, ba_nil.1 h0]; rfl
    clear h0
    go_enter Tryz.func89, Tryz.ntmps89
    go_wp2_with fail
    go_ret
    exact ⟨by rw [HE.out]; rfl, rfl⟩
  have hne : s.data.toList ≠ [] := fun e => h0 (ba_nil.2 e)
  have t0 : ((s.size : Int) == 0) = false := beq_eq_false_iff_ne.2 (by omega)
  have t1 : s.toList.isEmpty = false := by rw [cs_tl]; simpa using hne
  by_cases h2 : 2 ≤ s.size
  case neg =>
    have HE : Hid (endsN s.data.toList = 0) := Lib.hid (by
      rw [endsN, if_neg hne, if_neg]
      intro e
      obtain ⟨x, hx⟩ := pre2 e
      rw [cs_size, hx] at h2
      simp at h2)
    have t2 : decide ((2 : Int) ≤ (s.size : Int)) = false := decide_eq_false (by omega)
    clear h0 hne h2
    go_enter Tryz.func89, Tryz.ntmps89
    go_wp2_with fail
    go_ret
    exact ⟨by rw [HE.out]; rfl, rfl⟩
  case pos =>
    have t2 : decide ((2 : Int) ≤ (s.size : Int)) = true := decide_eq_true (by omega)
    have b0 : 0 < s.size := by omega
    have b1 : 1 < s.size := by omega
    have hl : s.data.toList = s[0] :: s[1] :: s.data.toList.drop 2 := by
      have e0 := cs_cons s 0 b0
      have e1 := cs_cons s 1 b1
      rw [List.drop_zero] at e0
      exact e0.trans (by rw [Nat.zero_add, e1])
    by_cases h13 : s[0] = 13
    · have t3 : ((s[0].toNat : Int) == 13) = true := by rw [h13]; rfl
      by_cases h10 : s[1] = 10
      · have t4 : ((s[1].toNat : Int) == 10) = true := by rw [h10]; rfl
        have HE : Hid (endsN s.data.toList = 1) := Lib.hid (by rw [endsN, if_neg hne, hl, h13, h10]; simp [List.isPrefixOf])
        clear h0 hne hl h13 h10
        go_enter Tryz.func89, Tryz.ntmps89
        go_wp2_with fail
        go_ret
        exact ⟨by rw [HE.out]; rfl, rfl⟩
      · have t4 : ((s[1].toNat : Int) == 10) = false := by rw [show ((s[1].toNat : Int) == 10) = (s[1] == 10) from cs_beq s[1] 10 (by omega)]; simpa using h10
        have HE : Hid (endsN s.data.toList = 0) := Lib.hid (by rw [endsN, if_neg hne, if_neg]; rw [hl]; simp [List.isPrefixOf]; exact fun _ e => h10 e.symm)
        clear h0 hne hl h13 h10
        go_enter Tryz.func89, Tryz.ntmps89
        go_wp2_with fail
        go_ret
        exact ⟨by rw [HE.out]; rfl, rfl⟩
    · have t3 : ((s[0].toNat : Int) == 13) = false := by rw [show ((s[0].toNat : Int) == 13) = (s[0] == 13) from cs_beq s[0] 13 (by omega)]; simpa using h13
      have HE : Hid (endsN s.data.toList = 0) := Lib.hid (by rw [endsN, if_neg hne, if_neg]; rw [hl]; simp [List.isPrefixOf]; exact fun e => absurd e.symm h13)
      clear h0 hne hl h13
      go_enter Tryz.func89, Tryz.ntmps89
      go_wp2_with fail
      go_ret
      exact ⟨by rw [HE.out]; rfl, rfl⟩
end Go.Proofs.YtmjchmamkjbgkaaGreatDoor

/- CsvRefField -/
namespace Go.Proofs.YtmjchmamkjbgkaaGreatDoor
open Go.RowKit
set_option linter.unusedVariables false

def refFV : Option (List UInt8 × Nat) → Value
  | none => .tuple #[.string ⟨#[]⟩, .int .i64 0, .int .i64 17]
  | some (f, n) => .tuple #[.string ⟨f.toArray⟩, .int .i64 (n : Nat), .int .i64 0]
/-- What is left to be told of a field between quotes, n bytes gone through, t gathered. -/
def qLeft (l : List UInt8) (t : List UInt8) (n : Nat) : Prop := fieldF l = (endQ (l.drop n)).map fun k => (t ++ unqL ((l.drop n).take k), k + n + 1)
theorem qLeft_start {l : List UInt8} (h : l.head? = some 34) : qLeft l [] 1 := by
  rw [qLeft, fieldF, if_pos h]
  rfl
theorem qLeft_else {l t : List UInt8} {n : Nat} {c : UInt8} {r : List UInt8} (h : qLeft l t n) (e : l.drop n = c :: r) (hc : c ≠ 34) : qLeft l (t ++ [c]) (n + 1) := by
  have e2 : l.drop (n + 1) = r := by rw [← List.drop_drop, e]; rfl
  rw [qLeft] at h ⊢
  rw [h, e, e2, endQ_else hc, Option.map_map]
  congr 1
  funext k
  simp [unqL_else hc]
  omega
theorem qLeft_two {l t : List UInt8} {n : Nat} {r : List UInt8} (h : qLeft l t n) (e : l.drop n = 34 :: 34 :: r) : qLeft l (t ++ [34]) (n + 2) := by
  have e2 : l.drop (n + 2) = r := by rw [← List.drop_drop, e]; rfl
  rw [qLeft] at h ⊢
  rw [h, e, e2, endQ_two, Option.map_map]
  congr 1
  funext k
  simp [unqL_two]
  omega
theorem qLeft_end {l t : List UInt8} {n : Nat} {r : List UInt8} (h : qLeft l t n) (e : l.drop n = 34 :: r) (hr : r.head? ≠ some 34) : fieldF l = some (t, n + 1) := by
  rw [qLeft] at h
  rw [h, e, endQ_end hr]
  simp [unqL]
theorem qLeft_none {l t : List UInt8} {n : Nat} (h : qLeft l t n) (e : l.drop n = []) : fieldF l = none := by
  rw [qLeft] at h
  rw [h, e]; rfl

set_option maxHeartbeats 4000000 in
set_option maxRecDepth 100000 in
theorem refField_calls (s : ByteArray) (w : World) (hs : s.size ≤ 4000000) :
    Calls Tryz.prog 88 #[.string s] w fun e w' => e = .returned (refFV (fieldF s.data.toList)) ∧ Below w.heap.size w w' := by
  have HPl := Lib.hid (fun c w1 => refPlain_calls c w1)
  by_cases h34 : s.data.toList.head? = some 34
  case pos =>
    have h0s : 0 < s.size := by
      rw [cs_size]
      cases e : s.data.toList with
      | nil => rw [e] at h34; cases h34
      | cons c r => simp
    have hc0 : s[0] = 34 := by
      have := cs_at s 0 h0s
      rw [← List.head?_eq_getElem?, h34] at this
      exact (Option.some.inj this).symm
    have t0 : ((s.size : Int) == 0) = false := beq_eq_false_iff_ne.2 (by omega)
    have t0' : s.toList.isEmpty = false := by
      rw [cs_tl]
      cases e : s.data.toList with
      | nil => rw [e] at h34; cases h34
      | cons c r => rfl
    have t1 : ((s[0].toNat : Int) != 34) = false := by rw [hc0]; rfl
    have HQ := Lib.hid (qLeft_start h34)
    clear h34 hc0
    go_enter Tryz.func88, Tryz.ntmps88
    go_wp2_with fail
    go_loopw [5, 7] (fun o i wr => ∃ (k : Nat) (t : List UInt8), k ≤ s.size ∧ i = .int .i64 k ∧ t.length ≤ k ∧ Hid (qLeft s.data.toList t k) ∧ Hid (wr.ownsRow w.heap.size 5 1 o t.length (Lib.byteCells t)) ∧ Hid (Below w.heap.size w wr)) (fun _ i _ => s.size - (intOf i).toNat)
    case atStart => exact ⟨1, [], h0s, rfl, by simp, HQ, Lib.hid (World.ownsRow_nil _ _ _ _), Lib.hid (Below.refl _ _)⟩
    case round =>
      rename_i o _
      obtain ⟨k, t, hk, rfl, htl, HX, HO, HB⟩ := hrel
      by_cases hlt : k < s.size
      case neg =>
        have HE : Hid (refFV (fieldF s.data.toList) = .tuple #[.string ⟨#[]⟩, .int .i64 0, .int .i64 17]) := Lib.hid (by rw [qLeft_none HX.out (List.drop_eq_nil_iff.2 (by rw [← cs_size]; omega))]; rfl)
        go_wp2_with fail
        go_ret3
        exact ⟨by rw [HE.out]; rfl, HB.out⟩
      case pos =>
        have hd := cs_cons s k hlt
        by_cases hc : s[k] = 34
        case neg =>
          have t2 : ((s[k].toNat : Int) != 34) = true := by rw [bne, show ((s[k].toNat : Int) == 34) = (s[k] == 34) from cs_beq s[k] 34 (by omega)]; simpa using hc
          have HX2 := Lib.hid (qLeft_else HX.out hd hc)
          have htl2 : (t ++ [s[k]]).length ≤ k + 1 := by simp; omega
          have HTL := Lib.hid htl2
          clear hd hc htl2
          go_wp2_with (at_builtin; refine wpList_append_c rfl _ _ rfl w.heap.size _ t rfl wr s[k] rfl HO.out 1 1 rfl (by omega) HB.out.size w.heap.size w HB.out (Nat.le_refl _) ?_; intro v' w2 HO2 HB2)
          go_roundw
          case rel => exact ⟨k + 1, _, hlt, by go_num, HTL.out, HX2, HO2, HB2⟩
          case measure => simp [intOf]; omega
        case pos =>
          have t2 : ((s[k].toNat : Int) != 34) = false := by rw [hc]; rfl
          rw [hc] at hd
          by_cases hlt2 : k + 1 < s.size
          case pos =>
            have hd2 := cs_cons s (k + 1) hlt2
            have t3 : decide ((k : Int) + 1 < (s.size : Int)) = true := decide_eq_true (by omega)
            by_cases hc2 : s[k + 1] = 34
            case pos =>
              have t4 : ((s[k + 1].toNat : Int) == 34) = true := by rw [hc2]; rfl
              have HX2 := Lib.hid (qLeft_two HX.out (by rw [hd, hd2, hc2]))
              have HTL : Hid ((t ++ [(34 : UInt8)]).length ≤ k + 2) := Lib.hid (by simp; omega)
              have hlt3 : k + 2 ≤ s.size := by omega
              clear hd hd2 hc hc2
              go_wp2_with (at_builtin; refine wpList_append_c rfl _ _ rfl w.heap.size _ t rfl wr 34 rfl HO.out 1 1 rfl (by omega) HB.out.size w.heap.size w HB.out (Nat.le_refl _) ?_; intro v' w2 HO2 HB2)
              go_roundw
              case rel => exact ⟨k + 2, _, hlt3, by go_num, HTL.out, HX2, HO2, HB2⟩
              case measure => simp [intOf]; omega
            case neg =>
              have t4 : ((s[k + 1].toNat : Int) == 34) = false := by rw [show ((s[k + 1].toNat : Int) == 34) = (s[k + 1] == 34) from cs_beq s[k + 1] 34 (by omega)]; simpa using hc2
              have HE : Hid (refFV (fieldF s.data.toList) = .tuple #[.string ⟨t.toArray⟩, .int .i64 ((k + 1 : Nat) : Int), .int .i64 0]) := Lib.hid (by rw [qLeft_end HX.out hd (by rw [hd2]; simpa using hc2)]; rfl)
              have hcv := cs_text HO.out
              clear hd hd2 hc hc2
              go_wp2_with fail
              go_ret3
              exact ⟨by rw [HE.out]; go_num, HB.out⟩
          case neg =>
            have t3 : decide ((k : Int) + 1 < (s.size : Int)) = false := decide_eq_false (by omega)
            have HE : Hid (refFV (fieldF s.data.toList) = .tuple #[.string ⟨t.toArray⟩, .int .i64 ((k + 1 : Nat) : Int), .int .i64 0]) := Lib.hid (by rw [qLeft_end HX.out hd (by rw [List.drop_eq_nil_iff.2 (by rw [← cs_size]; omega)]; simp)]; rfl)
            have hcv := cs_text HO.out
            clear hd hc
            go_wp2_with fail
            go_ret3
            exact ⟨by rw [HE.out]; go_num, HB.out⟩
  case neg =>
    have HF : Hid (fieldF s.data.toList = if (s.data.toList.drop (plSize s.data.toList)).head? = some 34 then none else some (s.data.toList.take (plSize s.data.toList), plSize s.data.toList)) := Lib.hid (by rw [fieldF, if_neg h34])
    have hsize0 : s.size = 0 ∨ 0 < s.size := by omega
    have key : (s.size = 0 ∧ ((s.size : Int) == 0) = true ∧ s.toList.isEmpty = true) ∨ (∃ h : 0 < s.size, ((s.size : Int) == 0) = false ∧ s.toList.isEmpty = false ∧ ((s[0].toNat : Int) != 34) = true) := by
      rcases hsize0 with h | h
      · exact .inl ⟨h, by rw [h]; rfl, by rw [cs_tl, ba_nil.1 h]; rfl⟩
      · refine .inr ⟨h, beq_eq_false_iff_ne.2 (by omega), ?_, ?_⟩
        · rw [cs_tl]
          cases e : s.data.toList with
          | nil => rw [cs_size, e] at h; simp at h
          | cons c r => rfl
        · have := cs_at s 0 h
          have hc : s[0] ≠ 34 := fun e => h34 (by rw [List.head?_eq_getElem?, this, e])
          rw [bne, show ((s[0].toNat : Int) == 34) = (s[0] == 34) from cs_beq s[0] 34 (by omega)]; simpa using hc
    clear h34 hsize0
    rcases key with ⟨h0, t0, t0'⟩ | ⟨h0, t0, t0', t1⟩
    all_goals (go_enter Tryz.func88, Tryz.ntmps88)
    all_goals (go_wp2_with fail)
    all_goals (go_loopw [5, 6] (fun o i wr => ∃ (k : Nat), k ≤ s.size ∧ i = .int .i64 k ∧ Hid (plTo s.data.toList k) ∧ Hid (wr.ownsRow w.heap.size 5 1 o (s.data.toList.take k).length (Lib.byteCells (s.data.toList.take k))) ∧ Hid (Below w.heap.size w wr)) (fun _ i _ => s.size - (intOf i).toNat))
    case atStart => exact ⟨0, by omega, rfl, Lib.hid (fun c h => by simp at h), Lib.hid (World.ownsRow_nil _ _ _ _), Lib.hid (Below.refl _ _)⟩
    case atStart => exact ⟨0, by omega, rfl, Lib.hid (fun c h => by simp at h), Lib.hid (World.ownsRow_nil _ _ _ _), Lib.hid (Below.refl _ _)⟩
    all_goals try clear t1
    all_goals clear t0 t0'
    all_goals try clear h0
    all_goals
      rename_i o _
      obtain ⟨k, hk, rfl, HP, HO, HB⟩ := hrel
      by_cases hlt : k < s.size
      case neg =>
        have HN : Hid (plSize s.data.toList = k) := Lib.hid (plSize_of _ _ (by rw [← cs_size]; exact hk) HP.out (fun c hc => by rw [List.getElem?_eq_none (by rw [← cs_size]; omega)] at hc; cases hc))
        have HE : Hid (refFV (fieldF s.data.toList) = .tuple #[.string ⟨(s.data.toList.take k).toArray⟩, .int .i64 (k : Int), .int .i64 0]) := Lib.hid (by rw [HF.out, HN.out, List.drop_eq_nil_iff.2 (by rw [← cs_size]; omega), if_neg (by simp)]; rfl)
        have hcv := cs_text HO.out
        generalize s.data.toList.take k = T at hcv HE HO
        go_wp2_with fail
        go_ret3
        exact ⟨by rw [HE.out]; rfl, HB.out⟩
      case pos =>
        have hd := cs_cons s k hlt
        have hat := cs_at s k hlt
        have H1 := Lib.hid (fun w1 => HPl.out s[k] w1)
        cases hp : plC s[k]
        · have HN : Hid (plSize s.data.toList = k) := Lib.hid (plSize_of _ _ (by rw [← cs_size]; exact hk) HP.out (fun c hc => by rw [hat] at hc; cases hc; exact hp))
          rw [hp] at H1
          by_cases hc : s[k] = 34
          · have t2 : ((s[k].toNat : Int) == 34) = true := by rw [hc]; rfl
            have HE : Hid (refFV (fieldF s.data.toList) = .tuple #[.string ⟨#[]⟩, .int .i64 0, .int .i64 17]) := Lib.hid (by rw [HF.out, HN.out, hd, hc, if_pos (by rfl)]; rfl)
            clear hd hat hp hc
            go_wp2_with fail
            refine (H1.out _).mono ?_
            rintro e w1 ⟨rfl, rfl⟩
            go_wp2_with fail
            go_ret3
            exact ⟨by rw [HE.out]; rfl, HB.out⟩
          · have t2 : ((s[k].toNat : Int) == 34) = false := by rw [show ((s[k].toNat : Int) == 34) = (s[k] == 34) from cs_beq s[k] 34 (by omega)]; simpa using hc
            have HE : Hid (refFV (fieldF s.data.toList) = .tuple #[.string ⟨(s.data.toList.take k).toArray⟩, .int .i64 (k : Int), .int .i64 0]) := Lib.hid (by rw [HF.out, HN.out, hd, if_neg (by simpa using hc)]; rfl)
            have hcv := cs_text HO.out
            generalize s.data.toList.take k = T at hcv HE HO
            clear hd hat hp hc
            go_wp2_with fail
            refine (H1.out _).mono ?_
            rintro e w1 ⟨rfl, rfl⟩
            go_wp2_with fail
            go_ret3
            exact ⟨by rw [HE.out]; rfl, HB.out⟩
        · have HP2 : Hid (plTo s.data.toList (k + 1)) := Lib.hid (plTo_succ (by rw [← cs_size]; exact hlt) HP.out (by
            have := hat
            rw [List.getElem?_eq_getElem (by rw [← cs_size]; exact hlt)] at this
            rw [Option.some.inj this]; exact hp))
          have HTk : Hid (s.data.toList.take (k + 1) = s.data.toList.take k ++ [s[k]]) := Lib.hid (by
            have := hat
            rw [List.getElem?_eq_getElem (by rw [← cs_size]; exact hlt)] at this
            rw [List.take_succ_eq_append_getElem (by rw [← cs_size]; exact hlt), Option.some.inj this])
          have htl : (s.data.toList.take k).length ≤ 1000000000 := by rw [List.length_take, ← cs_size]; omega
          rw [hp] at H1
          clear hd hat hp
          go_wp2_with fail
          refine (H1.out _).mono ?_
          rintro e w1 ⟨rfl, rfl⟩
          go_wp2_with (at_builtin; refine wpList_append_c rfl _ _ rfl w.heap.size _ (s.data.toList.take k) rfl wr s[k] rfl HO.out 1 1 rfl htl HB.out.size w.heap.size w HB.out (Nat.le_refl _) ?_; intro v' w2 HO2 HB2)
          rw [← HTk.out] at HO2
          go_roundw
          case rel => exact ⟨k + 1, hlt, by go_num, HP2, HO2, HB2⟩
          case measure => simp [intOf]; omega
end Go.Proofs.YtmjchmamkjbgkaaGreatDoor

/- CsvFirst -/
namespace Go.Proofs.YtmjchmamkjbgkaaGreatDoor
open Go.RowKit
set_option linter.unusedVariables false

def firstV (v : Value) (e c n : Nat) : Value := .agg #[v, .int .i64 (e : Nat), .int .i64 (c : Nat), .int .i64 (n : Nat)]
/-- What is told of the row that a text begins with. -/
def FirstPost (l : List UInt8) (w : World) (e : Ending) (w' : World) : Prop :=
  (∃ er c, rowR l = .error (er, c) ∧ e = .returned (firstV (.slice none 0 0) er c 0) ∧ Below w.heap.size w w') ∨
  (∃ fs r a cap, rowR l = .ok (fs, r) ∧ e = .returned (firstV (.slice a fs.length cap) 0 0 (l.length - r.length)) ∧ TIn w' a fs.length fs ∧ TObj w' a ∧ Below w.heap.size w w')
/-- The two variables of a call of First. -/
structure Two (w : World) (N : Nat) (o : Value) : Prop where
  res : w.heap[N]? = some (.cells #[.slice none 0 0, .int .i64 0, .int .i64 0, .int .i64 0] 130 (0, 0))
  row : w.heap[N + 1]? = some (.cells #[o, .int .i64 0, .int .i64 0, .int .i64 0] 130 (0, 0))
theorem Two.below {w w' : World} {N : Nat} {o : Value} (h : Two w N o) (hb : Below w.heap.size w w') : Two w' N o :=
  ⟨(hb.block _ (Array.getElem?_eq_some_iff.1 h.res).1).trans h.res, (hb.block _ (Array.getElem?_eq_some_iff.1 h.row).1).trans h.row⟩
theorem Two.cells {w : World} {N : Nat} {o : Value} (h : Two w N o) :
    w.cell? ⟨N, 0, none⟩ = some (.slice none 0 0) ∧ w.cell? ⟨N, 1, none⟩ = some (.int .i64 0) ∧ w.cell? ⟨N, 2, none⟩ = some (.int .i64 0) ∧ w.cell? ⟨N, 3, none⟩ = some (.int .i64 0) ∧
      w.cell? ⟨N + 1, 0, none⟩ = some o ∧ w.cell? ⟨N + 1, 1, none⟩ = some (.int .i64 0) ∧ w.cell? ⟨N + 1, 2, none⟩ = some (.int .i64 0) ∧ w.cell? ⟨N + 1, 3, none⟩ = some (.int .i64 0) := by
  refine ⟨?_, ?_, ?_, ?_, ?_, ?_, ?_, ?_⟩
  · rw [cell_of_row w N 0 _ _ _ h.res]; rfl
  · rw [cell_of_row w N 1 _ _ _ h.res]; rfl
  · rw [cell_of_row w N 2 _ _ _ h.res]; rfl
  · rw [cell_of_row w N 3 _ _ _ h.res]; rfl
  · rw [cell_of_row w (N + 1) 0 _ _ _ h.row]; rfl
  · rw [cell_of_row w (N + 1) 1 _ _ _ h.row]; rfl
  · rw [cell_of_row w (N + 1) 2 _ _ _ h.row]; rfl
  · rw [cell_of_row w (N + 1) 3 _ _ _ h.row]; rfl
theorem Two.froz {w : World} {N : Nat} {o : Value} (h : Two w N o) : (∀ j, w.frozen? ⟨N, j, none⟩ = false) ∧ ∀ j, w.frozen? ⟨N + 1, j, none⟩ = false :=
  ⟨fun j => frozen_of_row w N j _ _ h.res, fun j => frozen_of_row w (N + 1) j _ _ h.row⟩
theorem Two.grown {w w' : World} {row : Option Nat} {N : Nat} {o : Value} (h : Two w N o) (hg : w.grownBy w' row) (h1 : some N ≠ row) (h2 : some (N + 1) ≠ row) : Two w' N o :=
  ⟨(hg.block N (Array.getElem?_eq_some_iff.1 h.res).1 h1).trans h.res, (hg.block (N + 1) (Array.getElem?_eq_some_iff.1 h.row).1 h2).trans h.row⟩
theorem Two.set {w : World} {N : Nat} {o : Value} (h : Two w N o) (v : Value) : Two (w.setCell ⟨N + 1, 0, none⟩ v) N v := by
  refine ⟨?_, ?_⟩
  · rw [heap_setCell_other _ _ _ _ (by simp)]; exact h.res
  · rw [heap_setCell_same w (N + 1) 0 _ _ v h.row]; rfl
theorem cs_set4 {B g : Nat} {a w : World} (h : Below B a w) (hg : B ≤ g) (x y z u : Value) : Below B a ((((w.setCell ⟨g, 0, none⟩ x).setCell ⟨g, 1, none⟩ y).setCell ⟨g, 2, none⟩ z).setCell ⟨g, 3, none⟩ u) :=
  (((h.setCell hg _).setCell hg _).setCell hg _).setCell hg _
theorem first_fin {w W Wa Wb : World} {l r : List UInt8} {N k : Nat} {v : Value} {L : List (List UInt8)} (hN : N = w.heap.size) (hO : W.ownsRow N 9 1 v L.length (strsV L)) (hT : Two W N v) (hB : Below N w W) (hs : N ≤ W.heap.size)
    (hr : rowR l = .ok (L, r)) (hk : l.length - r.length = k) (g1 : W.grownBy Wa (some (N + 1))) (g2 : Wa.grownBy Wb (some N)) : FirstPost l w (.returned (firstV v 0 0 k)) Wb := by
  have b1 : CBlk W (N + 1) 130 := ⟨_, _, hT.row⟩
  have b0 : CBlk W N 130 := ⟨_, _, hT.res⟩
  have b0' := b0.grown g1 (by simp)
  obtain ⟨a, cap, rfl, h1, h2⟩ := own_tin (cs_ownKept (cs_ownKept hO b1 (by decide) g1) b0' (by decide) g2)
  subst hk
  refine .inr ⟨L, r, a, cap, hr, rfl, h1, h2, ?_⟩
  rw [← hN]
  exact (hB.grown g1 hs (fun j hj => by cases hj; exact Nat.le_succ N)).grown g2 (Nat.le_trans hs g1.size) (fun j hj => by cases hj; exact Nat.le_refl N)
theorem two_row {w w' : World} {N B k : Nat} {o v : Value} {xs : List Value} {f : Obj} (h : Two w N o) (ho : w.ownsRow B 9 1 v k xs) (hg : (w.alloc f).grownBy w' v.ownBlock) : Two w' N o := by
  have h1 := h.below ((Below.refl w.heap.size w).alloc (Nat.le_refl _) f)
  have b1 : CBlk (w.alloc f) N 130 := ⟨_, _, h1.res⟩
  have b2 : CBlk (w.alloc f) (N + 1) 130 := ⟨_, _, h1.row⟩
  exact h1.grown hg (b1.far (ho.alloc f) (by decide)) (b2.far (ho.alloc f) (by decide))
theorem endsN_pos {r : List UInt8} : endsN r = 0 ∨ endsN r = 1 ∨ endsN r = 2 := by
  unfold endsN
  split
  · exact .inr (.inr rfl)
  · split
    · exact .inr (.inl rfl)
    · exact .inl rfl

set_option maxHeartbeats 8000000 in
set_option maxRecDepth 100000 in
theorem first_calls (s : ByteArray) (w : World) (hs : s.size ≤ 4000000) :
    Calls Tryz.prog 65 #[.string s] w (FirstPost s.data.toList w) := by
  obtain ⟨l, hl⟩ : ∃ l, l = s.data.toList := ⟨_, rfl⟩
  rw [← hl]
  have HL := Lib.hid hl
  have HLs : Hid (l.length = s.size) := Lib.hid (by rw [hl, cs_size])
  have HFd := Lib.hid (fun t w1 (h : t.size ≤ 4000000) => refField_calls t w1 h)
  have HEn := Lib.hid (fun t w1 (h : t.size ≤ 9223372036854775807) => ends_calls t w1 h)
  obtain ⟨i0, hi, hz0, hz1, hz2⟩ := cs_parts cs_infoS
  have HI := Lib.hid hi
  have HZ0 := Lib.hid hz0
  have HZ1 := Lib.hid hz1
  have HZ2 := Lib.hid hz2
  have h2 : Two ((w.alloc (.cells #[.slice none 0 0, .int .i64 0, .int .i64 0, .int .i64 0] 130)).alloc (.cells #[.slice none 0 0, .int .i64 0, .int .i64 0, .int .i64 0] 130)) w.heap.size (.slice none 0 0) := by
    refine ⟨?_, ?_⟩
    · rw [heap_alloc_old _ _ (by simp)]; exact heap_alloc_new _ _
    · have := heap_alloc_new (w.alloc (.cells #[.slice none 0 0, .int .i64 0, .int .i64 0, .int .i64 0] 130)) (.cells #[.slice none 0 0, .int .i64 0, .int .i64 0, .int .i64 0] 130)
      simpa using this
  have H2 := Lib.hid h2
  have HB0 := Lib.hid (((Below.refl w.heap.size w).alloc (Nat.le_refl _) (.cells #[.slice none 0 0, .int .i64 0, .int .i64 0, .int .i64 0] 130)).alloc (by simp) (.cells #[.slice none 0 0, .int .i64 0, .int .i64 0, .int .i64 0] 130))
  clear hl hi hz0 hz1 hz2 h2
  go_enter Tryz.func65, Tryz.ntmps65
  go_wp2_with fail
  obtain ⟨N, hN⟩ : ∃ N, N = w.heap.size := ⟨_, rfl⟩
  have HN := Lib.hid hN
  obtain ⟨W0, hW0⟩ : ∃ W0, ((w.alloc (.cells #[.slice none 0 0, .int .i64 0, .int .i64 0, .int .i64 0] 130)).alloc (.cells #[.slice none 0 0, .int .i64 0, .int .i64 0, .int .i64 0] 130)) = W0 := ⟨_, rfl⟩
  rw [hW0] at H2 HB0 ⊢
  rw [← hN] at H2 HB0 ⊢
  clear hW0 hN
  go_loopw [4] (fun i wr => ∃ (n : Nat) (fs : List (List UInt8)) (o : Value), n ≤ s.size ∧ fs.length ≤ n ∧ i = .int .i64 n ∧ Hid (rowX l fs (l.drop n)) ∧ Hid (wr.ownsRow N 9 1 o fs.length (strsV fs)) ∧ Hid (Two wr N o) ∧ Hid (Below N w wr)) (fun i _ => s.size + 1 - (intOf i).toNat)
  case atStart => exact ⟨0, [], _, Nat.zero_le _, Nat.le_refl _, rfl, Lib.hid (rowX_refl _), Lib.hid (World.ownsRow_nil _ _ _ _), H2, HB0⟩
  case round =>
    clear H2 HB0
    obtain ⟨n, fs, o, hn, hfn, rfl, HX, HO, H2, HB⟩ := hrel
    obtain ⟨oa, oc, rfl⟩ := cs_own HO.out
    obtain ⟨c0, c1, c2, c3, d0, d1, d2, d3⟩ := H2.out.cells
    have hexs : (s.extract n s.size).size ≤ 4000000 := by rw [cs_size, cs_drop, List.length_drop, ← cs_size]; omega
    have H1 := Lib.hid (HFd.out (s.extract n s.size) wr hexs)
    rw [cs_drop, ← HL.out] at H1
    clear hexs
    have HNr : Hid (N ≤ wr.heap.size) := Lib.hid (Nat.le_trans (Nat.le_of_eq HN.out) HB.out.size)
    clear c0 c1 c2 c3 d1 d2 d3
    cases hff : fieldF (l.drop n) with
    | none =>
      have hlt : n < s.size := by
        rcases Nat.lt_or_ge n s.size with h | h
        · exact h
        · rw [List.drop_eq_nil_iff.2 (by rw [HLs.out]; exact h)] at hff
          cases hff
      have HE := Lib.hid (rowX_err HX.out (e := 17) (by rw [fieldR, hff]))
      rw [hff] at H1
      have H1' : Hid (Calls Tryz.prog 88 #[.string (s.extract n s.size)] wr fun e w' => e = .returned (.tuple #[.string ⟨#[]⟩, .int .i64 0, .int .i64 17]) ∧ Below wr.heap.size wr w') := H1
      obtain ⟨q, hq⟩ : ∃ q : Bool, ((s[n].toNat : Int) == 34) = q := ⟨_, rfl⟩
      have t1 : decide ((n : Int) < (s.size : Int)) = true := decide_eq_true (by omega)
      clear H1 hff HX
      go_wp2_with fail
      refine H1'.out.mono ?_
      rintro e w2 ⟨rfl, k2⟩
      have HN2 := Lib.hid (Nat.le_trans HNr.out k2.size)
      have HB2 := Lib.hid (HB.out.trans (k2.mono HNr.out))
      have HO2 := Lib.hid (cs_ownBelow HO.out k2)
      have h22 := H2.out.below k2
      have H22 := Lib.hid h22
      obtain ⟨c0, c1, c2, c3, d0, d1, d2, d3⟩ := h22.cells
      have z0 := h22.froz.1 0
      have z1 := h22.froz.1 1
      have z2 := h22.froz.1 2
      have z3 := h22.froz.1 3
      have y0 := h22.froz.2 0
      have y3 := h22.froz.2 3
      clear k2 h22 H2 HB HO HNr
      clear d0
      go_wp2_with fail
      refine bodyPost_ret (v := firstV (.slice none 0 0) 17 (fs.length + 1) 0) ?_ rfl (.inl ⟨17, fs.length + 1, HE.out, rfl, ?_⟩)
      · refine cs_result1 rfl _ _ _ (a := ⟨N, 0, none⟩) (by rfl) ?_
        unfold firstV
        go_simp
      · rw [← HN.out]; exact cs_set4 HB2.out (Nat.le_refl _) _ _ _ _
    | some y =>
      obtain ⟨f, m⟩ := y
      have hm := fieldF_le hff
      rw [List.length_drop, HLs.out] at hm
      have hmn : n + m ≤ s.size := by omega
      have hfl := fieldF_len hff
      rw [List.length_drop, HLs.out] at hfl
      rw [hff] at H1
      have H1a : Hid (Calls Tryz.prog 88 #[.string (s.extract n s.size)] wr fun e w' => e = .returned (.tuple #[.string ⟨f.toArray⟩, .int .i64 (m : Nat), .int .i64 0]) ∧ Below wr.heap.size wr w') := H1
      obtain ⟨F, hF⟩ : ∃ F : ByteArray, F = ⟨f.toArray⟩ := ⟨_, rfl⟩
      have hFs : F.size = f.length := by rw [hF, cs_size]
      rw [← hF] at H1a
      have HFe := Lib.hid hF
      have HRd : Hid ((l.drop n).drop m = l.drop (n + m)) := Lib.hid (by rw [List.drop_drop])
      clear H1 hF hm
      by_cases h4 : 4096 < f.length
      case pos =>
        have hlt : n < s.size := by omega
        have HE := Lib.hid (rowX_err HX.out (e := 3) (by rw [fieldR, hff]; simp only; rw [if_pos h4]))
        obtain ⟨q, hq⟩ : ∃ q : Bool, ((s[n].toNat : Int) == 34) = q := ⟨_, rfl⟩
        have t1 : decide ((n : Int) < (s.size : Int)) = true := decide_eq_true (by omega)
        have t4 : decide ((4096 : Int) < (F.size : Int)) = true := decide_eq_true (by omega)
        clear hff HX h4 hfl hFs
        go_wp2_with fail
        refine H1a.out.mono ?_
        rintro e w2 ⟨rfl, k2⟩
        have HN2 := Lib.hid (Nat.le_trans HNr.out k2.size)
        have HB2 := Lib.hid (HB.out.trans (k2.mono HNr.out))
        have HO2 := Lib.hid (cs_ownBelow HO.out k2)
        have h22 := H2.out.below k2
        have H22 := Lib.hid h22
        obtain ⟨c0, c1, c2, c3, d0, d1, d2, d3⟩ := h22.cells
        have z0 := h22.froz.1 0
        have z1 := h22.froz.1 1
        have z2 := h22.froz.1 2
        have z3 := h22.froz.1 3
        have y0 := h22.froz.2 0
        have y3 := h22.froz.2 3
        clear k2 h22 H2 HB HO HNr
        clear d0
        go_wp2_with fail
        refine bodyPost_ret (v := firstV (.slice none 0 0) 3 (fs.length + 1) 0) ?_ rfl (.inl ⟨3, fs.length + 1, HE.out, rfl, ?_⟩)
        · refine cs_result1 rfl _ _ _ (a := ⟨N, 0, none⟩) (by rfl) ?_
          unfold firstV
          go_simp
        · rw [← HN.out]; exact cs_set4 HB2.out (Nat.le_refl _) _ _ _ _
      have t4 : decide ((4096 : Int) < (F.size : Int)) = false := decide_eq_false (by omega)
      cases he : endsF (l.drop (n + m))
      case false =>
        have hne : l.drop (n + m) ≠ [] := fun e => by rw [e] at he; cases he
        have hltm : n + m < s.size := by
          rcases Nat.lt_or_ge (n + m) s.size with h | h
          · exact h
          · exact absurd (List.drop_eq_nil_iff.2 (by rw [HLs.out]; exact h)) hne
        have hlt : n < s.size := by omega
        have hhead : (l.drop n).head? = some s[n] := by rw [HL.out, cs_cons s n hlt]; rfl
        have hrest : l.drop (n + m) = s[n + m] :: s.data.toList.drop (n + m + 1) := by rw [HL.out]; exact cs_cons s (n + m) hltm
        have hparts : s[n + m] ≠ 44 ∧ [13, 10].isPrefixOf (l.drop (n + m)) = false := by
          rw [endsF] at he
          simp only [Bool.or_eq_false_iff] at he
          refine ⟨fun e => ?_, he.2.2⟩
          have h3 := he.2.1
          rw [hrest, e] at h3
          simp at h3
        have hEn : endsN (l.drop (n + m)) = 0 := by rw [endsN, if_neg hne, hparts.2]; rfl
        have hexm : (s.extract (n + m) s.size).size ≤ 9223372036854775807 := by rw [cs_size, cs_drop, List.length_drop, ← cs_size]; omega
        have H3 := Lib.hid (fun w1 => HEn.out (s.extract (n + m) s.size) w1 hexm)
        rw [cs_drop, ← HL.out, hEn] at H3
        have t1 : decide ((n : Int) < (s.size : Int)) = true := decide_eq_true (by omega)
        have t5 : decide ((n : Int) + (m : Int) < (s.size : Int)) = true := decide_eq_true (by omega)
        have t6 : ((s[n + m].toNat : Int) != 44) = true := by rw [bne, show ((s[n + m].toNat : Int) == 44) = (s[n + m] == 44) from cs_beq s[n + m] 44 (by omega)]; simpa using hparts.1
        have i1 : (0 : Int) ≤ (n : Int) + (m : Int) := by omega
        have i2 : (n : Int) + (m : Int) ≤ (s.size : Int) := by omega
        by_cases h34 : s[n] = 34
        case pos =>
          have HE := Lib.hid (rowX_err HX.out (e := 17) (by rw [fieldR, hff]; simp only; rw [if_neg h4, HRd.out, he, hhead]; simp [h34]))
          have t2 : ((s[n].toNat : Int) == 34) = true := by rw [h34]; rfl
          clear hff HX h4 hfl hFs he hne hhead hrest hparts hEn hexm h34
          go_wp2_with fail
          refine H1a.out.mono ?_
          rintro e w2 ⟨rfl, k2⟩
          have HN2 := Lib.hid (Nat.le_trans HNr.out k2.size)
          have HB2 := Lib.hid (HB.out.trans (k2.mono HNr.out))
          have HO2 := Lib.hid (cs_ownBelow HO.out k2)
          have h22 := H2.out.below k2
          have H22 := Lib.hid h22
          obtain ⟨c0, c1, c2, c3, d0, d1, d2, d3⟩ := h22.cells
          have z0 := h22.froz.1 0
          have z1 := h22.froz.1 1
          have z2 := h22.froz.1 2
          have z3 := h22.froz.1 3
          have y0 := h22.froz.2 0
          have y3 := h22.froz.2 3
          clear k2 h22 H2 HB HO HNr
          clear d0
          go_wp2_with fail
          refine (H3.out _).mono ?_
          rintro e w3 ⟨rfl, hw3⟩
          subst hw3
          go_wp2_with fail
          refine bodyPost_ret (v := firstV (.slice none 0 0) 17 (fs.length + 1) 0) ?_ rfl (.inl ⟨17, fs.length + 1, HE.out, rfl, ?_⟩)
          · refine cs_result1 rfl _ _ _ (a := ⟨N, 0, none⟩) (by rfl) ?_
            unfold firstV
            go_simp
          · rw [← HN.out]; exact cs_set4 HB2.out (Nat.le_refl _) _ _ _ _
        case neg =>
          have HE := Lib.hid (rowX_err HX.out (e := 15) (by rw [fieldR, hff]; simp only; rw [if_neg h4, HRd.out, he, hhead]; simp [h34]))
          have t2 : ((s[n].toNat : Int) == 34) = false := by rw [show ((s[n].toNat : Int) == 34) = (s[n] == 34) from cs_beq s[n] 34 (by omega)]; simpa using h34
          clear hff HX h4 hfl hFs he hne hhead hrest hparts hEn hexm h34
          go_wp2_with fail
          refine H1a.out.mono ?_
          rintro e w2 ⟨rfl, k2⟩
          have HN2 := Lib.hid (Nat.le_trans HNr.out k2.size)
          have HB2 := Lib.hid (HB.out.trans (k2.mono HNr.out))
          have HO2 := Lib.hid (cs_ownBelow HO.out k2)
          have h22 := H2.out.below k2
          have H22 := Lib.hid h22
          obtain ⟨c0, c1, c2, c3, d0, d1, d2, d3⟩ := h22.cells
          have z0 := h22.froz.1 0
          have z1 := h22.froz.1 1
          have z2 := h22.froz.1 2
          have z3 := h22.froz.1 3
          have y0 := h22.froz.2 0
          have y3 := h22.froz.2 3
          clear k2 h22 H2 HB HO HNr
          clear d0
          go_wp2_with fail
          refine (H3.out _).mono ?_
          rintro e w3 ⟨rfl, hw3⟩
          subst hw3
          go_wp2_with fail
          refine bodyPost_ret (v := firstV (.slice none 0 0) 15 (fs.length + 1) 0) ?_ rfl (.inl ⟨15, fs.length + 1, HE.out, rfl, ?_⟩)
          · refine cs_result1 rfl _ _ _ (a := ⟨N, 0, none⟩) (by rfl) ?_
            unfold firstV
            go_simp
          · rw [← HN.out]; exact cs_set4 HB2.out (Nat.le_refl _) _ _ _ _
      case true =>
        have hfr : fieldR (l.drop n) = .ok (f, l.drop (n + m)) := by rw [fieldR, hff]; simp only; rw [if_neg h4, HRd.out, if_pos he]
        clear hff
        have hexm : (s.extract (n + m) s.size).size ≤ 9223372036854775807 := by rw [cs_size, cs_drop, List.length_drop, ← cs_size]; omega
        have H3 := Lib.hid (fun w1 => HEn.out (s.extract (n + m) s.size) w1 hexm)
        rw [cs_drop, ← HL.out] at H3
        have i1 : (0 : Int) ≤ (n : Int) + (m : Int) := by omega
        have i2 : (n : Int) + (m : Int) ≤ (s.size : Int) := by omega
        have hff1 : fs.length ≤ 4000000 := by omega
        rcases Nat.lt_or_ge (n + m) s.size with hltm | hgem
        case inr =>
          have hnm : n + m = s.size := by omega
          have hnil : l.drop (n + m) = [] := List.drop_eq_nil_iff.2 (by rw [HLs.out]; exact hgem)
          have h44 : (l.drop (n + m)).head? ≠ some 44 := by rw [hnil]; simp
          rw [hnil, show endsN [] = 2 from rfl] at H3
          have HRow := Lib.hid (rowX_end HX.out hfr h44)
          have HSz : Hid (l.length - (cutE (l.drop (n + m))).length = n + m) := Lib.hid (by rw [hnil, HLs.out, hnm]; rfl)
          have t5 : decide ((n : Int) + (m : Int) < (s.size : Int)) = false := decide_eq_false (by omega)
          clear hfr h44 hnil HX he h4 hfl hFs hexm hgem hnm
          rcases Nat.lt_or_ge n s.size with hlt | hge
          case inl =>
            have t1 : decide ((n : Int) < (s.size : Int)) = true := decide_eq_true (by omega)
            obtain ⟨q, hq⟩ : ∃ q : Bool, ((s[n].toNat : Int) == 34) = q := ⟨_, rfl⟩
            go_wp2_with fail
            refine H1a.out.mono ?_
            rintro e w2 ⟨rfl, k2⟩
            have HN2 := Lib.hid (Nat.le_trans HNr.out k2.size)
            have HB2 := Lib.hid (HB.out.trans (k2.mono HNr.out))
            have HO2 := Lib.hid (cs_ownBelow HO.out k2)
            have h22 := H2.out.below k2
            have H22 := Lib.hid h22
            obtain ⟨c0, c1, c2, c3, d0, d1, d2, d3⟩ := h22.cells
            have z0 := h22.froz.1 0
            have z1 := h22.froz.1 1
            have z2 := h22.froz.1 2
            have z3 := h22.froz.1 3
            have y0 := h22.froz.2 0
            have y3 := h22.froz.2 3
            clear k2 h22 H2 HB HO HNr
            go_wp2_with (at_builtin; refine wpList_append_own _ rfl _ _ 23 rfl N 9 i0 _ 1 16 Tryz.underlying23 HI.out HZ0.out HZ1.out HZ2.out rfl (by decide) _ _ _ rfl (HO2.out.alloc _) ⟨w2.heap.size, 0, none⟩ 1 1 [.string F] rfl rfl (cs_new w2 _ _) (by intro u hu; simp at hu; subst hu; rfl) (by unfold maxLen; omega) (by omega) (by have := HN2.out; simp; omega) ?_; intro v' w3 ho3 hg3 _; obtain ⟨va, vc, rfl⟩ := cs_own ho3; have hT3 := two_row H22.out HO2.out hg3; have x0 := hT3.cells.2.2.2.2.1; have x1 := hT3.froz.2 0)
            have hO3 : w3.ownsRow N 9 1 (.slice va (fs.length + 1) vc) (fs ++ [f]).length (strsV (fs ++ [f])) := by rw [strsV_app, List.length_append, show strsV [f] = [.string F] by rw [HFe.out]; rfl]; exact ho3
            have HB3 := Lib.hid ((HB2.out.alloc HN2.out (.cells #[.string F] 9)).grown hg3 (by have := HN2.out; simp; omega) (fun k hk => (HO2.out.lt k hk).1))
            have HN3 : Hid (N ≤ w3.heap.size) := Lib.hid (by have h8 := HN2.out; have h9 := hg3.size; simp at h9; omega)
            have hbk : CBlk w3 (N + 1) 130 := ⟨_, _, hT3.row⟩
            have HO4 := Lib.hid (cs_ownKept hO3 hbk (by decide) (cs_set (a := ⟨N + 1, 0, none⟩) (u := .slice va (fs.length + 1) vc)))
            have hT4 := hT3.set (.slice va (fs.length + 1) vc)
            have HB4 := Lib.hid (HB3.out.setCell (p := ⟨N + 1, 0, none⟩) (Nat.le_succ N) (.slice va (fs.length + 1) vc))
            have HN4 : Hid (N ≤ (w3.setCell ⟨N + 1, 0, none⟩ (.slice va (fs.length + 1) vc)).heap.size) := Lib.hid (by rw [World.size_setCell]; exact HN3.out)
            obtain ⟨W, hW⟩ : ∃ W, w3.setCell ⟨N + 1, 0, none⟩ (.slice va (fs.length + 1) vc) = W := ⟨_, rfl⟩
            rw [hW] at HO4 hT4 HB4 HN4 ⊢
            have HT4 := Lib.hid hT4
            obtain ⟨c0, c1, c2, c3, d0, d1, d2, d3⟩ := hT4.cells
            have z0 := hT4.froz.1 0
            have z1 := hT4.froz.1 1
            have z2 := hT4.froz.1 2
            have z3 := hT4.froz.1 3
            have y0 := hT4.froz.2 0
            have y3 := hT4.froz.2 3
            clear hO3 ho3 hg3 hT3 x0 x1 hbk HB3 HN3 hT4 hW HO2 H22 HB2 HN2
            refine (H3.out _).mono ?_
            rintro e w5 ⟨rfl, hw5⟩
            subst hw5
            go_wp2_with fail
            refine bodyPost_ret (v := firstV (.slice va (fs.length + 1) vc) 0 0 (n + m)) ?_ rfl (first_fin HN.out HO4.out HT4.out HB4.out HN4.out HRow.out HSz.out cs_set (cs_gtrans (cs_gtrans (cs_gtrans cs_set cs_set) cs_set) cs_set))
            refine cs_result1 rfl _ _ _ (a := ⟨N, 0, none⟩) (by rfl) ?_
            unfold firstV
            go_simp
          case inr =>
            have t1 : decide ((n : Int) < (s.size : Int)) = false := decide_eq_false (by omega)
            have hnge : ¬ n < s.size := by omega
            clear hge
            go_wp2_with fail
            refine H1a.out.mono ?_
            rintro e w2 ⟨rfl, k2⟩
            have HN2 := Lib.hid (Nat.le_trans HNr.out k2.size)
            have HB2 := Lib.hid (HB.out.trans (k2.mono HNr.out))
            have HO2 := Lib.hid (cs_ownBelow HO.out k2)
            have h22 := H2.out.below k2
            have H22 := Lib.hid h22
            obtain ⟨c0, c1, c2, c3, d0, d1, d2, d3⟩ := h22.cells
            have z0 := h22.froz.1 0
            have z1 := h22.froz.1 1
            have z2 := h22.froz.1 2
            have z3 := h22.froz.1 3
            have y0 := h22.froz.2 0
            have y3 := h22.froz.2 3
            clear k2 h22 H2 HB HO HNr
            go_wp2_with (at_builtin; refine wpList_append_own _ rfl _ _ 23 rfl N 9 i0 _ 1 16 Tryz.underlying23 HI.out HZ0.out HZ1.out HZ2.out rfl (by decide) _ _ _ rfl (HO2.out.alloc _) ⟨w2.heap.size, 0, none⟩ 1 1 [.string F] rfl rfl (cs_new w2 _ _) (by intro u hu; simp at hu; subst hu; rfl) (by unfold maxLen; omega) (by omega) (by have := HN2.out; simp; omega) ?_; intro v' w3 ho3 hg3 _; obtain ⟨va, vc, rfl⟩ := cs_own ho3; have hT3 := two_row H22.out HO2.out hg3; have x0 := hT3.cells.2.2.2.2.1; have x1 := hT3.froz.2 0)
            have hO3 : w3.ownsRow N 9 1 (.slice va (fs.length + 1) vc) (fs ++ [f]).length (strsV (fs ++ [f])) := by rw [strsV_app, List.length_append, show strsV [f] = [.string F] by rw [HFe.out]; rfl]; exact ho3
            have HB3 := Lib.hid ((HB2.out.alloc HN2.out (.cells #[.string F] 9)).grown hg3 (by have := HN2.out; simp; omega) (fun k hk => (HO2.out.lt k hk).1))
            have HN3 : Hid (N ≤ w3.heap.size) := Lib.hid (by have h8 := HN2.out; have h9 := hg3.size; simp at h9; omega)
            have hbk : CBlk w3 (N + 1) 130 := ⟨_, _, hT3.row⟩
            have HO4 := Lib.hid (cs_ownKept hO3 hbk (by decide) (cs_set (a := ⟨N + 1, 0, none⟩) (u := .slice va (fs.length + 1) vc)))
            have hT4 := hT3.set (.slice va (fs.length + 1) vc)
            have HB4 := Lib.hid (HB3.out.setCell (p := ⟨N + 1, 0, none⟩) (Nat.le_succ N) (.slice va (fs.length + 1) vc))
            have HN4 : Hid (N ≤ (w3.setCell ⟨N + 1, 0, none⟩ (.slice va (fs.length + 1) vc)).heap.size) := Lib.hid (by rw [World.size_setCell]; exact HN3.out)
            obtain ⟨W, hW⟩ : ∃ W, w3.setCell ⟨N + 1, 0, none⟩ (.slice va (fs.length + 1) vc) = W := ⟨_, rfl⟩
            rw [hW] at HO4 hT4 HB4 HN4 ⊢
            have HT4 := Lib.hid hT4
            obtain ⟨c0, c1, c2, c3, d0, d1, d2, d3⟩ := hT4.cells
            have z0 := hT4.froz.1 0
            have z1 := hT4.froz.1 1
            have z2 := hT4.froz.1 2
            have z3 := hT4.froz.1 3
            have y0 := hT4.froz.2 0
            have y3 := hT4.froz.2 3
            clear hO3 ho3 hg3 hT3 x0 x1 hbk HB3 HN3 hT4 hW HO2 H22 HB2 HN2
            refine (H3.out _).mono ?_
            rintro e w5 ⟨rfl, hw5⟩
            subst hw5
            go_wp2_with fail
            refine bodyPost_ret (v := firstV (.slice va (fs.length + 1) vc) 0 0 (n + m)) ?_ rfl (first_fin HN.out HO4.out HT4.out HB4.out HN4.out HRow.out HSz.out cs_set (cs_gtrans (cs_gtrans (cs_gtrans cs_set cs_set) cs_set) cs_set))
            refine cs_result1 rfl _ _ _ (a := ⟨N, 0, none⟩) (by rfl) ?_
            unfold firstV
            go_simp
        case inl =>
          have hlt : n < s.size := by omega
          have hrest : l.drop (n + m) = s[n + m] :: s.data.toList.drop (n + m + 1) := by rw [HL.out]; exact cs_cons s (n + m) hltm
          have hne : l.drop (n + m) ≠ [] := fun e => by rw [e] at hrest; cases hrest
          have t5 : decide ((n : Int) + (m : Int) < (s.size : Int)) = true := decide_eq_true (by omega)
          have t1 : decide ((n : Int) < (s.size : Int)) = true := decide_eq_true (by omega)
          obtain ⟨q, hq⟩ : ∃ q : Bool, ((s[n].toNat : Int) == 34) = q := ⟨_, rfl⟩
          by_cases h44 : s[n + m] = 44
          case pos =>
            have hEn : endsN (l.drop (n + m)) = 0 := by rw [endsN, if_neg hne, hrest, h44]; simp [List.isPrefixOf]
            have h44' : (l.drop (n + m)).head? = some 44 := by rw [hrest, h44]; rfl
            have t6 : ((s[n + m].toNat : Int) != 44) = false := by rw [h44]; rfl
            rw [hEn] at H3
            have HX2 : Hid (rowX l (fs ++ [f]) (l.drop (n + m + 1))) := Lib.hid (by have := rowX_more HX.out hfr h44'; rw [List.drop_drop] at this; exact this)
            clear hfr h44 h44' hEn hrest hne HX he h4 hfl hFs hexm
            go_wp2_with fail
            refine H1a.out.mono ?_
            rintro e w2 ⟨rfl, k2⟩
            have HN2 := Lib.hid (Nat.le_trans HNr.out k2.size)
            have HB2 := Lib.hid (HB.out.trans (k2.mono HNr.out))
            have HO2 := Lib.hid (cs_ownBelow HO.out k2)
            have h22 := H2.out.below k2
            have H22 := Lib.hid h22
            obtain ⟨c0, c1, c2, c3, d0, d1, d2, d3⟩ := h22.cells
            have z0 := h22.froz.1 0
            have z1 := h22.froz.1 1
            have z2 := h22.froz.1 2
            have z3 := h22.froz.1 3
            have y0 := h22.froz.2 0
            have y3 := h22.froz.2 3
            clear k2 h22 H2 HB HO HNr
            go_wp2_with fail
            refine (H3.out _).mono ?_
            rintro e w6 ⟨rfl, hw6⟩
            subst hw6
            go_wp2_with (at_builtin; refine wpList_append_own _ rfl _ _ 23 rfl N 9 i0 _ 1 16 Tryz.underlying23 HI.out HZ0.out HZ1.out HZ2.out rfl (by decide) _ _ _ rfl (HO2.out.alloc _) ⟨w2.heap.size, 0, none⟩ 1 1 [.string F] rfl rfl (cs_new w2 _ _) (by intro u hu; simp at hu; subst hu; rfl) (by unfold maxLen; omega) (by omega) (by have := HN2.out; simp; omega) ?_; intro v' w3 ho3 hg3 _; obtain ⟨va, vc, rfl⟩ := cs_own ho3; have hT3 := two_row H22.out HO2.out hg3; have x0 := hT3.cells.2.2.2.2.1; have x1 := hT3.froz.2 0)
            have hO3 : w3.ownsRow N 9 1 (.slice va (fs.length + 1) vc) (fs ++ [f]).length (strsV (fs ++ [f])) := by rw [strsV_app, List.length_append, show strsV [f] = [.string F] by rw [HFe.out]; rfl]; exact ho3
            have HB3 := Lib.hid ((HB2.out.alloc HN2.out (.cells #[.string F] 9)).grown hg3 (by have := HN2.out; simp; omega) (fun k hk => (HO2.out.lt k hk).1))
            have HN3 : Hid (N ≤ w3.heap.size) := Lib.hid (by have h8 := HN2.out; have h9 := hg3.size; simp at h9; omega)
            have hbk : CBlk w3 (N + 1) 130 := ⟨_, _, hT3.row⟩
            have HO4 := Lib.hid (cs_ownKept hO3 hbk (by decide) (cs_set (a := ⟨N + 1, 0, none⟩) (u := .slice va (fs.length + 1) vc)))
            have hT4 := hT3.set (.slice va (fs.length + 1) vc)
            have HB4 := Lib.hid (HB3.out.setCell (p := ⟨N + 1, 0, none⟩) (Nat.le_succ N) (.slice va (fs.length + 1) vc))
            have HN4 : Hid (N ≤ (w3.setCell ⟨N + 1, 0, none⟩ (.slice va (fs.length + 1) vc)).heap.size) := Lib.hid (by rw [World.size_setCell]; exact HN3.out)
            obtain ⟨W, hW⟩ : ∃ W, w3.setCell ⟨N + 1, 0, none⟩ (.slice va (fs.length + 1) vc) = W := ⟨_, rfl⟩
            rw [hW] at HO4 hT4 HB4 HN4 ⊢
            have HT4 := Lib.hid hT4
            obtain ⟨c0, c1, c2, c3, d0, d1, d2, d3⟩ := hT4.cells
            have z0 := hT4.froz.1 0
            have z1 := hT4.froz.1 1
            have z2 := hT4.froz.1 2
            have z3 := hT4.froz.1 3
            have y0 := hT4.froz.2 0
            have y3 := hT4.froz.2 3
            clear hO3 ho3 hg3 hT3 x0 x1 hbk HB3 HN3 hT4 hW HO2 H22 HB2 HN2
            refine (H3.out _).mono ?_
            rintro e w5 ⟨rfl, hw5⟩
            subst hw5
            go_wp2_with fail
            have HLn : Hid ((fs ++ [f]).length = fs.length + 1) := Lib.hid (by simp)
            go_roundw
            case rel => exact ⟨n + m + 1, fs ++ [f], _, hltm, by rw [HLn.out]; omega, by go_num, HX2, HO4, HT4, HB4⟩
            case measure => simp [intOf]; omega
          case neg =>
            have hpre : [13, 10].isPrefixOf (l.drop (n + m)) = true := by
              rw [endsF, hrest] at he
              simp only [List.isEmpty_cons, Bool.false_or, Bool.or_eq_true] at he
              rcases he with h | h
              · simp at h; exact absurd h h44
              · rw [hrest]; exact h
            have hEn : endsN (l.drop (n + m)) = 1 := by rw [endsN, if_neg hne, if_pos hpre]
            have h44' : (l.drop (n + m)).head? ≠ some 44 := by rw [hrest]; simpa using h44
            rw [hEn] at H3
            have HRow := Lib.hid (rowX_end HX.out hfr h44')
            have hn2 : n + m + 2 ≤ s.size := by
              obtain ⟨x, hx⟩ := pre2 hpre
              have := congrArg List.length hx
              rw [List.length_drop, HLs.out] at this
              simp at this
              omega
            have HSz : Hid (l.length - (cutE (l.drop (n + m))).length = n + m + 2) := Lib.hid (by rw [cutE, if_pos hpre, List.drop_drop, List.length_drop, HLs.out]; omega)
            clear hfr h44 h44' hEn hrest hne HX he h4 hfl hFs hexm hpre
            go_wp2_with fail
            refine H1a.out.mono ?_
            rintro e w2 ⟨rfl, k2⟩
            have HN2 := Lib.hid (Nat.le_trans HNr.out k2.size)
            have HB2 := Lib.hid (HB.out.trans (k2.mono HNr.out))
            have HO2 := Lib.hid (cs_ownBelow HO.out k2)
            have h22 := H2.out.below k2
            have H22 := Lib.hid h22
            obtain ⟨c0, c1, c2, c3, d0, d1, d2, d3⟩ := h22.cells
            have z0 := h22.froz.1 0
            have z1 := h22.froz.1 1
            have z2 := h22.froz.1 2
            have z3 := h22.froz.1 3
            have y0 := h22.froz.2 0
            have y3 := h22.froz.2 3
            clear k2 h22 H2 HB HO HNr
            go_wp2_with fail
            refine (H3.out _).mono ?_
            rintro e w6 ⟨rfl, hw6⟩
            subst hw6
            go_wp2_with (at_builtin; refine wpList_append_own _ rfl _ _ 23 rfl N 9 i0 _ 1 16 Tryz.underlying23 HI.out HZ0.out HZ1.out HZ2.out rfl (by decide) _ _ _ rfl (HO2.out.alloc _) ⟨w2.heap.size, 0, none⟩ 1 1 [.string F] rfl rfl (cs_new w2 _ _) (by intro u hu; simp at hu; subst hu; rfl) (by unfold maxLen; omega) (by omega) (by have := HN2.out; simp; omega) ?_; intro v' w3 ho3 hg3 _; obtain ⟨va, vc, rfl⟩ := cs_own ho3; have hT3 := two_row H22.out HO2.out hg3; have x0 := hT3.cells.2.2.2.2.1; have x1 := hT3.froz.2 0)
            have hO3 : w3.ownsRow N 9 1 (.slice va (fs.length + 1) vc) (fs ++ [f]).length (strsV (fs ++ [f])) := by rw [strsV_app, List.length_append, show strsV [f] = [.string F] by rw [HFe.out]; rfl]; exact ho3
            have HB3 := Lib.hid ((HB2.out.alloc HN2.out (.cells #[.string F] 9)).grown hg3 (by have := HN2.out; simp; omega) (fun k hk => (HO2.out.lt k hk).1))
            have HN3 : Hid (N ≤ w3.heap.size) := Lib.hid (by have h8 := HN2.out; have h9 := hg3.size; simp at h9; omega)
            have hbk : CBlk w3 (N + 1) 130 := ⟨_, _, hT3.row⟩
            have HO4 := Lib.hid (cs_ownKept hO3 hbk (by decide) (cs_set (a := ⟨N + 1, 0, none⟩) (u := .slice va (fs.length + 1) vc)))
            have hT4 := hT3.set (.slice va (fs.length + 1) vc)
            have HB4 := Lib.hid (HB3.out.setCell (p := ⟨N + 1, 0, none⟩) (Nat.le_succ N) (.slice va (fs.length + 1) vc))
            have HN4 : Hid (N ≤ (w3.setCell ⟨N + 1, 0, none⟩ (.slice va (fs.length + 1) vc)).heap.size) := Lib.hid (by rw [World.size_setCell]; exact HN3.out)
            obtain ⟨W, hW⟩ : ∃ W, w3.setCell ⟨N + 1, 0, none⟩ (.slice va (fs.length + 1) vc) = W := ⟨_, rfl⟩
            rw [hW] at HO4 hT4 HB4 HN4 ⊢
            have HT4 := Lib.hid hT4
            obtain ⟨c0, c1, c2, c3, d0, d1, d2, d3⟩ := hT4.cells
            have z0 := hT4.froz.1 0
            have z1 := hT4.froz.1 1
            have z2 := hT4.froz.1 2
            have z3 := hT4.froz.1 3
            have y0 := hT4.froz.2 0
            have y3 := hT4.froz.2 3
            clear hO3 ho3 hg3 hT3 x0 x1 hbk HB3 HN3 hT4 hW HO2 H22 HB2 HN2
            refine (H3.out _).mono ?_
            rintro e w5 ⟨rfl, hw5⟩
            subst hw5
            go_wp2_with fail
            refine bodyPost_ret (v := firstV (.slice va (fs.length + 1) vc) 0 0 (n + m + 2)) ?_ rfl (first_fin HN.out HO4.out HT4.out HB4.out HN4.out HRow.out HSz.out (cs_gtrans cs_set cs_set) (cs_gtrans (cs_gtrans (cs_gtrans cs_set cs_set) cs_set) cs_set))
            refine cs_result1 rfl _ _ _ (a := ⟨N, 0, none⟩) (by rfl) ?_
            unfold firstV
            go_simp
end Go.Proofs.YtmjchmamkjbgkaaGreatDoor

/- CsvRefAll -/
namespace Go.Proofs.YtmjchmamkjbgkaaGreatDoor
open Go.RowKit
set_option linter.unusedVariables false

theorem cs_result4 {fn : Func} {t u v x : Tmp} (h : fn.results = #[.tmp t, .tmp u, .tmp v, .tmp x]) (tmps : Array Value) (P : Program) (w : World) :
    (results fn tmps).run P w = .ok (.tuple #[tmps.getD t undef, tmps.getD u undef, tmps.getD v undef, tmps.getD x undef]) w := by
  simp [results, h]
theorem cs_row_kept {W w3 : World} {b B k n : Nat} {t u : TypeId} {cs : Array Value} {v : Value} {xs : List Value} {o : Obj} (hb : W.heap[b]? = some (.cells cs t (0, 0))) (ho : W.ownsRow B u k v n xs) (hne : t ≠ u) (hg : (W.alloc o).grownBy w3 v.ownBlock) : w3.heap[b]? = some (.cells cs t (0, 0)) := by
  have hl : b < W.heap.size := (Array.getElem?_eq_some_iff.1 hb).1
  have h1 : (W.alloc o).heap[b]? = some (.cells cs t (0, 0)) := (heap_alloc_old W o hl).trans hb
  have h2 : CBlk (W.alloc o) b t := ⟨_, _, h1⟩
  exact (hg.block b h2.lt (h2.far (ho.alloc o) hne)).trans h1
theorem cs_new2 (w : World) (o : Obj) (v : Value) (t : TypeId) : ∀ j u, [v][j]? = some u → ((w.alloc o).alloc (.cells #[v] t)).cell? ((⟨w.heap.size + 1, 0, none⟩ : Addr).add j) = some u := by
  have h := cs_new (w.alloc o) v t
  rw [World.size_alloc] at h
  exact h
/-- All rows of a text, and what is first wrong, as the reference's answer. -/
def RefAllPost (l : List UInt8) (w : World) (e : Ending) (w' : World) : Prop :=
  ∃ a cap vs, e = .returned (.tuple #[.slice a (allR l).1.length cap, .int .i64 ((allR l).2.2.1 : Nat), .int .i64 ((allR l).2.2.2 : Nat), .int .i64 ((allR l).2.1 : Nat)]) ∧ RIn w' a (allR l).1.length (allR l).1 vs ∧ Below w.heap.size w w'

set_option maxHeartbeats 4000000 in
set_option maxRecDepth 100000 in
theorem refAll_calls (s : ByteArray) (w : World) (hs : s.size ≤ 4000000) :
    Calls Tryz.prog 44 #[.string s] w (RefAllPost s.data.toList w) := by
  obtain ⟨l, hl⟩ : ∃ l, l = s.data.toList := ⟨_, rfl⟩
  rw [← hl]
  have HL := Lib.hid hl
  have HLs : Hid (l.length = s.size) := Lib.hid (by rw [hl, cs_size])
  have HFi := Lib.hid (fun t w1 (h : t.size ≤ 4000000) => first_calls t w1 h)
  obtain ⟨i0, hi, hz0, hz1, hz2⟩ := cs_parts cs_infoT
  have HI := Lib.hid hi
  have HZ0 := Lib.hid hz0
  have HZ1 := Lib.hid hz1
  have HZ2 := Lib.hid hz2
  clear hl hi hz0 hz1 hz2
  go_enter Tryz.func44, Tryz.ntmps44
  go_wp2_with fail
  go_loopw [6, 7] (fun o i wr => ∃ (n : Nat) (L : List (List (List UInt8))) (us : List Value), n ≤ s.size ∧ L.length ≤ n ∧ i = .int .i64 n ∧ Hid (allX l L (l.drop n)) ∧ Hid (wr.ownsRow w.heap.size 23 1 o L.length us) ∧ Hid (Rs wr us L) ∧ Hid (Below w.heap.size w wr)) (fun _ i _ => s.size - (intOf i).toNat)
  case atStart => exact ⟨0, [], [], Nat.zero_le _, Nat.le_refl _, rfl, Lib.hid (allX_refl _), Lib.hid (World.ownsRow_nil _ _ _ _), Lib.hid (Rs.nil _), Lib.hid (Below.refl _ _)⟩
  case round =>
    obtain ⟨n, L, us, hn, hLn, rfl, HX, HO, HS, HB⟩ := hrel
    obtain ⟨oa, oc, rfl⟩ := cs_own HO.out
    by_cases hlt : n < s.size
    case neg =>
      have HE : Hid (allR l = (L, 0, 0, 0)) := Lib.hid (allX_end (by
        have := HX.out
        rw [List.drop_eq_nil_iff.2 (by rw [HLs.out]; omega)] at this
        exact this))
      obtain ⟨a, cap, e2, h3⟩ := own_rin HO.out HS.out
      cases e2
      have HRI := Lib.hid h3
      clear h3 HX HO
      go_wp2_with fail
      (try simp only [Exit.inBlock, Exit.then]); refine bodyPost_ret (cs_result4 rfl _ _ _) rfl ?_
      rw [RefAllPost, HE.out]
      exact ⟨oa, oc, us, rfl, HRI.out, HB.out⟩
    case pos =>
      have hxn : l.drop n ≠ [] := fun e => by
        have := List.drop_eq_nil_iff.1 e
        rw [HLs.out] at this
        omega
      have hexs : (s.extract n s.size).size ≤ 4000000 := by rw [cs_size, cs_drop, List.length_drop, ← cs_size]; omega
      have H1 := Lib.hid (HFi.out (s.extract n s.size) wr hexs)
      rw [cs_drop, ← HL.out] at H1
      have hdl : (l.drop n).length = s.size - n := by rw [List.length_drop, HLs.out]
      clear hexs
      cases hrow : rowR (l.drop n) with
      | error y =>
        obtain ⟨er, c⟩ := y
        have HE : Hid (allR l = (L, er, L.length + 1, c)) := Lib.hid (allX_err HX.out hxn hrow)
        have HEr := Lib.hid (rowR_errs hrow)
        have H1' : Hid (Calls Tryz.prog 65 #[.string (s.extract n s.size)] wr fun e w' => e = .returned (.agg #[.slice none 0 0, .int .i64 (er : Nat), .int .i64 (c : Nat), .int .i64 0]) ∧ Below wr.heap.size wr w') := Lib.hid (H1.out.mono (by
          rintro e w' (⟨er', c', h1, h2, h3⟩ | ⟨_, _, _, _, h1, _⟩)
          · rw [hrow] at h1
            simp only [Except.error.injEq, Prod.mk.injEq] at h1
            obtain ⟨rfl, rfl⟩ := h1
            exact ⟨h2, h3⟩
          · rw [hrow] at h1; cases h1))
        have t1 : ((er : Int) != 0) = true := by
          have := HEr.out.1
          simp; omega
        clear H1 HX hrow hxn hdl
        go_wp2_with fail
        refine H1'.out.mono ?_
        rintro e w2 ⟨rfl, k2⟩
        have HB2 := Lib.hid (HB.out.trans (k2.mono HB.out.size))
        have HO2 := Lib.hid (cs_ownBelow HO.out k2)
        have HS2 := Lib.hid (HS.out.below k2)
        clear k2 H1' HB HO HS
        go_wp2_with fail
        obtain ⟨b, hb⟩ : ∃ b, b = w2.heap.size := ⟨_, rfl⟩
        have hA := (Below.refl w2.heap.size w2).alloc (Nat.le_refl _) (.cells #[.slice none 0 0, .int .i64 (er : Nat), .int .i64 (c : Nat), .int .i64 0] 130)
        have hblk := heap_alloc_new w2 (.cells #[.slice none 0 0, .int .i64 (er : Nat), .int .i64 (c : Nat), .int .i64 0] 130)
        have HB3 := Lib.hid (HB2.out.trans (hA.mono HB2.out.size))
        have HO3 := Lib.hid (cs_ownBelow HO2.out hA)
        have HS3 := Lib.hid (HS2.out.below hA)
        rw [← hb] at hblk ⊢
        obtain ⟨W, hW⟩ : ∃ W, w2.alloc (.cells #[.slice none 0 0, .int .i64 (er : Nat), .int .i64 (c : Nat), .int .i64 0] 130) = W := ⟨_, rfl⟩
        rw [hW] at hblk HB3 HO3 HS3 ⊢
        have c1 : W.cell? ⟨b, 1, none⟩ = some (.int .i64 (er : Nat)) := by rw [cell_of_row W b 1 _ _ _ hblk]; rfl
        have c2 : W.cell? ⟨b, 2, none⟩ = some (.int .i64 (c : Nat)) := by rw [cell_of_row W b 2 _ _ _ hblk]; rfl
        obtain ⟨a, cap, e2, h3⟩ := own_rin HO3.out HS3.out
        cases e2
        have HRI := Lib.hid h3
        have hwl : IntKind.i64.wrap ((L.length : Int) + 1) = (L.length : Int) + 1 := by rw [IntKind.wrap_i64]; omega
        clear h3 hA hb hW hblk HB2 HO2 HS2 HO3 HS3
        go_region
        all_goals (go_wp2_with fail)
        all_goals ((try simp only [Exit.inBlock, Exit.then]); refine bodyPost_ret (cs_result4 rfl _ _ _) rfl ?_)
        all_goals rw [RefAllPost, HE.out]
        all_goals exact ⟨oa, oc, us, by go_num, HRI.out.below ((Below.refl _ _).drew), HB3.out.drew⟩
      | ok y =>
        obtain ⟨fs, r⟩ := y
        have hfa := rowR_facts hrow
        have hrl := hfa.1 hxn
        obtain ⟨kk, hkk⟩ := hfa.2.2.2.2
        have HX2 : Hid (allX l (L ++ [fs]) (l.drop (n + ((l.drop n).length - r.length)))) := Lib.hid (by
          have h1 := allX_more HX.out hxn hrow
          have h2 : r = l.drop (n + ((l.drop n).length - r.length)) := by
            have h3 : r.length = (l.drop n).length - kk := by rw [hkk, List.length_drop]
            by_cases hk : kk ≤ (l.drop n).length
            · have : (l.drop n).length - r.length = kk := by omega
              rw [this, ← List.drop_drop]; exact hkk
            · have : (l.drop n).length - r.length = (l.drop n).length := by omega
              rw [this, ← List.drop_drop, List.drop_length]
              exact List.length_eq_zero_iff.1 (by omega)
          rw [← h2]; exact h1)
        obtain ⟨sz, hsz⟩ : ∃ sz, sz = (l.drop n).length - r.length := ⟨_, rfl⟩
        have hsz1 : 1 ≤ sz := by omega
        have hsz2 : n + sz ≤ s.size := by omega
        have H1' : Hid (Calls Tryz.prog 65 #[.string (s.extract n s.size)] wr fun e w' => ∃ a cap, e = .returned (.agg #[.slice a fs.length cap, .int .i64 0, .int .i64 0, .int .i64 (sz : Nat)]) ∧ TIn w' a fs.length fs ∧ TObj w' a ∧ Below wr.heap.size wr w') := Lib.hid (H1.out.mono (by
          rintro e w' (⟨er', c', h1, _⟩ | ⟨fs', r', a, cap, h1, h2, h3⟩)
          · rw [hrow] at h1; cases h1
          · rw [hrow] at h1
            simp only [Except.ok.injEq, Prod.mk.injEq] at h1
            obtain ⟨rfl, rfl⟩ := h1
            rw [hsz]
            exact ⟨a, cap, h2, h3⟩))
        rw [← hsz] at HX2
        clear H1 HX hrow hxn hdl hfa hrl hkk hsz
        go_wp2_with fail
        refine H1'.out.mono ?_
        rintro e w2 ⟨a, cap, rfl, hT2, hO2, k2⟩
        have hA := (Below.refl w2.heap.size w2).alloc (Nat.le_refl _) (.cells #[.slice a fs.length cap, .int .i64 0, .int .i64 0, .int .i64 (sz : Nat)] 130)
        have hblk := heap_alloc_new w2 (.cells #[.slice a fs.length cap, .int .i64 0, .int .i64 0, .int .i64 (sz : Nat)] 130)
        have HB2 := Lib.hid ((HB.out.trans (k2.mono HB.out.size)).trans (hA.mono (Nat.le_trans HB.out.size k2.size)))
        have HO2 := Lib.hid (cs_ownBelow (cs_ownBelow HO.out k2) hA)
        have HS2 := Lib.hid (((HS.out.below k2).snoc (c := cap) hT2 hO2).below hA)
        have hN := Nat.le_trans HB.out.size k2.size
        have HN := Lib.hid hN
        clear k2 hT2 hO2 HB HO HS
        go_wp2_with (at_builtin; refine wpList_append_own _ rfl _ _ 95 rfl w.heap.size 23 i0 _ 1 24 Tryz.underlying95 HI.out HZ0.out HZ1.out HZ2.out rfl (by decide) _ _ _ rfl (HO2.out.alloc _) ⟨w2.heap.size + 1, 0, none⟩ 1 1 [.slice a fs.length cap] rfl rfl (cs_new2 w2 _ _ _) (by intro u hu; simp at hu; subst hu; rfl) (by unfold maxLen; omega) (by omega) (by simp; omega) ?_; intro v' w4 ho4 hg4 _; have x3 := cell_of_row w4 w2.heap.size 3 _ _ _ (cs_row_kept hblk HO2.out (by decide) hg4))
        have hRow := HO2.out.alloc (.cells #[.slice a fs.length cap] 23)
        have HB4 := Lib.hid ((HB2.out.alloc (by simp; omega) (.cells #[.slice a fs.length cap] 23)).grown hg4 (by simp; omega) (fun k hk => (HO2.out.lt k hk).1))
        have HO4 : Hid (w4.ownsRow w.heap.size 23 1 v' (L ++ [fs]).length (us ++ [.slice a fs.length cap])) := Lib.hid (by rw [List.length_append]; exact ho4)
        have hb1 := (Below.refl (w2.alloc (.cells #[.slice a fs.length cap, .int .i64 0, .int .i64 0, .int .i64 (sz : Nat)] 130)).heap.size _).alloc (Nat.le_refl _) (.cells #[.slice a fs.length cap] 23)
        have HS4 := Lib.hid ((HS2.out.below hb1).grownRow hRow (by decide) hg4)
        clear ho4 hg4 hRow hb1 HB2 HO2 HS2 hblk hA x3
        go_wp2_with fail
        have HLn : Hid ((L ++ [fs]).length = L.length + 1) := Lib.hid (by simp)
        go_roundw
        case rel => exact ⟨n + sz, L ++ [fs], us ++ [.slice a fs.length cap], hsz2, by rw [HLn.out]; omega, by go_num, HX2, HO4, HS4, HB4⟩
        case measure => simp [intOf]; omega
end Go.Proofs.YtmjchmamkjbgkaaGreatDoor
