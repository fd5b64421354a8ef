/- What the reference's field does with any text. -/
import Derived.Test.YtkihjfdpfglkbaaDoorCsvOwn
import Derived.Test.YtkihjfdpfglkbaaDoorCsvRef
import Derived.Test.YtkihjfdpfglkbaaDoorCsvCut
namespace Go.Proofs.YtkihjfdpfglkbaaDoor
open Go.RowKit
set_option linter.unusedVariables false

def refFV : Option (List UInt8 × Nat) → Value
  | none => .tuple #[.string ⟨#[]⟩, .int .i64 0, .int .i64 17]
  | some (f, n) => .tuple #[.string ⟨f.toArray⟩, .int .i64 (n : Nat), .int .i64 0]
/-- What is left to be told of a field between quotes, n bytes gone through, t gathered. -/
def qLeft (l : List UInt8) (t : List UInt8) (n : Nat) : Prop := fieldF l = (endQ (l.drop n)).map fun k => (t ++ unqL ((l.drop n).take k), k + n + 1)
theorem qLeft_start {l : List UInt8} (h : l.head? = some 34) : qLeft l [] 1 := by
  rw [qLeft, fieldF, if_pos h]
  rfl
theorem qLeft_else {l t : List UInt8} {n : Nat} {c : UInt8} {r : List UInt8} (h : qLeft l t n) (e : l.drop n = c :: r) (hc : c ≠ 34) : qLeft l (t ++ [c]) (n + 1) := by
  have e2 : l.drop (n + 1) = r := by rw [← List.drop_drop, e]; rfl
  rw [qLeft] at h ⊢
  rw [h, e, e2, endQ_else hc, Option.map_map]
  congr 1
  funext k
  simp [unqL_else hc]
  omega
theorem qLeft_two {l t : List UInt8} {n : Nat} {r : List UInt8} (h : qLeft l t n) (e : l.drop n = 34 :: 34 :: r) : qLeft l (t ++ [34]) (n + 2) := by
  have e2 : l.drop (n + 2) = r := by rw [← List.drop_drop, e]; rfl
  rw [qLeft] at h ⊢
  rw [h, e, e2, endQ_two, Option.map_map]
  congr 1
  funext k
  simp [unqL_two]
  omega
theorem qLeft_end {l t : List UInt8} {n : Nat} {r : List UInt8} (h : qLeft l t n) (e : l.drop n = 34 :: r) (hr : r.head? ≠ some 34) : fieldF l = some (t, n + 1) := by
  rw [qLeft] at h
  rw [h, e, endQ_end hr]
  simp [unqL]
theorem qLeft_none {l t : List UInt8} {n : Nat} (h : qLeft l t n) (e : l.drop n = []) : fieldF l = none := by
  rw [qLeft] at h
  rw [h, e]; rfl

set_option maxHeartbeats 4000000 in
set_option maxRecDepth 100000 in
theorem refField_calls (s : ByteArray) (w : World) (hs : s.size ≤ 4000000) :
    Calls Tryd.prog 21 #[.string s] w fun e w' => e = .returned (refFV (fieldF s.data.toList)) ∧ Below w.heap.size w w' := by
  have HPl := Lib.hid (fun c w1 => refPlain_calls c w1)
  by_cases h34 : s.data.toList.head? = some 34
  case pos =>
    have h0s : 0 < s.size := by
      rw [cs_size]
      cases e : s.data.toList with
      | nil => rw [e] at h34; cases h34
      | cons c r => simp
    have hc0 : s[0] = 34 := by
      have := cs_at s 0 h0s
      rw [← List.head?_eq_getElem?, h34] at this
      exact (Option.some.inj this).symm
    have t0 : ((s.size : Int) == 0) = false := beq_eq_false_iff_ne.2 (by omega)
    have t0' : s.toList.isEmpty = false := by
      rw [cs_tl]
      cases e : s.data.toList with
      | nil => rw [e] at h34; cases h34
      | cons c r => rfl
    have t1 : ((s[0].toNat : Int) != 34) = false := by rw [hc0]; rfl
    have HQ := Lib.hid (qLeft_start h34)
    clear h34 hc0
    go_enter Tryd.func21, Tryd.ntmps21
    go_wp2_with fail
    go_loopw [5, 7] (fun o i wr => ∃ (k : Nat) (t : List UInt8), k ≤ s.size ∧ i = .int .i64 k ∧ t.length ≤ k ∧ Hid (qLeft s.data.toList t k) ∧ Hid (wr.ownsRow w.heap.size 5 1 o t.length (Lib.byteCells t)) ∧ Hid (Below w.heap.size w wr)) (fun _ i _ => s.size - (intOf i).toNat)
    case atStart => exact ⟨1, [], h0s, rfl, by simp, HQ, Lib.hid (World.ownsRow_nil _ _ _ _), Lib.hid (Below.refl _ _)⟩
    case round =>
      rename_i o _
      obtain ⟨k, t, hk, rfl, htl, HX, HO, HB⟩ := hrel
      by_cases hlt : k < s.size
      case neg =>
        have HE : Hid (refFV (fieldF s.data.toList) = .tuple #[.string ⟨#[]⟩, .int .i64 0, .int .i64 17]) := Lib.hid (by rw [qLeft_none HX.out (List.drop_eq_nil_iff.2 (by rw [← cs_size]; omega))]; rfl)
        go_wp2_with fail
        go_ret3
        exact ⟨by rw [HE.out]; rfl, HB.out⟩
      case pos =>
        have hd := cs_cons s k hlt
        by_cases hc : s[k] = 34
        case neg =>
          have t2 : ((s[k].toNat : Int) != 34) = true := by rw [bne, show ((s[k].toNat : Int) == 34) = (s[k] == 34) from cs_beq s[k] 34 (by omega)]; simpa using hc
          have HX2 := Lib.hid (qLeft_else HX.out hd hc)
          have htl2 : (t ++ [s[k]]).length ≤ k + 1 := by simp; omega
          have HTL := Lib.hid htl2
          clear hd hc htl2
          go_wp2_with (at_builtin; refine wpList_append_c rfl _ _ rfl w.heap.size _ t rfl wr s[k] rfl HO.out 1 1 rfl (by omega) HB.out.size w.heap.size w HB.out (Nat.le_refl _) ?_; intro v' w2 HO2 HB2)
          go_roundw
          case rel => exact ⟨k + 1, _, hlt, by go_num, HTL.out, HX2, HO2, HB2⟩
          case measure => simp [intOf]; omega
        case pos =>
          have t2 : ((s[k].toNat : Int) != 34) = false := by rw [hc]; rfl
          rw [hc] at hd
          by_cases hlt2 : k + 1 < s.size
          case pos =>
            have hd2 := cs_cons s (k + 1) hlt2
            have t3 : decide ((k : Int) + 1 < (s.size : Int)) = true := decide_eq_true (by omega)
            by_cases hc2 : s[k + 1] = 34
            case pos =>
              have t4 : ((s[k + 1].toNat : Int) == 34) = true := by rw [hc2]; rfl
              have HX2 := Lib.hid (qLeft_two HX.out (by rw [hd, hd2, hc2]))
              have HTL : Hid ((t ++ [(34 : UInt8)]).length ≤ k + 2) := Lib.hid (by simp; omega)
              have hlt3 : k + 2 ≤ s.size := by omega
              clear hd hd2 hc hc2
              go_wp2_with (at_builtin; refine wpList_append_c rfl _ _ rfl w.heap.size _ t rfl wr 34 rfl HO.out 1 1 rfl (by omega) HB.out.size w.heap.size w HB.out (Nat.le_refl _) ?_; intro v' w2 HO2 HB2)
              go_roundw
              case rel => exact ⟨k + 2, _, hlt3, by go_num, HTL.out, HX2, HO2, HB2⟩
              case measure => simp [intOf]; omega
            case neg =>
              have t4 : ((s[k + 1].toNat : Int) == 34) = false := by rw [show ((s[k + 1].toNat : Int) == 34) = (s[k + 1] == 34) from cs_beq s[k + 1] 34 (by omega)]; simpa using hc2
              have HE : Hid (refFV (fieldF s.data.toList) = .tuple #[.string ⟨t.toArray⟩, .int .i64 ((k + 1 : Nat) : Int), .int .i64 0]) := Lib.hid (by rw [qLeft_end HX.out hd (by rw [hd2]; simpa using hc2)]; rfl)
              have hcv := cs_text HO.out
              clear hd hd2 hc hc2
              go_wp2_with fail
              go_ret3
              exact ⟨by rw [HE.out]; go_num, HB.out⟩
          case neg =>
            have t3 : decide ((k : Int) + 1 < (s.size : Int)) = false := decide_eq_false (by omega)
            have HE : Hid (refFV (fieldF s.data.toList) = .tuple #[.string ⟨t.toArray⟩, .int .i64 ((k + 1 : Nat) : Int), .int .i64 0]) := Lib.hid (by rw [qLeft_end HX.out hd (by rw [List.drop_eq_nil_iff.2 (by rw [← cs_size]; omega)]; simp)]; rfl)
            have hcv := cs_text HO.out
            clear hd hc
            go_wp2_with fail
            go_ret3
            exact ⟨by rw [HE.out]; go_num, HB.out⟩
  case neg =>
    have HF : Hid (fieldF s.data.toList = if (s.data.toList.drop (plSize s.data.toList)).head? = some 34 then none else some (s.data.toList.take (plSize s.data.toList), plSize s.data.toList)) := Lib.hid (by rw [fieldF, if_neg h34])
    have hsize0 : s.size = 0 ∨ 0 < s.size := by omega
    have key : (s.size = 0 ∧ ((s.size : Int) == 0) = true ∧ s.toList.isEmpty = true) ∨ (∃ h : 0 < s.size, ((s.size : Int) == 0) = false ∧ s.toList.isEmpty = false ∧ ((s[0].toNat : Int) != 34) = true) := by
      rcases hsize0 with h | h
      · exact .inl ⟨h, by rw [h]; rfl, by rw [cs_tl, ba_nil.1 h]; rfl⟩
      · refine .inr ⟨h, beq_eq_false_iff_ne.2 (by omega), ?_, ?_⟩
        · rw [cs_tl]
          cases e : s.data.toList with
          | nil => rw [cs_size, e] at h; simp at h
          | cons c r => rfl
        · have := cs_at s 0 h
          have hc : s[0] ≠ 34 := fun e => h34 (by rw [List.head?_eq_getElem?, this, e])
          rw [bne, show ((s[0].toNat : Int) == 34) = (s[0] == 34) from cs_beq s[0] 34 (by omega)]; simpa using hc
    clear h34 hsize0
    rcases key with ⟨h0, t0, t0'⟩ | ⟨h0, t0, t0', t1⟩
    all_goals (go_enter Tryd.func21, Tryd.ntmps21)
    all_goals (go_wp2_with fail)
    all_goals (go_loopw [5, 6] (fun o i wr => ∃ (k : Nat), k ≤ s.size ∧ i = .int .i64 k ∧ Hid (plTo s.data.toList k) ∧ Hid (wr.ownsRow w.heap.size 5 1 o (s.data.toList.take k).length (Lib.byteCells (s.data.toList.take k))) ∧ Hid (Below w.heap.size w wr)) (fun _ i _ => s.size - (intOf i).toNat))
    case atStart => exact ⟨0, by omega, rfl, Lib.hid (fun c h => by simp at h), Lib.hid (World.ownsRow_nil _ _ _ _), Lib.hid (Below.refl _ _)⟩
    case atStart => exact ⟨0, by omega, rfl, Lib.hid (fun c h => by simp at h), Lib.hid (World.ownsRow_nil _ _ _ _), Lib.hid (Below.refl _ _)⟩
    all_goals try clear t1
    all_goals clear t0 t0'
    all_goals try clear h0
    all_goals
      rename_i o _
      obtain ⟨k, hk, rfl, HP, HO, HB⟩ := hrel
      by_cases hlt : k < s.size
      case neg =>
        have HN : Hid (plSize s.data.toList = k) := Lib.hid (plSize_of _ _ (by rw [← cs_size]; exact hk) HP.out (fun c hc => by rw [List.getElem?_eq_none (by rw [← cs_size]; omega)] at hc; cases hc))
        have HE : Hid (refFV (fieldF s.data.toList) = .tuple #[.string ⟨(s.data.toList.take k).toArray⟩, .int .i64 (k : Int), .int .i64 0]) := Lib.hid (by rw [HF.out, HN.out, List.drop_eq_nil_iff.2 (by rw [← cs_size]; omega), if_neg (by simp)]; rfl)
        have hcv := cs_text HO.out
        generalize s.data.toList.take k = T at hcv HE HO
        go_wp2_with fail
        go_ret3
        exact ⟨by rw [HE.out]; rfl, HB.out⟩
      case pos =>
        have hd := cs_cons s k hlt
        have hat := cs_at s k hlt
        have H1 := Lib.hid (fun w1 => HPl.out s[k] w1)
        cases hp : plC s[k]
        · have HN : Hid (plSize s.data.toList = k) := Lib.hid (plSize_of _ _ (by rw [← cs_size]; exact hk) HP.out (fun c hc => by rw [hat] at hc; cases hc; exact hp))
          rw [hp] at H1
          by_cases hc : s[k] = 34
          · have t2 : ((s[k].toNat : Int) == 34) = true := by rw [hc]; rfl
            have HE : Hid (refFV (fieldF s.data.toList) = .tuple #[.string ⟨#[]⟩, .int .i64 0, .int .i64 17]) := Lib.hid (by rw [HF.out, HN.out, hd, hc, if_pos (by rfl)]; rfl)
            clear hd hat hp hc
            go_wp2_with fail
            refine (H1.out _).mono ?_
            rintro e w1 ⟨rfl, rfl⟩
            go_wp2_with fail
            go_ret3
            exact ⟨by rw [HE.out]; rfl, HB.out⟩
          · have t2 : ((s[k].toNat : Int) == 34) = false := by rw [show ((s[k].toNat : Int) == 34) = (s[k] == 34) from cs_beq s[k] 34 (by omega)]; simpa using hc
            have HE : Hid (refFV (fieldF s.data.toList) = .tuple #[.string ⟨(s.data.toList.take k).toArray⟩, .int .i64 (k : Int), .int .i64 0]) := Lib.hid (by rw [HF.out, HN.out, hd, if_neg (by simpa using hc)]; rfl)
            have hcv := cs_text HO.out
            generalize s.data.toList.take k = T at hcv HE HO
            clear hd hat hp hc
            go_wp2_with fail
            refine (H1.out _).mono ?_
            rintro e w1 ⟨rfl, rfl⟩
            go_wp2_with fail
            go_ret3
            exact ⟨by rw [HE.out]; rfl, HB.out⟩
        · have HP2 : Hid (plTo s.data.toList (k + 1)) := Lib.hid (plTo_succ (by rw [← cs_size]; exact hlt) HP.out (by
            have := hat
            rw [List.getElem?_eq_getElem (by rw [← cs_size]; exact hlt)] at this
            rw [Option.some.inj this]; exact hp))
          have HTk : Hid (s.data.toList.take (k + 1) = s.data.toList.take k ++ [s[k]]) := Lib.hid (by
            have := hat
            rw [List.getElem?_eq_getElem (by rw [← cs_size]; exact hlt)] at this
            rw [List.take_succ_eq_append_getElem (by rw [← cs_size]; exact hlt), Option.some.inj this])
          have htl : (s.data.toList.take k).length ≤ 1000000000 := by rw [List.length_take, ← cs_size]; omega
          rw [hp] at H1
          clear hd hat hp
          go_wp2_with fail
          refine (H1.out _).mono ?_
          rintro e w1 ⟨rfl, rfl⟩
          go_wp2_with (at_builtin; refine wpList_append_c rfl _ _ rfl w.heap.size _ (s.data.toList.take k) rfl wr s[k] rfl HO.out 1 1 rfl htl HB.out.size w.heap.size w HB.out (Nat.le_refl _) ?_; intro v' w2 HO2 HB2)
          rw [← HTk.out] at HO2
          go_roundw
          case rel => exact ⟨k + 1, hlt, by go_num, HP2, HO2, HB2⟩
          case measure => simp [intOf]; omega
end Go.Proofs.YtkihjfdpfglkbaaDoor
