/- What the reference's First does with any text. -/
import Derived.Test.YtkihjfdpfglkbaaDoorCsvRefField
import Derived.Test.YtkihjfdpfglkbaaDoorCsvNext2
namespace Go.Proofs.YtkihjfdpfglkbaaDoor
open Go.RowKit
set_option linter.unusedVariables false

def firstV (v : Value) (e c n : Nat) : Value := .agg #[v, .int .i64 (e : Nat), .int .i64 (c : Nat), .int .i64 (n : Nat)]
/-- What is told of the row that a text begins with. -/
def FirstPost (l : List UInt8) (w : World) (e : Ending) (w' : World) : Prop :=
  (∃ er c, rowR l = .error (er, c) ∧ e = .returned (firstV (.slice none 0 0) er c 0) ∧ Below w.heap.size w w') ∨
  (∃ fs r a cap, rowR l = .ok (fs, r) ∧ e = .returned (firstV (.slice a fs.length cap) 0 0 (l.length - r.length)) ∧ TIn w' a fs.length fs ∧ TObj w' a ∧ Below w.heap.size w w')
/-- The two variables of a call of First. -/
structure Two (w : World) (N : Nat) (o : Value) : Prop where
  res : w.heap[N]? = some (.cells #[.slice none 0 0, .int .i64 0, .int .i64 0, .int .i64 0] 37 (0, 0))
  row : w.heap[N + 1]? = some (.cells #[o, .int .i64 0, .int .i64 0, .int .i64 0] 37 (0, 0))
theorem Two.below {w w' : World} {N : Nat} {o : Value} (h : Two w N o) (hb : Below w.heap.size w w') : Two w' N o :=
  ⟨(hb.block _ (Array.getElem?_eq_some_iff.1 h.res).1).trans h.res, (hb.block _ (Array.getElem?_eq_some_iff.1 h.row).1).trans h.row⟩
theorem Two.cells {w : World} {N : Nat} {o : Value} (h : Two w N o) :
    w.cell? ⟨N, 0, none⟩ = some (.slice none 0 0) ∧ w.cell? ⟨N, 1, none⟩ = some (.int .i64 0) ∧ w.cell? ⟨N, 2, none⟩ = some (.int .i64 0) ∧ w.cell? ⟨N, 3, none⟩ = some (.int .i64 0) ∧
      w.cell? ⟨N + 1, 0, none⟩ = some o ∧ w.cell? ⟨N + 1, 1, none⟩ = some (.int .i64 0) ∧ w.cell? ⟨N + 1, 2, none⟩ = some (.int .i64 0) ∧ w.cell? ⟨N + 1, 3, none⟩ = some (.int .i64 0) := by
  refine ⟨?_, ?_, ?_, ?_, ?_, ?_, ?_, ?_⟩
  · rw [cell_of_row w N 0 _ _ _ h.res]; rfl
  · rw [cell_of_row w N 1 _ _ _ h.res]; rfl
  · rw [cell_of_row w N 2 _ _ _ h.res]; rfl
  · rw [cell_of_row w N 3 _ _ _ h.res]; rfl
  · rw [cell_of_row w (N + 1) 0 _ _ _ h.row]; rfl
  · rw [cell_of_row w (N + 1) 1 _ _ _ h.row]; rfl
  · rw [cell_of_row w (N + 1) 2 _ _ _ h.row]; rfl
  · rw [cell_of_row w (N + 1) 3 _ _ _ h.row]; rfl
theorem Two.froz {w : World} {N : Nat} {o : Value} (h : Two w N o) : (∀ j, w.frozen? ⟨N, j, none⟩ = false) ∧ ∀ j, w.frozen? ⟨N + 1, j, none⟩ = false :=
  ⟨fun j => frozen_of_row w N j _ _ h.res, fun j => frozen_of_row w (N + 1) j _ _ h.row⟩
theorem Two.grown {w w' : World} {row : Option Nat} {N : Nat} {o : Value} (h : Two w N o) (hg : w.grownBy w' row) (h1 : some N ≠ row) (h2 : some (N + 1) ≠ row) : Two w' N o :=
  ⟨(hg.block N (Array.getElem?_eq_some_iff.1 h.res).1 h1).trans h.res, (hg.block (N + 1) (Array.getElem?_eq_some_iff.1 h.row).1 h2).trans h.row⟩
theorem Two.set {w : World} {N : Nat} {o : Value} (h : Two w N o) (v : Value) : Two (w.setCell ⟨N + 1, 0, none⟩ v) N v := by
  refine ⟨?_, ?_⟩
  · rw [heap_setCell_other _ _ _ _ (by simp)]; exact h.res
  · rw [heap_setCell_same w (N + 1) 0 _ _ v h.row]; rfl
theorem cs_set4 {B g : Nat} {a w : World} (h : Below B a w) (hg : B ≤ g) (x y z u : Value) : Below B a ((((w.setCell ⟨g, 0, none⟩ x).setCell ⟨g, 1, none⟩ y).setCell ⟨g, 2, none⟩ z).setCell ⟨g, 3, none⟩ u) :=
  (((h.setCell hg _).setCell hg _).setCell hg _).setCell hg _
theorem first_fin {w W Wa Wb : World} {l r : List UInt8} {N k : Nat} {v : Value} {L : List (List UInt8)} (hN : N = w.heap.size) (hO : W.ownsRow N 9 1 v L.length (strsV L)) (hT : Two W N v) (hB : Below N w W) (hs : N ≤ W.heap.size)
    (hr : rowR l = .ok (L, r)) (hk : l.length - r.length = k) (g1 : W.grownBy Wa (some (N + 1))) (g2 : Wa.grownBy Wb (some N)) : FirstPost l w (.returned (firstV v 0 0 k)) Wb := by
  have b1 : CBlk W (N + 1) 37 := ⟨_, _, hT.row⟩
  have b0 : CBlk W N 37 := ⟨_, _, hT.res⟩
  have b0' := b0.grown g1 (by simp)
  obtain ⟨a, cap, rfl, h1, h2⟩ := own_tin (cs_ownKept (cs_ownKept hO b1 (by decide) g1) b0' (by decide) g2)
  subst hk
  refine .inr ⟨L, r, a, cap, hr, rfl, h1, h2, ?_⟩
  rw [← hN]
  exact (hB.grown g1 hs (fun j hj => by cases hj; exact Nat.le_succ N)).grown g2 (Nat.le_trans hs g1.size) (fun j hj => by cases hj; exact Nat.le_refl N)
theorem two_row {w w' : World} {N B k : Nat} {o v : Value} {xs : List Value} {f : Obj} (h : Two w N o) (ho : w.ownsRow B 9 1 v k xs) (hg : (w.alloc f).grownBy w' v.ownBlock) : Two w' N o := by
  have h1 := h.below ((Below.refl w.heap.size w).alloc (Nat.le_refl _) f)
  have b1 : CBlk (w.alloc f) N 37 := ⟨_, _, h1.res⟩
  have b2 : CBlk (w.alloc f) (N + 1) 37 := ⟨_, _, h1.row⟩
  exact h1.grown hg (b1.far (ho.alloc f) (by decide)) (b2.far (ho.alloc f) (by decide))
theorem endsN_pos {r : List UInt8} : endsN r = 0 ∨ endsN r = 1 ∨ endsN r = 2 := by
  unfold endsN
  split
  · exact .inr (.inr rfl)
  · split
    · exact .inr (.inl rfl)
    · exact .inl rfl

set_option maxHeartbeats 8000000 in
set_option maxRecDepth 100000 in
theorem first_calls (s : ByteArray) (w : World) (hs : s.size ≤ 4000000) :
    Calls Tryd.prog 12 #[.string s] w (FirstPost s.data.toList w) := by
  obtain ⟨l, hl⟩ : ∃ l, l = s.data.toList := ⟨_, rfl⟩
  rw [← hl]
  have HL := Lib.hid hl
  have HLs : Hid (l.length = s.size) := Lib.hid (by rw [hl, cs_size])
  have HFd := Lib.hid (fun t w1 (h : t.size ≤ 4000000) => refField_calls t w1 h)
  have HEn := Lib.hid (fun t w1 (h : t.size ≤ 9223372036854775807) => ends_calls t w1 h)
  obtain ⟨i0, hi, hz0, hz1, hz2⟩ := cs_parts cs_infoS
  have HI := Lib.hid hi
  have HZ0 := Lib.hid hz0
  have HZ1 := Lib.hid hz1
  have HZ2 := Lib.hid hz2
  have h2 : Two ((w.alloc (.cells #[.slice none 0 0, .int .i64 0, .int .i64 0, .int .i64 0] 37)).alloc (.cells #[.slice none 0 0, .int .i64 0, .int .i64 0, .int .i64 0] 37)) w.heap.size (.slice none 0 0) := by
    refine ⟨?_, ?_⟩
    · rw [heap_alloc_old _ _ (by simp)]; exact heap_alloc_new _ _
    · have := heap_alloc_new (w.alloc (.cells #[.slice none 0 0, .int .i64 0, .int .i64 0, .int .i64 0] 37)) (.cells #[.slice none 0 0, .int .i64 0, .int .i64 0, .int .i64 0] 37)
      simpa using this
  have H2 := Lib.hid h2
  have HB0 := Lib.hid (((Below.refl w.heap.size w).alloc (Nat.le_refl _) (.cells #[.slice none 0 0, .int .i64 0, .int .i64 0, .int .i64 0] 37)).alloc (by simp) (.cells #[.slice none 0 0, .int .i64 0, .int .i64 0, .int .i64 0] 37))
  clear hl hi hz0 hz1 hz2 h2
  go_enter Tryd.func12, Tryd.ntmps12
  go_wp2_with fail
  obtain ⟨N, hN⟩ : ∃ N, N = w.heap.size := ⟨_, rfl⟩
  have HN := Lib.hid hN
  obtain ⟨W0, hW0⟩ : ∃ W0, ((w.alloc (.cells #[.slice none 0 0, .int .i64 0, .int .i64 0, .int .i64 0] 37)).alloc (.cells #[.slice none 0 0, .int .i64 0, .int .i64 0, .int .i64 0] 37)) = W0 := ⟨_, rfl⟩
  rw [hW0] at H2 HB0 ⊢
  rw [← hN] at H2 HB0 ⊢
  clear hW0 hN
  go_loopw [4] (fun i wr => ∃ (n : Nat) (fs : List (List UInt8)) (o : Value), n ≤ s.size ∧ fs.length ≤ n ∧ i = .int .i64 n ∧ Hid (rowX l fs (l.drop n)) ∧ Hid (wr.ownsRow N 9 1 o fs.length (strsV fs)) ∧ Hid (Two wr N o) ∧ Hid (Below N w wr)) (fun i _ => s.size + 1 - (intOf i).toNat)
  case atStart => exact ⟨0, [], _, Nat.zero_le _, Nat.le_refl _, rfl, Lib.hid (rowX_refl _), Lib.hid (World.ownsRow_nil _ _ _ _), H2, HB0⟩
  case round =>
    clear H2 HB0
    obtain ⟨n, fs, o, hn, hfn, rfl, HX, HO, H2, HB⟩ := hrel
    obtain ⟨oa, oc, rfl⟩ := cs_own HO.out
    obtain ⟨c0, c1, c2, c3, d0, d1, d2, d3⟩ := H2.out.cells
    have hexs : (s.extract n s.size).size ≤ 4000000 := by rw [cs_size, cs_drop, List.length_drop, ← cs_size]; omega
    have H1 := Lib.hid (HFd.out (s.extract n s.size) wr hexs)
    rw [cs_drop, ← HL.out] at H1
    clear hexs
    have HNr : Hid (N ≤ wr.heap.size) := Lib.hid (Nat.le_trans (Nat.le_of_eq HN.out) HB.out.size)
    clear c0 c1 c2 c3 d1 d2 d3
    cases hff : fieldF (l.drop n) with
    | none =>
      have hlt : n < s.size := by
        rcases Nat.lt_or_ge n s.size with h | h
        · exact h
        · rw [List.drop_eq_nil_iff.2 (by rw [HLs.out]; exact h)] at hff
          cases hff
      have HE := Lib.hid (rowX_err HX.out (e := 17) (by rw [fieldR, hff]))
      rw [hff] at H1
      have H1' : Hid (Calls Tryd.prog 21 #[.string (s.extract n s.size)] wr fun e w' => e = .returned (.tuple #[.string ⟨#[]⟩, .int .i64 0, .int .i64 17]) ∧ Below wr.heap.size wr w') := H1
      obtain ⟨q, hq⟩ : ∃ q : Bool, ((s[n].toNat : Int) == 34) = q := ⟨_, rfl⟩
      have t1 : decide ((n : Int) < (s.size : Int)) = true := decide_eq_true (by omega)
      clear H1 hff HX
      go_wp2_with fail
      refine H1'.out.mono ?_
      rintro e w2 ⟨rfl, k2⟩
      have HN2 := Lib.hid (Nat.le_trans HNr.out k2.size)
      have HB2 := Lib.hid (HB.out.trans (k2.mono HNr.out))
      have HO2 := Lib.hid (cs_ownBelow HO.out k2)
      have h22 := H2.out.below k2
      have H22 := Lib.hid h22
      obtain ⟨c0, c1, c2, c3, d0, d1, d2, d3⟩ := h22.cells
      have z0 := h22.froz.1 0
      have z1 := h22.froz.1 1
      have z2 := h22.froz.1 2
      have z3 := h22.froz.1 3
      have y0 := h22.froz.2 0
      have y3 := h22.froz.2 3
      clear k2 h22 H2 HB HO HNr
      clear d0
      go_wp2_with fail
      refine bodyPost_ret (v := firstV (.slice none 0 0) 17 (fs.length + 1) 0) ?_ rfl (.inl ⟨17, fs.length + 1, HE.out, rfl, ?_⟩)
      · refine cs_result1 rfl _ _ _ (a := ⟨N, 0, none⟩) (by rfl) ?_
        unfold firstV
        go_simp
      · rw [← HN.out]; exact cs_set4 HB2.out (Nat.le_refl _) _ _ _ _
    | some y =>
      obtain ⟨f, m⟩ := y
      have hm := fieldF_le hff
      rw [List.length_drop, HLs.out] at hm
      have hmn : n + m ≤ s.size := by omega
      have hfl := fieldF_len hff
      rw [List.length_drop, HLs.out] at hfl
      rw [hff] at H1
      have H1a : Hid (Calls Tryd.prog 21 #[.string (s.extract n s.size)] wr fun e w' => e = .returned (.tuple #[.string ⟨f.toArray⟩, .int .i64 (m : Nat), .int .i64 0]) ∧ Below wr.heap.size wr w') := H1
      obtain ⟨F, hF⟩ : ∃ F : ByteArray, F = ⟨f.toArray⟩ := ⟨_, rfl⟩
      have hFs : F.size = f.length := by rw [hF, cs_size]
      rw [← hF] at H1a
      have HFe := Lib.hid hF
      have HRd : Hid ((l.drop n).drop m = l.drop (n + m)) := Lib.hid (by rw [List.drop_drop])
      clear H1 hF hm
      by_cases h4 : 4096 < f.length
      case pos =>
        have hlt : n < s.size := by omega
        have HE := Lib.hid (rowX_err HX.out (e := 3) (by rw [fieldR, hff]; simp only; rw [if_pos h4]))
        obtain ⟨q, hq⟩ : ∃ q : Bool, ((s[n].toNat : Int) == 34) = q := ⟨_, rfl⟩
        have t1 : decide ((n : Int) < (s.size : Int)) = true := decide_eq_true (by omega)
        have t4 : decide ((4096 : Int) < (F.size : Int)) = true := decide_eq_true (by omega)
        clear hff HX h4 hfl hFs
        go_wp2_with fail
        refine H1a.out.mono ?_
        rintro e w2 ⟨rfl, k2⟩
        have HN2 := Lib.hid (Nat.le_trans HNr.out k2.size)
        have HB2 := Lib.hid (HB.out.trans (k2.mono HNr.out))
        have HO2 := Lib.hid (cs_ownBelow HO.out k2)
        have h22 := H2.out.below k2
        have H22 := Lib.hid h22
        obtain ⟨c0, c1, c2, c3, d0, d1, d2, d3⟩ := h22.cells
        have z0 := h22.froz.1 0
        have z1 := h22.froz.1 1
        have z2 := h22.froz.1 2
        have z3 := h22.froz.1 3
        have y0 := h22.froz.2 0
        have y3 := h22.froz.2 3
        clear k2 h22 H2 HB HO HNr
        clear d0
        go_wp2_with fail
        refine bodyPost_ret (v := firstV (.slice none 0 0) 3 (fs.length + 1) 0) ?_ rfl (.inl ⟨3, fs.length + 1, HE.out, rfl, ?_⟩)
        · refine cs_result1 rfl _ _ _ (a := ⟨N, 0, none⟩) (by rfl) ?_
          unfold firstV
          go_simp
        · rw [← HN.out]; exact cs_set4 HB2.out (Nat.le_refl _) _ _ _ _
      have t4 : decide ((4096 : Int) < (F.size : Int)) = false := decide_eq_false (by omega)
      cases he : endsF (l.drop (n + m))
      case false =>
        have hne : l.drop (n + m) ≠ [] := fun e => by rw [e] at he; cases he
        have hltm : n + m < s.size := by
          rcases Nat.lt_or_ge (n + m) s.size with h | h
          · exact h
          · exact absurd (List.drop_eq_nil_iff.2 (by rw [HLs.out]; exact h)) hne
        have hlt : n < s.size := by omega
        have hhead : (l.drop n).head? = some s[n] := by rw [HL.out, cs_cons s n hlt]; rfl
        have hrest : l.drop (n + m) = s[n + m] :: s.data.toList.drop (n + m + 1) := by rw [HL.out]; exact cs_cons s (n + m) hltm
        have hparts : s[n + m] ≠ 44 ∧ [13, 10].isPrefixOf (l.drop (n + m)) = false := by
          rw [endsF] at he
          simp only [Bool.or_eq_false_iff] at he
          refine ⟨fun e => ?_, he.2.2⟩
          have h3 := he.2.1
          rw [hrest, e] at h3
          simp at h3
        have hEn : endsN (l.drop (n + m)) = 0 := by rw [endsN, if_neg hne, hparts.2]; rfl
        have hexm : (s.extract (n + m) s.size).size ≤ 9223372036854775807 := by rw [cs_size, cs_drop, List.length_drop, ← cs_size]; omega
        have H3 := Lib.hid (fun w1 => HEn.out (s.extract (n + m) s.size) w1 hexm)
        rw [cs_drop, ← HL.out, hEn] at H3
        have t1 : decide ((n : Int) < (s.size : Int)) = true := decide_eq_true (by omega)
        have t5 : decide ((n : Int) + (m : Int) < (s.size : Int)) = true := decide_eq_true (by omega)
        have t6 : ((s[n + m].toNat : Int) != 44) = true := by rw [bne, show ((s[n + m].toNat : Int) == 44) = (s[n + m] == 44) from cs_beq s[n + m] 44 (by omega)]; simpa using hparts.1
        have i1 : (0 : Int) ≤ (n : Int) + (m : Int) := by omega
        have i2 : (n : Int) + (m : Int) ≤ (s.size : Int) := by omega
        by_cases h34 : s[n] = 34
        case pos =>
          have HE := Lib.hid (rowX_err HX.out (e := 17) (by rw [fieldR, hff]; simp only; rw [if_neg h4, HRd.out, he, hhead]; simp [h34]))
          have t2 : ((s[n].toNat : Int) == 34) = true := by rw [h34]; rfl
          clear hff HX h4 hfl hFs he hne hhead hrest hparts hEn hexm h34
          go_wp2_with fail
          refine H1a.out.mono ?_
          rintro e w2 ⟨rfl, k2⟩
          have HN2 := Lib.hid (Nat.le_trans HNr.out k2.size)
          have HB2 := Lib.hid (HB.out.trans (k2.mono HNr.out))
          have HO2 := Lib.hid (cs_ownBelow HO.out k2)
          have h22 := H2.out.below k2
          have H22 := Lib.hid h22
          obtain ⟨c0, c1, c2, c3, d0, d1, d2, d3⟩ := h22.cells
          have z0 := h22.froz.1 0
          have z1 := h22.froz.1 1
          have z2 := h22.froz.1 2
          have z3 := h22.froz.1 3
          have y0 := h22.froz.2 0
          have y3 := h22.froz.2 3
          clear k2 h22 H2 HB HO HNr
          clear d0
          go_wp2_with fail
          refine (H3.out _).mono ?_
          rintro e w3 ⟨rfl, hw3⟩
          subst hw3
          go_wp2_with fail
          refine bodyPost_ret (v := firstV (.slice none 0 0) 17 (fs.length + 1) 0) ?_ rfl (.inl ⟨17, fs.length + 1, HE.out, rfl, ?_⟩)
          · refine cs_result1 rfl _ _ _ (a := ⟨N, 0, none⟩) (by rfl) ?_
            unfold firstV
            go_simp
          · rw [← HN.out]; exact cs_set4 HB2.out (Nat.le_refl _) _ _ _ _
        case neg =>
          have HE := Lib.hid (rowX_err HX.out (e := 15) (by rw [fieldR, hff]; simp only; rw [if_neg h4, HRd.out, he, hhead]; simp [h34]))
          have t2 : ((s[n].toNat : Int) == 34) = false := by rw [show ((s[n].toNat : Int) == 34) = (s[n] == 34) from cs_beq s[n] 34 (by omega)]; simpa using h34
          clear hff HX h4 hfl hFs he hne hhead hrest hparts hEn hexm h34
          go_wp2_with fail
          refine H1a.out.mono ?_
          rintro e w2 ⟨rfl, k2⟩
          have HN2 := Lib.hid (Nat.le_trans HNr.out k2.size)
          have HB2 := Lib.hid (HB.out.trans (k2.mono HNr.out))
          have HO2 := Lib.hid (cs_ownBelow HO.out k2)
          have h22 := H2.out.below k2
          have H22 := Lib.hid h22
          obtain ⟨c0, c1, c2, c3, d0, d1, d2, d3⟩ := h22.cells
          have z0 := h22.froz.1 0
          have z1 := h22.froz.1 1
          have z2 := h22.froz.1 2
          have z3 := h22.froz.1 3
          have y0 := h22.froz.2 0
          have y3 := h22.froz.2 3
          clear k2 h22 H2 HB HO HNr
          clear d0
          go_wp2_with fail
          refine (H3.out _).mono ?_
          rintro e w3 ⟨rfl, hw3⟩
          subst hw3
          go_wp2_with fail
          refine bodyPost_ret (v := firstV (.slice none 0 0) 15 (fs.length + 1) 0) ?_ rfl (.inl ⟨15, fs.length + 1, HE.out, rfl, ?_⟩)
          · refine cs_result1 rfl _ _ _ (a := ⟨N, 0, none⟩) (by rfl) ?_
            unfold firstV
            go_simp
          · rw [← HN.out]; exact cs_set4 HB2.out (Nat.le_refl _) _ _ _ _
      case true =>
        have hfr : fieldR (l.drop n) = .ok (f, l.drop (n + m)) := by rw [fieldR, hff]; simp only; rw [if_neg h4, HRd.out, if_pos he]
        clear hff
        have hexm : (s.extract (n + m) s.size).size ≤ 9223372036854775807 := by rw [cs_size, cs_drop, List.length_drop, ← cs_size]; omega
        have H3 := Lib.hid (fun w1 => HEn.out (s.extract (n + m) s.size) w1 hexm)
        rw [cs_drop, ← HL.out] at H3
        have i1 : (0 : Int) ≤ (n : Int) + (m : Int) := by omega
        have i2 : (n : Int) + (m : Int) ≤ (s.size : Int) := by omega
        have hff1 : fs.length ≤ 4000000 := by omega
        rcases Nat.lt_or_ge (n + m) s.size with hltm | hgem
        case inr =>
          have hnm : n + m = s.size := by omega
          have hnil : l.drop (n + m) = [] := List.drop_eq_nil_iff.2 (by rw [HLs.out]; exact hgem)
          have h44 : (l.drop (n + m)).head? ≠ some 44 := by rw [hnil]; simp
          rw [hnil, show endsN [] = 2 from rfl] at H3
          have HRow := Lib.hid (rowX_end HX.out hfr h44)
          have HSz : Hid (l.length - (cutE (l.drop (n + m))).length = n + m) := Lib.hid (by rw [hnil, HLs.out, hnm]; rfl)
          have t5 : decide ((n : Int) + (m : Int) < (s.size : Int)) = false := decide_eq_false (by omega)
          clear hfr h44 hnil HX he h4 hfl hFs hexm hgem hnm
          rcases Nat.lt_or_ge n s.size with hlt | hge
          case inl =>
            have t1 : decide ((n : Int) < (s.size : Int)) = true := decide_eq_true (by omega)
            obtain ⟨q, hq⟩ : ∃ q : Bool, ((s[n].toNat : Int) == 34) = q := ⟨_, rfl⟩
            go_wp2_with fail
            refine H1a.out.mono ?_
            rintro e w2 ⟨rfl, k2⟩
            have HN2 := Lib.hid (Nat.le_trans HNr.out k2.size)
            have HB2 := Lib.hid (HB.out.trans (k2.mono HNr.out))
            have HO2 := Lib.hid (cs_ownBelow HO.out k2)
            have h22 := H2.out.below k2
            have H22 := Lib.hid h22
            obtain ⟨c0, c1, c2, c3, d0, d1, d2, d3⟩ := h22.cells
            have z0 := h22.froz.1 0
            have z1 := h22.froz.1 1
            have z2 := h22.froz.1 2
            have z3 := h22.froz.1 3
            have y0 := h22.froz.2 0
            have y3 := h22.froz.2 3
            clear k2 h22 H2 HB HO HNr
            go_wp2_with (at_builtin; refine wpList_append_own _ rfl _ _ 32 rfl N 9 i0 _ 1 16 Tryd.underlying32 HI.out HZ0.out HZ1.out HZ2.out rfl (by decide) _ _ _ rfl (HO2.out.alloc _) ⟨w2.heap.size, 0, none⟩ 1 1 [.string F] rfl rfl (cs_new w2 _ _) (by intro u hu; simp at hu; subst hu; rfl) (by unfold maxLen; omega) (by omega) (by have := HN2.out; simp; omega) ?_; intro v' w3 ho3 hg3 _; obtain ⟨va, vc, rfl⟩ := cs_own ho3; have hT3 := two_row H22.out HO2.out hg3; have x0 := hT3.cells.2.2.2.2.1; have x1 := hT3.froz.2 0)
            have hO3 : w3.ownsRow N 9 1 (.slice va (fs.length + 1) vc) (fs ++ [f]).length (strsV (fs ++ [f])) := by rw [strsV_app, List.length_append, show strsV [f] = [.string F] by rw [HFe.out]; rfl]; exact ho3
            have HB3 := Lib.hid ((HB2.out.alloc HN2.out (.cells #[.string F] 9)).grown hg3 (by have := HN2.out; simp; omega) (fun k hk => (HO2.out.lt k hk).1))
            have HN3 : Hid (N ≤ w3.heap.size) := Lib.hid (by have h8 := HN2.out; have h9 := hg3.size; simp at h9; omega)
            have hbk : CBlk w3 (N + 1) 37 := ⟨_, _, hT3.row⟩
            have HO4 := Lib.hid (cs_ownKept hO3 hbk (by decide) (cs_set (a := ⟨N + 1, 0, none⟩) (u := .slice va (fs.length + 1) vc)))
            have hT4 := hT3.set (.slice va (fs.length + 1) vc)
            have HB4 := Lib.hid (HB3.out.setCell (p := ⟨N + 1, 0, none⟩) (Nat.le_succ N) (.slice va (fs.length + 1) vc))
            have HN4 : Hid (N ≤ (w3.setCell ⟨N + 1, 0, none⟩ (.slice va (fs.length + 1) vc)).heap.size) := Lib.hid (by rw [World.size_setCell]; exact HN3.out)
            obtain ⟨W, hW⟩ : ∃ W, w3.setCell ⟨N + 1, 0, none⟩ (.slice va (fs.length + 1) vc) = W := ⟨_, rfl⟩
            rw [hW] at HO4 hT4 HB4 HN4 ⊢
            have HT4 := Lib.hid hT4
            obtain ⟨c0, c1, c2, c3, d0, d1, d2, d3⟩ := hT4.cells
            have z0 := hT4.froz.1 0
            have z1 := hT4.froz.1 1
            have z2 := hT4.froz.1 2
            have z3 := hT4.froz.1 3
            have y0 := hT4.froz.2 0
            have y3 := hT4.froz.2 3
            clear hO3 ho3 hg3 hT3 x0 x1 hbk HB3 HN3 hT4 hW HO2 H22 HB2 HN2
            refine (H3.out _).mono ?_
            rintro e w5 ⟨rfl, hw5⟩
            subst hw5
            go_wp2_with fail
            refine bodyPost_ret (v := firstV (.slice va (fs.length + 1) vc) 0 0 (n + m)) ?_ rfl (first_fin HN.out HO4.out HT4.out HB4.out HN4.out HRow.out HSz.out cs_set (cs_gtrans (cs_gtrans (cs_gtrans cs_set cs_set) cs_set) cs_set))
            refine cs_result1 rfl _ _ _ (a := ⟨N, 0, none⟩) (by rfl) ?_
            unfold firstV
            go_simp
          case inr =>
            have t1 : decide ((n : Int) < (s.size : Int)) = false := decide_eq_false (by omega)
            have hnge : ¬ n < s.size := by omega
            clear hge
            go_wp2_with fail
            refine H1a.out.mono ?_
            rintro e w2 ⟨rfl, k2⟩
            have HN2 := Lib.hid (Nat.le_trans HNr.out k2.size)
            have HB2 := Lib.hid (HB.out.trans (k2.mono HNr.out))
            have HO2 := Lib.hid (cs_ownBelow HO.out k2)
            have h22 := H2.out.below k2
            have H22 := Lib.hid h22
            obtain ⟨c0, c1, c2, c3, d0, d1, d2, d3⟩ := h22.cells
            have z0 := h22.froz.1 0
            have z1 := h22.froz.1 1
            have z2 := h22.froz.1 2
            have z3 := h22.froz.1 3
            have y0 := h22.froz.2 0
            have y3 := h22.froz.2 3
            clear k2 h22 H2 HB HO HNr
            go_wp2_with (at_builtin; refine wpList_append_own _ rfl _ _ 32 rfl N 9 i0 _ 1 16 Tryd.underlying32 HI.out HZ0.out HZ1.out HZ2.out rfl (by decide) _ _ _ rfl (HO2.out.alloc _) ⟨w2.heap.size, 0, none⟩ 1 1 [.string F] rfl rfl (cs_new w2 _ _) (by intro u hu; simp at hu; subst hu; rfl) (by unfold maxLen; omega) (by omega) (by have := HN2.out; simp; omega) ?_; intro v' w3 ho3 hg3 _; obtain ⟨va, vc, rfl⟩ := cs_own ho3; have hT3 := two_row H22.out HO2.out hg3; have x0 := hT3.cells.2.2.2.2.1; have x1 := hT3.froz.2 0)
            have hO3 : w3.ownsRow N 9 1 (.slice va (fs.length + 1) vc) (fs ++ [f]).length (strsV (fs ++ [f])) := by rw [strsV_app, List.length_append, show strsV [f] = [.string F] by rw [HFe.out]; rfl]; exact ho3
            have HB3 := Lib.hid ((HB2.out.alloc HN2.out (.cells #[.string F] 9)).grown hg3 (by have := HN2.out; simp; omega) (fun k hk => (HO2.out.lt k hk).1))
            have HN3 : Hid (N ≤ w3.heap.size) := Lib.hid (by have h8 := HN2.out; have h9 := hg3.size; simp at h9; omega)
            have hbk : CBlk w3 (N + 1) 37 := ⟨_, _, hT3.row⟩
            have HO4 := Lib.hid (cs_ownKept hO3 hbk (by decide) (cs_set (a := ⟨N + 1, 0, none⟩) (u := .slice va (fs.length + 1) vc)))
            have hT4 := hT3.set (.slice va (fs.length + 1) vc)
            have HB4 := Lib.hid (HB3.out.setCell (p := ⟨N + 1, 0, none⟩) (Nat.le_succ N) (.slice va (fs.length + 1) vc))
            have HN4 : Hid (N ≤ (w3.setCell ⟨N + 1, 0, none⟩ (.slice va (fs.length + 1) vc)).heap.size) := Lib.hid (by rw [World.size_setCell]; exact HN3.out)
            obtain ⟨W, hW⟩ : ∃ W, w3.setCell ⟨N + 1, 0, none⟩ (.slice va (fs.length + 1) vc) = W := ⟨_, rfl⟩
            rw [hW] at HO4 hT4 HB4 HN4 ⊢
            have HT4 := Lib.hid hT4
            obtain ⟨c0, c1, c2, c3, d0, d1, d2, d3⟩ := hT4.cells
            have z0 := hT4.froz.1 0
            have z1 := hT4.froz.1 1
            have z2 := hT4.froz.1 2
            have z3 := hT4.froz.1 3
            have y0 := hT4.froz.2 0
            have y3 := hT4.froz.2 3
            clear hO3 ho3 hg3 hT3 x0 x1 hbk HB3 HN3 hT4 hW HO2 H22 HB2 HN2
            refine (H3.out _).mono ?_
            rintro e w5 ⟨rfl, hw5⟩
            subst hw5
            go_wp2_with fail
            refine bodyPost_ret (v := firstV (.slice va (fs.length + 1) vc) 0 0 (n + m)) ?_ rfl (first_fin HN.out HO4.out HT4.out HB4.out HN4.out HRow.out HSz.out cs_set (cs_gtrans (cs_gtrans (cs_gtrans cs_set cs_set) cs_set) cs_set))
            refine cs_result1 rfl _ _ _ (a := ⟨N, 0, none⟩) (by rfl) ?_
            unfold firstV
            go_simp
        case inl =>
          have hlt : n < s.size := by omega
          have hrest : l.drop (n + m) = s[n + m] :: s.data.toList.drop (n + m + 1) := by rw [HL.out]; exact cs_cons s (n + m) hltm
          have hne : l.drop (n + m) ≠ [] := fun e => by rw [e] at hrest; cases hrest
          have t5 : decide ((n : Int) + (m : Int) < (s.size : Int)) = true := decide_eq_true (by omega)
          have t1 : decide ((n : Int) < (s.size : Int)) = true := decide_eq_true (by omega)
          obtain ⟨q, hq⟩ : ∃ q : Bool, ((s[n].toNat : Int) == 34) = q := ⟨_, rfl⟩
          by_cases h44 : s[n + m] = 44
          case pos =>
            have hEn : endsN (l.drop (n + m)) = 0 := by rw [endsN, if_neg hne, hrest, h44]; simp [List.isPrefixOf]
            have h44' : (l.drop (n + m)).head? = some 44 := by rw [hrest, h44]; rfl
            have t6 : ((s[n + m].toNat : Int) != 44) = false := by rw [h44]; rfl
            rw [hEn] at H3
            have HX2 : Hid (rowX l (fs ++ [f]) (l.drop (n + m + 1))) := Lib.hid (by have := rowX_more HX.out hfr h44'; rw [List.drop_drop] at this; exact this)
            clear hfr h44 h44' hEn hrest hne HX he h4 hfl hFs hexm
            go_wp2_with fail
            refine H1a.out.mono ?_
            rintro e w2 ⟨rfl, k2⟩
            have HN2 := Lib.hid (Nat.le_trans HNr.out k2.size)
            have HB2 := Lib.hid (HB.out.trans (k2.mono HNr.out))
            have HO2 := Lib.hid (cs_ownBelow HO.out k2)
            have h22 := H2.out.below k2
            have H22 := Lib.hid h22
            obtain ⟨c0, c1, c2, c3, d0, d1, d2, d3⟩ := h22.cells
            have z0 := h22.froz.1 0
            have z1 := h22.froz.1 1
            have z2 := h22.froz.1 2
            have z3 := h22.froz.1 3
            have y0 := h22.froz.2 0
            have y3 := h22.froz.2 3
            clear k2 h22 H2 HB HO HNr
            go_wp2_with fail
            refine (H3.out _).mono ?_
            rintro e w6 ⟨rfl, hw6⟩
            subst hw6
            go_wp2_with (at_builtin; refine wpList_append_own _ rfl _ _ 32 rfl N 9 i0 _ 1 16 Tryd.underlying32 HI.out HZ0.out HZ1.out HZ2.out rfl (by decide) _ _ _ rfl (HO2.out.alloc _) ⟨w2.heap.size, 0, none⟩ 1 1 [.string F] rfl rfl (cs_new w2 _ _) (by intro u hu; simp at hu; subst hu; rfl) (by unfold maxLen; omega) (by omega) (by have := HN2.out; simp; omega) ?_; intro v' w3 ho3 hg3 _; obtain ⟨va, vc, rfl⟩ := cs_own ho3; have hT3 := two_row H22.out HO2.out hg3; have x0 := hT3.cells.2.2.2.2.1; have x1 := hT3.froz.2 0)
            have hO3 : w3.ownsRow N 9 1 (.slice va (fs.length + 1) vc) (fs ++ [f]).length (strsV (fs ++ [f])) := by rw [strsV_app, List.length_append, show strsV [f] = [.string F] by rw [HFe.out]; rfl]; exact ho3
            have HB3 := Lib.hid ((HB2.out.alloc HN2.out (.cells #[.string F] 9)).grown hg3 (by have := HN2.out; simp; omega) (fun k hk => (HO2.out.lt k hk).1))
            have HN3 : Hid (N ≤ w3.heap.size) := Lib.hid (by have h8 := HN2.out; have h9 := hg3.size; simp at h9; omega)
            have hbk : CBlk w3 (N + 1) 37 := ⟨_, _, hT3.row⟩
            have HO4 := Lib.hid (cs_ownKept hO3 hbk (by decide) (cs_set (a := ⟨N + 1, 0, none⟩) (u := .slice va (fs.length + 1) vc)))
            have hT4 := hT3.set (.slice va (fs.length + 1) vc)
            have HB4 := Lib.hid (HB3.out.setCell (p := ⟨N + 1, 0, none⟩) (Nat.le_succ N) (.slice va (fs.length + 1) vc))
            have HN4 : Hid (N ≤ (w3.setCell ⟨N + 1, 0, none⟩ (.slice va (fs.length + 1) vc)).heap.size) := Lib.hid (by rw [World.size_setCell]; exact HN3.out)
            obtain ⟨W, hW⟩ : ∃ W, w3.setCell ⟨N + 1, 0, none⟩ (.slice va (fs.length + 1) vc) = W := ⟨_, rfl⟩
            rw [hW] at HO4 hT4 HB4 HN4 ⊢
            have HT4 := Lib.hid hT4
            obtain ⟨c0, c1, c2, c3, d0, d1, d2, d3⟩ := hT4.cells
            have z0 := hT4.froz.1 0
            have z1 := hT4.froz.1 1
            have z2 := hT4.froz.1 2
            have z3 := hT4.froz.1 3
            have y0 := hT4.froz.2 0
            have y3 := hT4.froz.2 3
            clear hO3 ho3 hg3 hT3 x0 x1 hbk HB3 HN3 hT4 hW HO2 H22 HB2 HN2
            refine (H3.out _).mono ?_
            rintro e w5 ⟨rfl, hw5⟩
            subst hw5
            go_wp2_with fail
            have HLn : Hid ((fs ++ [f]).length = fs.length + 1) := Lib.hid (by simp)
            go_roundw
            case rel => exact ⟨n + m + 1, fs ++ [f], _, hltm, by rw [HLn.out]; omega, by go_num, HX2, HO4, HT4, HB4⟩
            case measure => simp [intOf]; omega
          case neg =>
            have hpre : [13, 10].isPrefixOf (l.drop (n + m)) = true := by
              rw [endsF, hrest] at he
              simp only [List.isEmpty_cons, Bool.false_or, Bool.or_eq_true] at he
              rcases he with h | h
              · simp at h; exact absurd h h44
              · rw [hrest]; exact h
            have hEn : endsN (l.drop (n + m)) = 1 := by rw [endsN, if_neg hne, if_pos hpre]
            have h44' : (l.drop (n + m)).head? ≠ some 44 := by rw [hrest]; simpa using h44
            rw [hEn] at H3
            have HRow := Lib.hid (rowX_end HX.out hfr h44')
            have hn2 : n + m + 2 ≤ s.size := by
              obtain ⟨x, hx⟩ := pre2 hpre
              have := congrArg List.length hx
              rw [List.length_drop, HLs.out] at this
              simp at this
              omega
            have HSz : Hid (l.length - (cutE (l.drop (n + m))).length = n + m + 2) := Lib.hid (by rw [cutE, if_pos hpre, List.drop_drop, List.length_drop, HLs.out]; omega)
            clear hfr h44 h44' hEn hrest hne HX he h4 hfl hFs hexm hpre
            go_wp2_with fail
            refine H1a.out.mono ?_
            rintro e w2 ⟨rfl, k2⟩
            have HN2 := Lib.hid (Nat.le_trans HNr.out k2.size)
            have HB2 := Lib.hid (HB.out.trans (k2.mono HNr.out))
            have HO2 := Lib.hid (cs_ownBelow HO.out k2)
            have h22 := H2.out.below k2
            have H22 := Lib.hid h22
            obtain ⟨c0, c1, c2, c3, d0, d1, d2, d3⟩ := h22.cells
            have z0 := h22.froz.1 0
            have z1 := h22.froz.1 1
            have z2 := h22.froz.1 2
            have z3 := h22.froz.1 3
            have y0 := h22.froz.2 0
            have y3 := h22.froz.2 3
            clear k2 h22 H2 HB HO HNr
            go_wp2_with fail
            refine (H3.out _).mono ?_
            rintro e w6 ⟨rfl, hw6⟩
            subst hw6
            go_wp2_with (at_builtin; refine wpList_append_own _ rfl _ _ 32 rfl N 9 i0 _ 1 16 Tryd.underlying32 HI.out HZ0.out HZ1.out HZ2.out rfl (by decide) _ _ _ rfl (HO2.out.alloc _) ⟨w2.heap.size, 0, none⟩ 1 1 [.string F] rfl rfl (cs_new w2 _ _) (by intro u hu; simp at hu; subst hu; rfl) (by unfold maxLen; omega) (by omega) (by have := HN2.out; simp; omega) ?_; intro v' w3 ho3 hg3 _; obtain ⟨va, vc, rfl⟩ := cs_own ho3; have hT3 := two_row H22.out HO2.out hg3; have x0 := hT3.cells.2.2.2.2.1; have x1 := hT3.froz.2 0)
            have hO3 : w3.ownsRow N 9 1 (.slice va (fs.length + 1) vc) (fs ++ [f]).length (strsV (fs ++ [f])) := by rw [strsV_app, List.length_append, show strsV [f] = [.string F] by rw [HFe.out]; rfl]; exact ho3
            have HB3 := Lib.hid ((HB2.out.alloc HN2.out (.cells #[.string F] 9)).grown hg3 (by have := HN2.out; simp; omega) (fun k hk => (HO2.out.lt k hk).1))
            have HN3 : Hid (N ≤ w3.heap.size) := Lib.hid (by have h8 := HN2.out; have h9 := hg3.size; simp at h9; omega)
            have hbk : CBlk w3 (N + 1) 37 := ⟨_, _, hT3.row⟩
            have HO4 := Lib.hid (cs_ownKept hO3 hbk (by decide) (cs_set (a := ⟨N + 1, 0, none⟩) (u := .slice va (fs.length + 1) vc)))
            have hT4 := hT3.set (.slice va (fs.length + 1) vc)
            have HB4 := Lib.hid (HB3.out.setCell (p := ⟨N + 1, 0, none⟩) (Nat.le_succ N) (.slice va (fs.length + 1) vc))
            have HN4 : Hid (N ≤ (w3.setCell ⟨N + 1, 0, none⟩ (.slice va (fs.length + 1) vc)).heap.size) := Lib.hid (by rw [World.size_setCell]; exact HN3.out)
            obtain ⟨W, hW⟩ : ∃ W, w3.setCell ⟨N + 1, 0, none⟩ (.slice va (fs.length + 1) vc) = W := ⟨_, rfl⟩
            rw [hW] at HO4 hT4 HB4 HN4 ⊢
            have HT4 := Lib.hid hT4
            obtain ⟨c0, c1, c2, c3, d0, d1, d2, d3⟩ := hT4.cells
            have z0 := hT4.froz.1 0
            have z1 := hT4.froz.1 1
            have z2 := hT4.froz.1 2
            have z3 := hT4.froz.1 3
            have y0 := hT4.froz.2 0
            have y3 := hT4.froz.2 3
            clear hO3 ho3 hg3 hT3 x0 x1 hbk HB3 HN3 hT4 hW HO2 H22 HB2 HN2
            refine (H3.out _).mono ?_
            rintro e w5 ⟨rfl, hw5⟩
            subst hw5
            go_wp2_with fail
            refine bodyPost_ret (v := firstV (.slice va (fs.length + 1) vc) 0 0 (n + m + 2)) ?_ rfl (first_fin HN.out HO4.out HT4.out HB4.out HN4.out HRow.out HSz.out (cs_gtrans cs_set cs_set) (cs_gtrans (cs_gtrans (cs_gtrans cs_set cs_set) cs_set) cs_set))
            refine cs_result1 rfl _ _ _ (a := ⟨N, 0, none⟩) (by rfl) ?_
            unfold firstV
            go_simp
end Go.Proofs.YtkihjfdpfglkbaaDoor
