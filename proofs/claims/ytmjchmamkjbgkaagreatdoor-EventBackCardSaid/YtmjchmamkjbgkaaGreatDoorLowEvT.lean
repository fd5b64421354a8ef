/- Contracts of a lower layer, several texts in one. -/
import Derived.Test.YtmjchmamkjbgkaaGreatDoorLowEv1
import Derived.Test.YtmjchmamkjbgkaaGreatDoorLowSc2
import Derived.Test.YtmjchmamkjbgkaaGreatDoorLowCsvL
import Derived.Laws.OwnMore
import Derived.Deep.RegionHeld3
import Derived.OwnWalk
/- EvText -/
namespace Go.Proofs.YtmjchmamkjbgkaaGreatDoor
open Go.RowKit
set_option linter.unusedVariables false

set_option maxHeartbeats 1000000 in
theorem field_calls (k i : Int) (s : ByteArray) (b : Bool) (w : World) (hi : -9223372036854775808 ≤ i ∧ i ≤ 9223372036854775807) (hs : s.size ≤ 9223372036854775807) (hL : Laid w) :
    Calls Tryz.prog 33 #[.agg #[.int .i64 k, .int .i64 i, .string s, .bool b]] w fun e w' => e = .returned (.string ⟨(fieldE ⟨k, i, s, b⟩).toArray⟩) ∧ Below w.heap.size w w' := by
  have hb := (Below.refl w.heap.size w).alloc (Nat.le_refl _) (.cells #[.int .i64 k, .int .i64 i, .string s, .bool b] 44)
  have HB := Lib.hid hb
  have HT := Lib.hid (vText_calls k i s b _ hi hs (hL.below hb))
  clear hb hL hi hs
  by_cases h : k = 2
  · subst h
    have HV : Hid ((⟨(fieldE ⟨2, i, s, b⟩).toArray⟩ : ByteArray) = s) := Lib.hid (by unfold fieldE; rw [if_pos rfl])
    go_enter Tryz.func33, Tryz.ntmps33
    go_wp2_with fail
    go_ret
    exact ⟨by rw [HV.out]; rfl, HB.out⟩
  · have HV : Hid (fieldE ⟨k, i, s, b⟩ = valText k i s b) := Lib.hid (by unfold fieldE; simp only; rw [if_neg h])
    have t1 : (k == 2) = false := by simpa using h
    clear h
    go_enter Tryz.func33, Tryz.ntmps33
    go_wp2_with fail
    refine HT.out.mono ?_
    rintro e w1 ⟨rfl, k1⟩
    go_wp2_with fail
    go_ret
    exact ⟨by rw [HV.out]; rfl, HB.out.trans (k1.mono HB.out.size)⟩

/-- A row of texts that a call has gathered. -/
def TxtPost (fs : List (List UInt8)) (w : World) (e : Ending) (w' : World) : Prop :=
  ∃ a cap, e = .returned (.slice a fs.length cap) ∧ TIn w' a fs.length fs ∧ (fs.length ≤ cap ∧ cap ≤ 9223372036854775807) ∧ Below w.heap.size w w'
theorem rowE_len (x : ByteArray) (A : List Vd) : (rowE (x, A)).length = A.length + 1 := by simp [rowE]
theorem rows_take (A : List Vd) (n : Nat) (h : n < A.length) : (A.take (n + 1)).map fieldE = (A.take n).map fieldE ++ [fieldE (A.getD n default)] := by
  have e : A.getD n default = A[n] := by simp [List.getD, h]
  rw [List.take_succ_eq_append_getElem h, List.map_append, e]; rfl

set_option maxHeartbeats 4000000 in
set_option maxRecDepth 100000 in
theorem evRow_calls (x : ByteArray) (a : Option Addr) (la ca : Nat) (A : List Vd) (w : World) (hA : VIn w a la A) (hl : la ≤ 1000000) (hL : Laid w) :
    Calls Tryz.prog 14 #[.agg #[.string x, .slice a la ca]] w (TxtPost (rowE (x, A)) w) := by
  have HA := Lib.hid hA
  have HAl := Lib.hid hA.leng
  have HFt := Lib.hid hA.fits
  have HL := Lib.hid (fun w1 (hb : Below w.heap.size w w1) => hL.below hb)
  have HF := Lib.hid (fun (v : Vd) w1 hi hs hL => field_calls v.k v.i v.s v.b w1 hi hs hL)
  have hb1 := (Below.refl w.heap.size w).alloc (Nat.le_refl _) (.cells #[.string x, .slice a la ca] 29)
  have HB2 := Lib.hid (hb1.alloc hb1.size (.cells #[.string x] 9))
  have HX1 := Lib.hid (EBx.new x (.slice a la ca) w 29)
  obtain ⟨i0, hi, hz0, hz1, hz2⟩ := cs_parts cs_infoS
  have HI := Lib.hid hi
  have HZ0 := Lib.hid hz0
  have HZ1 := Lib.hid hz1
  have HZ2 := Lib.hid hz2
  have HO2 : Hid (((w.alloc (.cells #[.string x, .slice a la ca] 29)).alloc (.cells #[.string x] 9)).ownsRow w.heap.size 9 1 (.slice (some ⟨w.heap.size + 1, 0, none⟩) 1 1) 1 (strsV (x.data.toList :: ([] : List Vd).map fieldE))) := Lib.hid (by
    have := World.ownsRow_lit (base := w.heap.size) (e := 9) (size := 1) (w.alloc (.cells #[.string x, .slice a la ca] 29)) #[.string x] 1 (by simp) (by unfold maxLen; omega) rfl
    rw [World.size_alloc] at this
    exact this)
  clear hA hL hb1 hi hz0 hz1 hz2
  go_enter Tryz.func14, Tryz.ntmps14
  go_wp2_with fail
  obtain ⟨W1, hW1⟩ : ∃ W1, ((w.alloc (.cells #[.string x, .slice a la ca] 29)).alloc (.cells #[.string x] 9)) = W1 := ⟨_, rfl⟩
  rw [hW1] at HB2 HO2 ⊢
  clear hW1
  go_loopw [3, 12] (fun o i wr => ∃ (n : Nat), n ≤ la ∧ i = .int .i64 n ∧ Hid (wr.ownsRow w.heap.size 9 1 o (n + 1) (strsV (x.data.toList :: (A.take n).map fieldE))) ∧ Hid (Below w.heap.size w wr)) (fun _ i _ => la - (intOf i).toNat)
  case atStart => exact ⟨0, Nat.zero_le _, rfl, HO2, HB2⟩
  case round =>
    obtain ⟨n, hn, rfl, HO, HB⟩ := hrel
    obtain ⟨oa, oc, rfl⟩ := cs_own HO.out
    by_cases hlt : n < la
    case neg =>
      have hnl : n = A.length := by rw [HAl.out]; omega
      have h2 := HO.out
      rw [hnl, List.take_length] at h2
      obtain ⟨a2, c2, e2, h3, _, h4⟩ := own_tin2 (L := rowE (x, A)) (by rw [rowE_len]; exact h2)
      rw [rowE_len, ← hnl] at e2
      cases e2
      have HT := Lib.hid (And.intro h3 h4)
      have HN := Lib.hid hnl
      clear h2 h3 h4 hnl
      go_wp2_with fail
      go_ret
      exact ⟨oa, oc, by rw [rowE_len, ← HN.out]; rfl, HT.out.1, HT.out.2, HB.out⟩
    case pos =>
      obtain ⟨ga, of, rfl, a0, a1, a2, a3⟩ := (HA.out.below HB.out).at' hlt
      have hft := HFt.out n (by rw [HAl.out]; exact hlt)
      have HTk := Lib.hid (rows_take A n (by rw [HAl.out]; exact hlt))
      have HWA := Lib.hid (HB.out.alloc HB.out.size (.cells #[.int .i64 (A.getD n default).k, .int .i64 (A.getD n default).i, .string (A.getD n default).s, .bool (A.getD n default).b] 44))
      have H1 := Lib.hid (HF.out (A.getD n default) _ hft.2 hft.1 (HL.out _ HWA.out))
      obtain ⟨⟨k, j, s, z⟩, hv⟩ : ∃ v, v = A.getD n default := ⟨_, rfl⟩
      rw [← hv] at a0 a1 a2 a3 HTk H1 HWA
      clear hv hft
      simp only at a0 a1 a2 a3 H1 HWA
      obtain ⟨F, hF⟩ : ∃ F : ByteArray, F = ⟨(fieldE ⟨k, j, s, z⟩).toArray⟩ := ⟨_, rfl⟩
      rw [← hF] at H1
      have HFe := Lib.hid hF
      clear hF
      go_wp2_with fail
      refine H1.out.mono ?_
      rintro e w1 ⟨rfl, k1⟩
      have HB1 := Lib.hid (HWA.out.trans (k1.mono HWA.out.size))
      have HO1 := Lib.hid (cs_ownBelow (HO.out.alloc _) k1)
      clear k1 HO H1
      go_wp2_with (at_builtin; refine wpList_append_own _ rfl _ _ 23 rfl w.heap.size 9 i0 _ 1 16 Tryz.underlying23 HI.out HZ0.out HZ1.out HZ2.out rfl (by decide) _ _ _ rfl (HO1.out.alloc _) ⟨w1.heap.size, 0, none⟩ 1 1 [.string F] rfl rfl (cs_new w1 _ _) (by intro u hu; simp at hu; subst hu; rfl) (by unfold maxLen; omega) (by omega) (by have := HB1.out.size; simp; omega) ?_; intro v' w2 ho2 hg2 _)
      have HB3 := Lib.hid ((HB1.out.alloc HB1.out.size (.cells #[.string F] 9)).grown hg2 (by have := HB1.out.size; simp; omega) (fun k hk => (HO1.out.lt k hk).1))
      have HO3 : Hid (w2.ownsRow w.heap.size 9 1 v' (n + 1 + 1) (strsV (x.data.toList :: (A.take (n + 1)).map fieldE))) := Lib.hid (by
        rw [HTk.out, ← List.cons_append, strsV_app, show strsV [fieldE ⟨k, j, s, z⟩] = [.string F] by rw [HFe.out]; rfl]; exact ho2)
      clear ho2 hg2 HO1 HB1 HB
      go_wp2_with fail
      go_roundw
      case rel => exact ⟨n + 1, hlt, by go_num, HO3, HB3⟩
      case measure => simp [intOf]; omega

set_option maxHeartbeats 1000000 in
theorem evLine_calls (x : ByteArray) (a : Option Addr) (la ca : Nat) (A : List Vd) (w : World) (hA : VIn w a la A) (hl : la ≤ 1000000) (hc : costF (rowE (x, A)) ≤ 3000000) (hL : Laid w) (hm : MaxC w) :
    Calls Tryz.prog 18 #[.agg #[.string x, .slice a la ca]] w fun e w' => e = .returned (.string ⟨(lineL (rowE (x, A))).toArray⟩) ∧ Below w.heap.size w w' := by
  have hb := (Below.refl w.heap.size w).alloc (Nat.le_refl _) (.cells #[.string x, .slice a la ca] 29)
  have HB := Lib.hid hb
  have H1 := Lib.hid (evRow_calls x a la ca A _ (hA.below hb) hl (hL.below hb))
  have H2 := Lib.hid (fun (b : Option Addr) (lb cb : Nat) w1 (hb1 : Below w.heap.size w w1) (ht : TIn w1 b lb (rowE (x, A))) => csLine_calls b lb cb (rowE (x, A)) w1 ht hc (hm.below hb1))
  clear hA hb hL hc hm
  go_enter Tryz.func18, Tryz.ntmps18
  go_wp2_with fail
  refine H1.out.mono ?_
  rintro e w1 ⟨b, cb, rfl, h1, _, k1⟩
  have HB1 := Lib.hid (HB.out.trans (k1.mono HB.out.size))
  have HT := Lib.hid h1
  clear k1 h1
  go_wp2_with fail
  refine (H2.out _ _ _ _ HB1.out HT.out).mono ?_
  rintro e w2 ⟨rfl, k2⟩
  go_wp2_with fail
  go_ret
  exact ⟨rfl, HB1.out.trans (k2.mono HB1.out.size)⟩
end Go.Proofs.YtmjchmamkjbgkaaGreatDoor

/- EvTexts -/
namespace Go.Proofs.YtmjchmamkjbgkaaGreatDoor
open Go.RowKit
set_option linter.unusedVariables false

def vtB (v : Vd) : ByteArray := ⟨(vtL v).toArray⟩
/-- The texts of arguments, so far. -/
def textsN (A : List Vd) (n : Nat) : List ByteArray := (A.take n).map vtB ++ List.replicate (A.length - n) ⟨#[]⟩
theorem textsN_zero (A : List Vd) : textsN A 0 = List.replicate A.length ⟨#[]⟩ := by simp [textsN]
theorem textsN_all (A : List Vd) : textsN A A.length = A.map vtB := by simp [textsN]
theorem textsN_len (A : List Vd) (n : Nat) (h : n ≤ A.length) : (textsN A n).length = A.length := by
  simp [textsN]; omega
theorem textsN_set (A : List Vd) (n : Nat) (h : n < A.length) : (textsN A n).set n (vtB (A.getD n default)) = textsN A (n + 1) := by
  have ht : A.take (n + 1) = A.take n ++ [A.getD n default] := by
    rw [List.take_succ_eq_append_getElem h]
    simp [List.getD, h]
  have hr : A.length - n = (A.length - (n + 1)) + 1 := by omega
  have hl : ((A.take n).map vtB).length = n := by rw [List.length_map, List.length_take]; omega
  unfold textsN
  rw [List.set_append_right _ _ (by omega), hl, Nat.sub_self, hr, List.replicate_succ, List.set_cons_zero, ht]
  simp
theorem texts_join (A : List Vd) : Lib.join ((A.map vtB).map (·.data.toList)) [44, 32] = argsN A A.length := by
  rw [args_join A A.length (Nat.le_refl _), List.take_length, List.map_map]
  rfl
theorem tx_gtrans {a b c : World} {r : Option Nat} (h : a.grownBy b r) (k : b.grownBy c r) : a.grownBy c r :=
  ⟨k.os.trans h.os, k.tape.trans h.tape, k.output.trans h.output, Nat.le_trans h.size k.size, fun i hi hne => (k.block i (Nat.lt_of_lt_of_le hi h.size) hne).trans (h.block i hi hne)⟩
theorem below_gr {a b : World} {r : Option Nat} (h : Below a.heap.size a b) : a.grownBy b r := ⟨h.os, h.tape, h.output, h.size, fun k hk _ => h.block k hk⟩
theorem HoldT.below {g : Nat} {l : List ByteArray} {w w' : World} (h : HoldT g l w) (hb : Below w.heap.size w w') : HoldT g l w' := (hb.block g h.lt).trans h
/-- An event's text as bytes. -/
def etT (e : Ev) : ByteArray := ⟨(etL e).toArray⟩

set_option maxHeartbeats 4000000 in
set_option maxRecDepth 100000 in
theorem evText_calls (x : ByteArray) (b : Option Addr) (len c : Nat) (A : List Vd) (w : World) (h : VIn w b len A) (hx : x.size ≤ 1000000) (hl : len ≤ 100) (hM : ∀ j, j < A.length → (vtL (A.getD j default)).length ≤ 100000) (hL : Laid w) :
    Calls Tryz.prog 16 #[.agg #[.string x, .slice b len c]] w fun e w' => e = .returned (.string (etT (x, A))) ∧ Below w.heap.size w w' := by
  have H := Lib.hid h
  have HAl := Lib.hid h.leng
  have HFt := Lib.hid h.fits
  have HMx := Lib.hid hM
  have hmk := make_strs len (by omega)
  have HLa := Lib.hid (fun w1 (hb : Below w.heap.size w w1) => hL.below hb)
  have HK := Lib.hid (fun (v : Vd) w1 hi hs hL => vText_calls v.k v.i v.s v.b w1 hi hs hL)
  have hB1 : Below w.heap.size w (w.alloc (.cells #[.string x, .slice b len c] 29)) := (Below.refl w.heap.size w).alloc (Nat.le_refl _) _
  have hB2 := hB1.alloc hB1.size (.cells (madeCells #[.string ⟨#[]⟩] len) 9)
  have HB2 := Lib.hid hB2
  have hMa := HoldT.made (w.alloc (.cells #[.string x, .slice b len c] 29)) len
  rw [show List.replicate len (⟨#[]⟩ : ByteArray) = textsN A 0 by rw [textsN_zero, HAl.out]] at hMa
  have HM := Lib.hid hMa
  have hX : ((w.alloc (.cells #[.string x, .slice b len c] 29)).alloc (.cells (madeCells #[.string ⟨#[]⟩] len) 9)).cell? ⟨w.heap.size, 0, none⟩ = some (.string x) := by
    exact cell_alloc (cell_new w _ _ rfl) _
  have HX := Lib.hid hX
  have hz : (w.alloc (.cells #[.string x, .slice b len c] 29)).heap.size = w.heap.size + 1 := by simp
  rw [hz] at HM
  have hz2 : w.heap.size + 1 < ((w.alloc (.cells #[.string x, .slice b len c] 29)).alloc (.cells (madeCells #[.string ⟨#[]⟩] len) 9)).heap.size := by simp
  have HZ := Lib.hid hz2
  clear h hB1 hB2 hMa hX hz hz2 hL hM
  go_enter Tryz.func16, Tryz.ntmps16
  go_wp2_with fail
  clear hmk
  obtain ⟨w2, hw2⟩ : ∃ w2, w2 = ((w.alloc (.cells #[.string x, .slice b len c] 29)).alloc (.cells (madeCells #[.string ⟨#[]⟩] len) 9)) := ⟨_, rfl⟩
  rw [← hw2] at HB2 HM HX HZ ⊢
  clear hw2
  go_loopw [13] (fun i wr => ∃ (n : Nat), n ≤ len ∧ i = .int .i64 n ∧ Hid (HoldT (w.heap.size + 1) (textsN A n) wr) ∧ Hid (ScBut (w.heap.size + 1) w2 wr)) (fun i _ => len - (intOf i).toNat)
  case atStart => exact ⟨0, Nat.zero_le _, rfl, HM, Lib.hid (ScBut.refl _ _)⟩
  case round =>
    obtain ⟨n, hn, rfl, HR, HT⟩ := hrel
    have HB := Lib.hid (HB2.out.grown HT.out (by have := HZ.out; omega) (fun k hk => by cases hk; omega))
    by_cases hlt : n < len
    case neg =>
      have hx1 := HT.out.cell HX.out (by omega)
      have HA : Hid (HoldT (w.heap.size + 1) (A.map vtB) wr) := Lib.hid (by rw [← textsN_all, HAl.out, ← show n = len by omega]; exact HR.out)
      have hjl := args_len A A.length 100000 (Nat.le_refl _) HMx.out
      rw [HAl.out] at hjl
      have hnj := texts_join A
      have H1 := Lib.hid (fun w1 (hA : HoldT (w.heap.size + 1) (A.map vtB) w1) => Tryz.strings_Join (w.heap.size + 1) 0 len (A.map vtB) ⟨#[44, 32]⟩ w1 (fun j y hj => by rw [Nat.zero_add]; exact hA.cell hj) hA.lt (by rw [List.length_map, HAl.out]; omega) (by rw [List.length_map, HAl.out]; omega) (by rw [show (⟨#[44, 32]⟩ : ByteArray).data.toList = [44, 32] from rfl, hnj, HAl.out]; omega))
      rw [List.length_map, HAl.out, show (⟨#[44, 32]⟩ : ByteArray).data.toList = [44, 32] from rfl, hnj, HAl.out] at H1
      obtain ⟨J, hJ⟩ : ∃ J : ByteArray, J = ⟨(argsN A len).toArray⟩ := ⟨_, rfl⟩
      rw [← hJ] at H1
      have hJs : J.size ≤ 20000000 := by
        rw [hJ, sc_size]
        show (argsN A len).length ≤ _
        omega
      have z1 : (⟨#[40]⟩ : ByteArray).size = 1 := rfl
      have z2 : (⟨#[41]⟩ : ByteArray).size = 1 := rfl
      have hc1 := sc_hcat x ⟨#[40]⟩ (by omega)
      have hc2 := sc_hcat (x ++ ⟨#[40]⟩) J (by rw [sc_catSize]; omega)
      have hc3 := sc_hcat (x ++ ⟨#[40]⟩ ++ J) ⟨#[41]⟩ (by rw [sc_catSize, sc_catSize]; omega)
      have HV : Hid (etT (x, A) = x ++ ⟨#[40]⟩ ++ J ++ ⟨#[41]⟩) := Lib.hid (by
        refine (sc_eq ?_).symm
        rw [sc_cat, sc_cat, sc_cat, hJ, etL, etN]
        simp only
        rw [HAl.out])
      have HS := Lib.hid hx1
      have HAd : Hid (HoldT (w.heap.size + 1) (A.map vtB) wr.drew) := Lib.hid HA.out
      have hlt1 := block_lt_of_cell hx1
      clear hJ hJs z1 z2 hjl hnj hx1
      go_wp2_with fail
      go_region_held3 (fun wx => wx.cell? ⟨w.heap.size, 0, none⟩ = some (.string x)) (first | exact HS.out | exact HS2.out) (first
        | (go_at_call 38; refine (H1.out _ HAd.out).mono ?_; rintro e w4 ⟨rfl, k4⟩; have HK4 := Lib.hid k4; have HS2 := Lib.hid (show w4.cell? ⟨w.heap.size, 0, none⟩ = some (.string x) from (k4.cell (p := ⟨w.heap.size, 0, none⟩) hlt1).trans HS.out)))
      all_goals (go_wp2_with fail)
      all_goals go_ret
      all_goals exact ⟨by rw [HV.out]; rfl, HB.out.trans ((Below.refl wr.heap.size wr).drew.trans HK4.out |>.mono HB.out.size)⟩
    case pos =>
      obtain ⟨g, off, rfl, a0, a1, a2, a3⟩ := (H.out.below HB.out).at' hlt
      have hft := HFt.out n (by rw [HAl.out]; exact hlt)
      have HN := Lib.hid (textsN_set A n (by rw [HAl.out]; exact hlt))
      have hwa := (Below.refl wr.heap.size wr).alloc (Nat.le_refl _) (.cells #[.int .i64 (A.getD n default).k, .int .i64 (A.getD n default).i, .string (A.getD n default).s, .bool (A.getD n default).b] 44)
      have HWA := Lib.hid hwa
      have H1 := Lib.hid (HK.out (A.getD n default) _ hft.2 hft.1 (HLa.out _ (HB.out.trans (hwa.mono HB.out.size))))
      obtain ⟨d, hd⟩ : ∃ d, (textsN A n)[n]? = some d := by
        have hl := textsN_len A n (by rw [HAl.out]; exact hn)
        exact ⟨_, List.getElem?_eq_getElem (by rw [hl, HAl.out]; exact hlt)⟩
      have HDc := Lib.hid (fun w1 (h : HoldT (w.heap.size + 1) (textsN A n) w1) => h.cell hd)
      have HFz := Lib.hid (fun w1 (h : HoldT (w.heap.size + 1) (textsN A n) w1) => h.frozen n)
      have HW := Lib.hid (fun w1 (h : HoldT (w.heap.size + 1) (textsN A n) w1) => h.set n (vtB (A.getD n default)))
      rw [HN.out] at HW
      obtain ⟨⟨k, j, s, z⟩, hv⟩ : ∃ v, v = A.getD n default := ⟨_, rfl⟩
      rw [← hv] at a0 a1 a2 a3 H1 HW HWA
      clear hv hft HN hd hwa
      simp only at a0 a1 a2 a3 H1 HWA
      obtain ⟨y, hy⟩ : ∃ y, y = vtB ⟨k, j, s, z⟩ := ⟨_, rfl⟩
      rw [← hy] at HW
      rw [show (⟨(valText k j s z).toArray⟩ : ByteArray) = y from hy.symm] at H1
      clear hy
      go_wp2_with fail
      refine H1.out.mono ?_
      rintro e w1 ⟨rfl, k1⟩
      have hb1 := HWA.out.trans (k1.mono HWA.out.size)
      have hH1 := HR.out.below hb1
      have c1 := HDc.out w1 hH1
      have f1 := HFz.out w1 hH1
      have HW1 := Lib.hid (HW.out w1 hH1)
      have HT1 := Lib.hid (show ScBut (w.heap.size + 1) w2 w1 from tx_gtrans HT.out (below_gr hb1))
      clear k1 hb1 hH1
      go_wp2_with fail
      go_roundw
      case rel => exact ⟨n + 1, hlt, by go_num, HW1, Lib.hid (HT1.out.set _)⟩
      case measure => simp [intOf]; omega

set_option maxHeartbeats 4000000 in
set_option maxRecDepth 100000 in
theorem refEvText_calls (x : ByteArray) (b : Option Addr) (len c : Nat) (A : List Vd) (w : World) (h : VIn w b len A) (hx : x.size ≤ 1000000) (hl : len ≤ 100) (hM : ∀ j, j < A.length → (vtL (A.getD j default)).length ≤ 100000) (hR : ∀ j, j < A.length → rightB (A.getD j default).k (A.getD j default).i (A.getD j default).s (A.getD j default).b = true) :
    Calls Tryz.prog 17 #[.agg #[.string x, .slice b len c]] w fun e w' => e = .returned (.string (etT (x, A))) ∧ Below w.heap.size w w' := by
  have H := Lib.hid h
  have HAl := Lib.hid h.leng
  have HFt := Lib.hid h.fits
  have HMx := Lib.hid hM
  have HRi := Lib.hid hR
  have HXs := Lib.hid hx
  have HK := Lib.hid (fun (v : Vd) w1 hi hr => refVText_calls v.k v.i v.s v.b w1 hi hr)
  have HB1 := Lib.hid ((Below.refl w.heap.size w).alloc (Nat.le_refl _) (.cells #[.string x, .slice b len c] 29))
  have HE := Lib.hid (EBx.new x (.slice b len c) w 29)
  have z1 : (⟨#[40]⟩ : ByteArray).size = 1 := rfl
  have hc1 := sc_hcat x ⟨#[40]⟩ (by omega)
  have HX0 : Hid ((x ++ ⟨#[40]⟩).data.toList = etN (x, A) 0) := Lib.hid (by rw [sc_cat, etN, argsN]; simp)
  clear h hM hR z1
  go_enter Tryz.func17, Tryz.ntmps17
  go_wp2_with fail
  obtain ⟨W1, hW1⟩ : ∃ W1, (w.alloc (.cells #[.string x, .slice b len c] 29)) = W1 := ⟨_, rfl⟩
  rw [hW1] at HB1 HE ⊢
  have hz : w.heap.size < W1.heap.size := by rw [← hW1]; simp
  clear hW1
  go_loopw [3, 4] (fun o i wr => ∃ (n : Nat) (X : ByteArray), n ≤ len ∧ i = .int .i64 n ∧ o = .string X ∧ Hid (X.data.toList = etN (x, A) n) ∧ Hid (Below W1.heap.size W1 wr)) (fun _ i _ => len - (intOf i).toNat)
  case atStart => exact ⟨0, _, Nat.zero_le _, rfl, rfl, HX0, Lib.hid (Below.refl _ _)⟩
  case round =>
    obtain ⟨n, X, hn, rfl, rfl, HX, HW⟩ := hrel
    obtain ⟨d0, d1⟩ := HE.out.below HW.out hz
    have HWB := Lib.hid (HB1.out.trans (HW.out.mono HB1.out.size))
    have hXs : X.size ≤ 20000000 := by
      have h1 := args_len A n 100000 (by rw [HAl.out]; exact hn) HMx.out
      have h2 := HXs.out
      rw [sc_size, HX.out, etN]
      simp only [List.length_append, List.length_cons, List.length_nil]
      rw [sc_size] at h2
      omega
    by_cases hlt : n < len
    case neg =>
      have hnl : n = len := by omega
      have z2 : (⟨#[41]⟩ : ByteArray).size = 1 := rfl
      have hc2 := sc_hcat X ⟨#[41]⟩ (by omega)
      have HV : Hid (etT (x, A) = X ++ ⟨#[41]⟩) := Lib.hid (by
        refine (sc_eq ?_).symm
        rw [sc_cat, HX.out, etL]
        simp only
        rw [HAl.out, hnl])
      clear hnl z2 hXs
      go_wp2_with fail
      go_ret
      exact ⟨by rw [HV.out]; rfl, HWB.out⟩
    case pos =>
      obtain ⟨g, off, rfl, a0, a1, a2, a3⟩ := (H.out.below HWB.out).at' hlt
      have hnA : n < A.length := by rw [HAl.out]; exact hlt
      have hft := HFt.out n hnA
      have hvl := HMx.out n hnA
      have H1 := Lib.hid (fun w1 => HK.out (A.getD n default) w1 hft.2 (HRi.out n hnA))
      have HS0 : Hid (n = 0 → etN (x, A) (n + 1) = etN (x, A) n ++ vtL (A.getD n default)) := Lib.hid (fun h0 => by subst h0; rw [etN, etN, argsN, argsN, if_pos rfl]; simp)
      have HS1 : Hid (n ≠ 0 → etN (x, A) (n + 1) = etN (x, A) n ++ [44, 32] ++ vtL (A.getD n default)) := Lib.hid (fun h0 => by rw [etN, etN, argsN, if_neg h0]; simp)
      obtain ⟨⟨k, j, s, z⟩, hv⟩ : ∃ v, v = A.getD n default := ⟨_, rfl⟩
      obtain ⟨Y, hY⟩ : ∃ Y : ByteArray, Y = ⟨(vtL (A.getD n default)).toArray⟩ := ⟨_, rfl⟩
      have hYs : Y.size ≤ 100000 := by rw [hY, sc_size]; exact hvl
      have hYd : Y.data.toList = vtL (A.getD n default) := by rw [hY]
      by_cases h0 : n = 0
      · have hs0 := HS0.out h0
        have t1 : decide ((0 : Int) < (n : Int)) = false := by simp; omega
        have t2 : decide (0 < n) = false := by simp; omega
        rw [← hYd] at hs0
        rw [← hv] at a0 a1 a2 a3 H1 hY
        simp only at a0 a1 a2 a3 H1
        rw [show (⟨(valText k j s z).toArray⟩ : ByteArray) = Y from hY.symm] at H1
        have hc2 := sc_hcat X Y (by omega)
        have HN : Hid ((X ++ Y).data.toList = etN (x, A) (n + 1)) := Lib.hid (by rw [sc_cat, HX.out, hs0])
        clear hs0 hYd hYs hY hv hft hvl hXs HS0 HS1 hnA h0
        go_wp2_with fail
        refine (H1.out _).mono ?_
        rintro e w1 ⟨rfl, k1⟩
        have HW1 := Lib.hid (HW.out.trans (k1.mono HW.out.size))
        clear k1
        go_wp2_with fail
        go_roundw
        case rel => exact ⟨n + 1, X ++ Y, hlt, by go_num, rfl, HN, HW1⟩
        case measure => simp [intOf]; omega
      · have hs1 := HS1.out h0
        rw [← hYd] at hs1
        rw [← hv] at a0 a1 a2 a3 H1 hY
        simp only at a0 a1 a2 a3 H1
        rw [show (⟨(valText k j s z).toArray⟩ : ByteArray) = Y from hY.symm] at H1
        have z3 : (⟨#[44, 32]⟩ : ByteArray).size = 2 := rfl
        have t1 : decide ((0 : Int) < (n : Int)) = true := by simp; omega
        have t2 : decide (0 < n) = true := by simp; omega
        have i0 : 0 < n := by omega
        have hc2 := sc_hcat X ⟨#[44, 32]⟩ (by omega)
        have hc3 := sc_hcat (X ++ ⟨#[44, 32]⟩) Y (by rw [sc_catSize]; omega)
        have HN : Hid ((X ++ ⟨#[44, 32]⟩ ++ Y).data.toList = etN (x, A) (n + 1)) := Lib.hid (by rw [sc_cat, sc_cat, HX.out, hs1])
        clear hs1 hYd hYs hY hv hft hvl hXs HS0 HS1 hnA z3 h0
        go_wp2_with fail
        refine (H1.out _).mono ?_
        rintro e w1 ⟨rfl, k1⟩
        have HW1 := Lib.hid (HW.out.trans (k1.mono HW.out.size))
        clear k1
        go_wp2_with fail
        go_roundw
        case rel => exact ⟨n + 1, X ++ ⟨#[44, 32]⟩ ++ Y, hlt, by go_num, rfl, HN, HW1⟩
        case measure => simp [intOf]; omega
end Go.Proofs.YtmjchmamkjbgkaaGreatDoor
