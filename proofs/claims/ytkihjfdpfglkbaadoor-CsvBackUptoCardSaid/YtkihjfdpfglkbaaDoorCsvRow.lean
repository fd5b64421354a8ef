/- What csv.cutRow does with any text. -/
import Derived.Test.YtkihjfdpfglkbaaDoorCsvOwn
import Derived.Test.YtkihjfdpfglkbaaDoorCsvCut
namespace Go.Proofs.YtkihjfdpfglkbaaDoor
open Go.RowKit
set_option linter.unusedVariables false

theorem cp_calls (s : ByteArray) (w : World) :
    Calls Tryd.prog 32 #[.string s, .string ⟨#[44]⟩] w fun e w' => e = .returned (.tuple #[.string ⟨(if s.data.toList.head? = some 44 then s.data.toList.drop 1 else s.data.toList).toArray⟩, .bool (s.data.toList.head? == some 44)]) ∧ w = w' := by
  refine (Tryd.strings_CutPrefix s ⟨#[44]⟩ w).mono ?_
  rintro e w' ⟨rfl, rfl⟩
  refine ⟨?_, rfl⟩
  rw [show (⟨#[44]⟩ : ByteArray).data.toList = [44] from rfl, Lib.trimPrefix, hp_one]
  by_cases h : s.data.toList.head? = some 44
  · rw [if_pos h, if_pos (beq_iff_eq.2 h)]; rfl
  · rw [if_neg h, if_neg (by simpa using h)]
theorem tp_calls (s : ByteArray) (w : World) :
    Calls Tryd.prog 33 #[.string s, .string ⟨#[13, 10]⟩] w fun e w' => e = .returned (.string ⟨(cutE s.data.toList).toArray⟩) ∧ w = w' := by
  refine (Tryd.strings_TrimPrefix s ⟨#[13, 10]⟩ w).mono ?_
  rintro e w' ⟨rfl, rfl⟩
  exact ⟨rfl, rfl⟩
def textLen : Value → Nat
  | .string x => x.size
  | _ => 0
def moreN : Value → Nat → Nat
  | .bool true, n => n + 1
  | _, _ => 0
/-- What is told of a row: its fields, and what stands behind it; or what is wrong. -/
def RowPost (l : List UInt8) (w : World) (e : Ending) (w' : World) : Prop :=
  (∃ er c E, rowR l = .error (er, c) ∧ e = .returned (.tuple #[.slice none 0 0, .string ⟨#[]⟩, .iface 59 (.pointer (some ⟨E, 0, none⟩))]) ∧ w.heap.size ≤ E ∧ w'.heap[E]? = some (.cells #[.int .i64 (c : Nat), .iface 24 (.int .i64 (er : Nat))] 64 (0, 0)) ∧ Below w.heap.size w w') ∨
  (∃ fs r a cap, rowR l = .ok (fs, r) ∧ e = .returned (.tuple #[.slice a fs.length cap, .string ⟨r.toArray⟩, .nilIface]) ∧ TIn w' a fs.length fs ∧ TObj w' a ∧ Below w.heap.size w w')

set_option maxHeartbeats 4000000 in
set_option maxRecDepth 100000 in
theorem cutRow_calls (s : ByteArray) (w : World) (hs : s.size ≤ 4000000) (hm : MaxC w) :
    Calls Tryd.prog 23 #[.string s] w (RowPost s.data.toList w) := by
  obtain ⟨l, hl⟩ : ∃ l, l = s.data.toList := ⟨_, rfl⟩
  rw [← hl]
  have HM := Lib.hid hm
  have HC := Lib.hid (fun (t : ByteArray) (w1 : World) (h : t.size ≤ 4000000) (hm1 : MaxC w1) => cutField_calls t w1 h hm1)
  have HCP := Lib.hid (fun t w1 => cp_calls t w1)
  have HTP := Lib.hid (fun t w1 => tp_calls t w1)
  have HX0 : Hid (rowX l [] s.data.toList) := Lib.hid (by rw [hl]; exact rowX_refl _)
  obtain ⟨i0, hi, hz0, hz1, hz2⟩ := cs_parts cs_infoS
  have HI := Lib.hid hi
  have HZ0 := Lib.hid hz0
  have HZ1 := Lib.hid hz1
  have HZ2 := Lib.hid hz2
  clear hm hl hi hz0 hz1 hz2
  go_enter Tryd.func23, Tryd.ntmps23
  go_wp2_with fail
  go_loopw [0, 5, 6] (fun xs o b wr => ∃ (x : ByteArray) (fs : List (List UInt8)) (more : Bool), xs = .string x ∧ b = .bool more ∧ x.size ≤ s.size ∧ fs.length ≤ 4000001 ∧ (more = true → fs.length + x.size ≤ s.size) ∧ Hid (if more then rowX l fs x.data.toList else rowR l = .ok (fs, cutE x.data.toList)) ∧ Hid (wr.ownsRow w.heap.size 9 1 o fs.length (strsV fs)) ∧ Hid (Below w.heap.size w wr)) (fun xs _ b _ => moreN b (textLen xs))
  case atStart => exact ⟨s, [], true, rfl, rfl, Nat.le_refl _, by simp, fun _ => by simp, HX0, Lib.hid (World.ownsRow_nil _ _ _ _), Lib.hid (Below.refl _ _)⟩
  case round =>
    clear HX0
    rename_i o _
    obtain ⟨x, fs, more, rfl, rfl, hx, hf1, hf2, HX, HO, HB⟩ := hrel
    cases more
    · have H1 := Lib.hid (fun w1 => HTP.out x w1)
      have HX1 : Hid (rowR l = .ok (fs, cutE x.data.toList)) := HX
      clear HX
      obtain ⟨a, cap, rfl, h2, h3⟩ := own_tin HO.out
      have HT := Lib.hid h2
      have HT3 := Lib.hid h3
      clear h2 h3
      go_wp2_with fail
      refine (H1.out _).mono ?_
      rintro e w1 ⟨rfl, rfl⟩
      go_wp2_with fail
      go_ret3
      exact .inr ⟨fs, _, a, cap, HX1.out, rfl, HT.out, HT3.out, HB.out⟩
    · have hf3 := hf2 rfl
      have HX1 : Hid (rowX l fs x.data.toList) := HX
      clear HX hf2
      have H1 := Lib.hid (HC.out x wr (by omega) (HM.out.below HB.out))
      cases hfr : fieldR x.data.toList with
      | error er =>
        have HR := Lib.hid (rowX_err HX1.out hfr)
        rw [hfr] at H1
        have H2 : Hid (Calls Tryd.prog 31 #[.string x] wr fun e w' => e = .returned (.tuple #[.string ⟨#[]⟩, .string ⟨#[]⟩, .iface 24 (.int .i64 (er : Nat))]) ∧ Below wr.heap.size wr w') := H1
        obtain ⟨oa, oc, rfl⟩ := cs_own HO.out
        clear H1 hfr HX1
        go_wp2_with fail
        refine H2.out.mono ?_
        rintro e w1 ⟨rfl, k1⟩
        have HB1 := Lib.hid (HB.out.trans (k1.mono HB.out.size))
        clear k1
        go_wp2_with fail
        go_ret3
        exact .inl ⟨er, fs.length + 1, w1.heap.size, HR.out, by go_num, HB1.out.size, by rw [heap_alloc_new]; go_num, HB1.out.alloc HB1.out.size _⟩
      | ok y =>
        obtain ⟨f, r⟩ := y
        rw [hfr] at H1
        have hrl := fieldR_rest hfr
        rw [← cs_size] at hrl
        have H2 : Hid (Calls Tryd.prog 31 #[.string x] wr fun e w' => e = .returned (.tuple #[.string ⟨f.toArray⟩, .string ⟨r.toArray⟩, .nilIface]) ∧ Below wr.heap.size wr w') := H1
        have H3 := Lib.hid (fun w1 => HCP.out ⟨r.toArray⟩ w1)
        rw [show (⟨r.toArray⟩ : ByteArray).data.toList = r from rfl] at H3
        obtain ⟨F, hF⟩ : ∃ F : ByteArray, F = ⟨f.toArray⟩ := ⟨_, rfl⟩
        obtain ⟨R, hR⟩ : ∃ R : ByteArray, R = ⟨r.toArray⟩ := ⟨_, rfl⟩
        rw [← hF, ← hR] at H2
        rw [← hR] at H3
        have HFe := Lib.hid hF
        clear H1 hF hR
        by_cases h44 : r.head? = some 44
        · have hr1 : 1 ≤ r.length := by
            cases r with
            | nil => cases h44
            | cons c r => simp
          have HX2 := Lib.hid (rowX_more HX1.out hfr h44)
          have HS : Hid ((⟨(r.drop 1).toArray⟩ : ByteArray).size = r.length - 1) := Lib.hid (by rw [cs_size]; simp)
          rw [if_pos h44, show (r.head? == some 44) = true from beq_iff_eq.2 h44] at H3
          obtain ⟨Y, hY⟩ : ∃ Y : ByteArray, Y = ⟨(r.drop 1).toArray⟩ := ⟨_, rfl⟩
          rw [← hY] at H3 HS
          have HX3 : Hid (if true then rowX l (fs ++ [f]) Y.data.toList else rowR l = .ok (fs ++ [f], cutE Y.data.toList)) := Lib.hid (by rw [hY]; exact HX2.out)
          clear hfr HX1 HX2 h44 hY
          go_wp2_with fail
          refine H2.out.mono ?_
          rintro e w1 ⟨rfl, k1⟩
          have HB1 := Lib.hid (HB.out.trans (k1.mono HB.out.size))
          have HO1 := Lib.hid (cs_ownBelow HO.out k1)
          clear k1 HO H2
          go_wp2_with (at_builtin; refine wpList_append_own _ rfl _ _ 32 rfl w.heap.size 9 i0 _ 1 16 Tryd.underlying32 HI.out HZ0.out HZ1.out HZ2.out rfl (by decide) _ _ _ rfl (HO1.out.alloc _) ⟨w1.heap.size, 0, none⟩ 1 1 [.string F] rfl rfl (cs_new w1 _ _) (by intro u hu; simp at hu; subst hu; rfl) (by unfold maxLen; omega) (by omega) (by have := HB1.out.size; simp; omega) ?_; intro v' w2 ho2 hg2 _)
          have HB2 := Lib.hid ((HB1.out.alloc HB1.out.size (.cells #[.string F] 9)).grown hg2 (by have := HB1.out.size; simp; omega) (fun k hk => (HO1.out.lt k hk).1))
          have HO2 : Hid (w2.ownsRow w.heap.size 9 1 v' (fs ++ [f]).length (strsV (fs ++ [f]))) := Lib.hid (by rw [strsV_app, List.length_append, show strsV [f] = [.string F] by rw [HFe.out]; rfl]; exact ho2)
          clear ho2 hg2 HO1 HB1 HB
          go_wp2_with fail
          refine (H3.out _).mono ?_
          rintro e w3 ⟨rfl, rfl⟩
          go_wp2_with fail
          have HSo := HS.out
          have HLn : Hid ((fs ++ [f]).length = fs.length + 1) := Lib.hid (by simp)
          go_roundw
          case rel => exact ⟨Y, fs ++ [f], true, rfl, rfl, by omega, by rw [HLn.out]; omega, fun _ => by rw [HLn.out]; omega, HX3, HO2, HB2⟩
          case measure => simp [moreN, textLen]; omega
        · have HX2 := Lib.hid (rowX_end HX1.out hfr h44)
          rw [if_neg h44, show (r.head? == some 44) = false from beq_eq_false_iff_ne.2 h44] at H3
          obtain ⟨Y, hY⟩ : ∃ Y : ByteArray, Y = ⟨r.toArray⟩ := ⟨_, rfl⟩
          have HS : Hid (Y.size = r.length) := Lib.hid (by rw [hY, cs_size])
          rw [← hY] at H3
          have HX3 : Hid (if false then rowX l (fs ++ [f]) Y.data.toList else rowR l = .ok (fs ++ [f], cutE Y.data.toList)) := Lib.hid (by rw [hY]; exact HX2.out)
          clear hfr HX1 HX2 h44 hY
          go_wp2_with fail
          refine H2.out.mono ?_
          rintro e w1 ⟨rfl, k1⟩
          have HB1 := Lib.hid (HB.out.trans (k1.mono HB.out.size))
          have HO1 := Lib.hid (cs_ownBelow HO.out k1)
          clear k1 HO H2
          go_wp2_with (at_builtin; refine wpList_append_own _ rfl _ _ 32 rfl w.heap.size 9 i0 _ 1 16 Tryd.underlying32 HI.out HZ0.out HZ1.out HZ2.out rfl (by decide) _ _ _ rfl (HO1.out.alloc _) ⟨w1.heap.size, 0, none⟩ 1 1 [.string F] rfl rfl (cs_new w1 _ _) (by intro u hu; simp at hu; subst hu; rfl) (by unfold maxLen; omega) (by omega) (by have := HB1.out.size; simp; omega) ?_; intro v' w2 ho2 hg2 _)
          have HB2 := Lib.hid ((HB1.out.alloc HB1.out.size (.cells #[.string F] 9)).grown hg2 (by have := HB1.out.size; simp; omega) (fun k hk => (HO1.out.lt k hk).1))
          have HO2 : Hid (w2.ownsRow w.heap.size 9 1 v' (fs ++ [f]).length (strsV (fs ++ [f]))) := Lib.hid (by rw [strsV_app, List.length_append, show strsV [f] = [.string F] by rw [HFe.out]; rfl]; exact ho2)
          clear ho2 hg2 HO1 HB1 HB
          go_wp2_with fail
          refine (H3.out _).mono ?_
          rintro e w3 ⟨rfl, rfl⟩
          go_wp2_with fail
          have HSo := HS.out
          have HLn : Hid ((fs ++ [f]).length = fs.length + 1) := Lib.hid (by simp)
          go_roundw
          case rel => exact ⟨Y, fs ++ [f], false, rfl, rfl, by omega, by rw [HLn.out]; omega, (fun h => (by cases h)), HX3, HO2, HB2⟩
          case measure => simp [moreN, textLen]
end Go.Proofs.YtkihjfdpfglkbaaDoor
