/- What key.cutText does: the text that stands in its key. -/
import Derived.Test.YtppplkfidjjodaaDoorKeyBytes
import Derived.LoopTactic
import Derived.Deep.QuietTactic
import Derived.BigQuiet
import Derived.WalkMore
namespace Go.Proofs.YtppplkfidjjodaaDoor
open Go.RowKit
set_option linter.unusedVariables false

/-- What is told of a text in its key. -/
def TextTold (l : List UInt8) (t : List UInt8) (n : Nat) (ok : Bool) : Prop :=
  (ok = true ∧ t.length ≤ 4096 ∧ n = (escL t).length + 2 ∧ ∃ x, l = escL t ++ 0 :: 1 :: x) ∨ (ok = false ∧ t = [] ∧ n = 0 ∧ KeyTold (2 :: l) none0 0 false)
def TextPost (l : List UInt8) (B : Nat) (w : World) (e : Ending) (w' : World) : Prop :=
  ∃ t n ok, TextTold l t n ok ∧ e = .returned (.tuple #[.string ⟨t.toArray⟩, .int .i64 (n : Nat), .bool ok]) ∧ Below B w w'
theorem text_no {l : List UInt8} (h : KeyTold (2 :: l) none0 0 false) : TextTold l [] 0 false := .inr ⟨rfl, rfl, rfl, h⟩
theorem byteCells_snoc (l : List UInt8) (c : UInt8) : Lib.byteCells l ++ [.int .u8 (c.toNat : Int)] = Lib.byteCells (l ++ [c]) := by simp [Lib.byteCells]
theorem ownsRow_below {B : Nat} {t : TypeId} {k : Nat} {v : Value} {n : Nat} {xs : List Value} {w w' : World} (h : w.ownsRow B t k v n xs) (hb : Below w.heap.size w w') : w'.ownsRow B t k v n xs := by
  obtain ⟨hl, hown⟩ := h
  refine ⟨hl, ?_⟩
  rcases hown with hn | ⟨g, cap, cur, rfl, h1, hg, rest⟩
  · exact .inl hn
  · have hglt : g < w.heap.size := (Array.getElem?_eq_some_iff.1 hg).1
    exact .inr ⟨g, cap, cur, rfl, h1, by rw [hb.block g hglt]; exact hg, rest⟩
theorem new_cell (w : World) (v : Value) (t : TypeId) : (w.alloc (.cells #[v] t)).cell? ⟨w.heap.size, 0, none⟩ = some v := by
  rw [World.cell?_alloc_at (hn := rfl)]; rfl
theorem ownsRow_drewN {B : Nat} {t : TypeId} {k : Nat} {v : Value} {n : Nat} {xs : List Value} {w : World} (h : w.ownsRow B t k v n xs) (m : Nat) : (w.drewN m).ownsRow B t k v n xs := h
/-- The bytes that the call has gathered, as a text. -/
theorem owned_text {B : Nat} {v : Value} {t : List UInt8} {w : World} (h : w.ownsRow B 5 1 v t.length (Lib.byteCells t)) :
    (convert 25 9 v).run Tryd.prog w = .ok (.string ⟨t.toArray⟩) w := by
  obtain ⟨hl, hown⟩ := h
  rcases hown with ⟨rfl, h0⟩ | ⟨g, cap, cur, rfl, h1, hg, hcap, hm, hsz, htk⟩
  · have : t = [] := List.length_eq_zero_iff.1 h0
    subst this
    rw [run_convert_bytes_string w 25 9 5 none 0 0 Tryd.underlying25 Tryd.underlying5 Tryd.underlying9]
    simp [Conv.bytesToString]
    rfl
  · refine run_convert_bytes_back w 25 9 5 ⟨g, 0, none⟩ cap t Tryd.underlying25 Tryd.underlying5 Tryd.underlying9 fun j hj => ?_
    have hadd : (⟨g, 0, none⟩ : Addr).add j = ⟨g, j, none⟩ := by unfold Addr.add; split <;> simp_all
    rw [hadd, cell_of_row w g j cur 5 (0, 0) hg]
    have h2 : (Lib.byteCells t)[j]? = some (.int .u8 (t[j].toNat : Int)) := by simp [Lib.byteCells, hj]
    rw [← htk, Nat.mul_one, List.getElem?_take, if_pos hj] at h2
    simpa using h2
theorem owned_len {B : Nat} {v : Value} {n : Nat} {xs : List Value} {w : World} {t : TypeId} {k : Nat} (h : w.ownsRow B t k v n xs) : ∃ a c, v = .slice a n c := by
  obtain ⟨_, hown⟩ := h
  rcases hown with ⟨rfl, rfl⟩ | ⟨g, cap, cur, rfl, _⟩
  · exact ⟨none, 0, rfl⟩
  · exact ⟨_, cap, rfl⟩

set_option maxHeartbeats 4000000 in
set_option maxRecDepth 100000 in
theorem cutText_calls (g off len cap : Nat) (l : List UInt8) (w : World) (h : Bts w g off l) (hl : l.length = len) (hlc : len ≤ cap) (hb : len ≤ 1000000000) :
    Calls Tryd.prog 24 #[.slice (some ⟨g, off, none⟩) len cap] w (TextPost l w.heap.size w) := by
  have H := Lib.hid h
  have HL := Lib.hid hl
  obtain ⟨i0, hi, hz0, hz1, hz2⟩ := info_parts infoU8
  have HI := Lib.hid hi
  have HZ0 := Lib.hid hz0
  have HZ1 := Lib.hid hz1
  have HZ2 := Lib.hid hz2
  clear h hl hi hz0 hz1 hz2
  go_enter Tryd.func24, Tryd.ntmps24
  go_wp2_with fail
  go_step3
  go_wp2_with fail
  go_step3
  go_wp2_with fail
  go_loopw [5, 6] (fun o i wr => ∃ (k : Nat) (t rest : List UInt8), k ≤ len ∧ i = .int .i64 k ∧ Hid (l = escL t ++ rest) ∧ Hid (k = (escL t).length) ∧ Hid (wr.ownsRow w.heap.size 5 1 o t.length (Lib.byteCells t)) ∧ Hid (Below w.heap.size w wr)) (fun _ i _ => len - (intOf i).toNat)
  case atStart => exact ⟨0, [], l, Nat.zero_le _, rfl, Lib.hid rfl, Lib.hid rfl, Lib.hid ⟨rfl, .inl ⟨rfl, rfl⟩⟩, Lib.hid (Below.refl _ _)⟩
  case round =>
    rename_i o _
    obtain ⟨k, t, rest, hk, rfl, HT, HK, HO, HB⟩ := hrel
    obtain ⟨oa, oc, rfl⟩ := owned_len HO.out
    have htl : t.length ≤ len := by
      have h1 := escL_ge t
      have h2 := HK.out
      omega
    by_cases hlong : 4096 < t.length
    case pos =>
      have HX : Hid (TextTold l [] 0 false) := Lib.hid (text_no (by rw [HT.out]; exact told_text_long hlong))
      have t1 : decide ((4096 : Int) < (t.length : Int)) = true := by simp; omega
      clear hlong
      go_wp2_with fail
      rw [Exit.noGoto_ret]
      go_ret3
      exact ⟨[], 0, false, HX.out, rfl, HB.out⟩
    case neg =>
      have t1 : decide ((4096 : Int) < (t.length : Int)) = false := by simp; omega
      have hts : t.length ≤ 4096 := by omega
      have hdrop : l.drop k = rest := by rw [HT.out, HK.out]; simp
      have HR : Hid (Bts wr g (off + k) rest) := Lib.hid (by rw [← hdrop]; exact (H.out.below HB.out).drop k)
      have hrl : rest.length = len - k := by rw [← hdrop, List.length_drop, HL.out]
      clear hlong
      have i1 : (0 : Int) ≤ (k : Int) := by omega
      have i2 : (k : Int) ≤ (len : Int) := by omega
      cases hrest : rest with
      | nil =>
        have hkl : k = len := by rw [hrest, List.length_nil] at hrl; omega
        have HX : Hid (TextTold l [] 0 false) := Lib.hid (text_no (by rw [HT.out]; exact told_text_no (by rw [hrest]; intro c x e; cases e) (by rw [hrest]; intro c x e; cases e)))
        subst hkl
        clear hdrop hrl hrest HR
        by_cases hc : cap = k
        · subst hc
          go_wp2_with fail
          go_quiet (fail)
          go_wp2_with fail
          go_quiet (fail)
          go_wp2_with fail
          try rw [Exit.noGoto_ret]
          go_ret3
          exact ⟨[], 0, false, HX.out, rfl, below_drewN _ (below_drewN _ HB.out)⟩
        · go_wp2_with fail
          go_quiet (fail)
          go_wp2_with fail
          go_quiet (fail)
          go_wp2_with fail
          try rw [Exit.noGoto_ret]
          go_ret3
          exact ⟨[], 0, false, HX.out, rfl, below_drewN _ (below_drewN _ HB.out)⟩
      | cons c rest1 =>
        have hkl : k < len := by rw [hrest, List.length_cons] at hrl; omega
        have hck : ¬ cap = k := by omega
        have hc0 := HR.out.at' 0 c (by rw [hrest]; rfl)
        rw [Nat.add_zero] at hc0
        have i3 : (0 : Int) < ((len - k : Nat) : Int) := by omega
        have t2 : decide ((0 : Int) < ((len - k : Nat) : Int)) = true := by simpa using i3
        by_cases hz : c = 0
        case neg =>
          have t3 : ((c.toNat : Int) != 0) = true := by
            rw [bne_iff_ne]; intro e; exact hz (UInt8.toNat_inj.1 (by show c.toNat = 0; omega))
          have HT2 : Hid (l = escL (t ++ [c]) ++ rest1) := Lib.hid (by rw [HT.out, hrest, escL_app, escL_else hz]; simp [escL])
          have HK2 : Hid (k + 1 = (escL (t ++ [c])).length) := Lib.hid (by rw [escL_app, escL_else hz, HK.out]; simp [escL])
          clear hdrop hrl hrest HR hz
          go_wp2_with (at_builtin; refine wpList_append_own _ rfl _ _ 25 rfl w.heap.size 5 i0 (.int .u8 0) 1 1 Tryd.underlying25 HI.out HZ0.out HZ1.out HZ2.out rfl (by decide) _ _ _ rfl (HO.out.alloc _) ⟨wr.heap.size, 0, none⟩ 1 1 [.int .u8 c.toNat] rfl rfl ?c1 ?c2 ?c3 ?c4 ?c5 ?_)
          case c1 =>
            intro j u hj
            match j, hj with
            | 0, hj => simp at hj; subst hj; simp [Addr.add]
          case c2 => intro u hu; simp at hu; subst hu; rfl
          case c3 => unfold maxLen; omega
          case c4 => omega
          case c5 => have := HB.out.size; simp; omega
          intro v' w2 hown' hgrow _
          have k5 := (HB.out.alloc HB.out.size _).grown hgrow (by have := HB.out.size; simp; omega) (fun k hk => (HO.out.lt k hk).1)
          have HO2 : Hid (w2.ownsRow w.heap.size 5 1 v' (t ++ [c]).length (Lib.byteCells (t ++ [c]))) := Lib.hid (by rw [← byteCells_snoc, List.length_append]; exact hown')
          have HB2 := Lib.hid k5
          clear hown' hgrow k5 HO HB
          go_wp2_with fail
          go_roundw
          case rel => exact ⟨k + 1, t ++ [c], rest1, by omega, by go_num, HT2, HK2, HO2, HB2⟩
          case measure => simp [intOf]; omega
        case pos =>
          subst hz
          have t3 : (((0 : UInt8).toNat : Int) != 0) = false := rfl
          cases hrest1 : rest1 with
          | nil =>
            have hk1 : len - k = 1 := by rw [hrest, hrest1] at hrl; simpa using hrl.symm
            have HX : Hid (TextTold l [] 0 false) := Lib.hid (text_no (by rw [HT.out]; exact told_text_no (by rw [hrest]; intro c x e; exact ((List.cons.inj e).1).symm) (by rw [hrest, hrest1]; intro c x e; simp at e)))
            have t4 : decide ((1 : Int) < ((len - k : Nat) : Int)) = false := by rw [hk1]; rfl
            clear hdrop hrl hrest HR hrest1 hk1
            go_wp2_with fail
            go_quiet (fail)
            go_wp2_with fail
            go_quiet (fail)
            go_wp2_with fail
            try rw [Exit.noGoto_ret]
            go_ret3
            exact ⟨[], 0, false, HX.out, rfl, below_drewN _ (below_drewN _ HB.out)⟩
          | cons d rest2 =>
            have hd0 := HR.out.at' 1 d (by rw [hrest, hrest1]; rfl)
            have hk2 : 2 ≤ len - k := by rw [hrest, hrest1] at hrl; simp at hrl; omega
            have t4 : decide ((1 : Int) < ((len - k : Nat) : Int)) = true := by simp; omega
            have i4 : (1 : Int) < ((len - k : Nat) : Int) := by omega
            by_cases h255 : d = 255
            · subst h255
              have t5 : (((255 : UInt8).toNat : Int) == 255) = true := rfl
              have HT2 : Hid (l = escL (t ++ [0]) ++ rest2) := Lib.hid (by rw [HT.out, hrest, hrest1, escL_app, escL_zero]; simp [escL])
              have HK2 : Hid (k + 2 = (escL (t ++ [0])).length) := Lib.hid (by rw [escL_app, escL_zero, HK.out]; simp [escL])
              clear hdrop hrl hrest HR hrest1
              go_wp2_with fail
              go_quiet (fail)
              go_wp2_with (at_builtin; refine wpList_append_own _ rfl _ _ 25 rfl w.heap.size 5 i0 (.int .u8 0) 1 1 Tryd.underlying25 HI.out HZ0.out HZ1.out HZ2.out rfl (by decide) _ _ _ rfl ((ownsRow_drewN HO.out _).alloc _) ⟨wr.heap.size, 0, none⟩ 1 1 [.int .u8 0] rfl rfl ?c1 ?c2 ?c3 ?c4 ?c5 ?_)
              case c1 =>
                intro j u hj
                match j, hj with
                | 0, hj => simp at hj; subst hj; simp [Addr.add]; exact new_cell (wr.drewN _) _ _
              case c2 => intro u hu; simp at hu; subst hu; rfl
              case c3 => unfold maxLen; omega
              case c4 => omega
              case c5 => have := HB.out.size; simp; omega
              intro v' w2 hown' hgrow _
              have k5 := ((below_drewN _ HB.out).alloc HB.out.size _).grown hgrow (by have := HB.out.size; simp; omega) (fun k hk => (HO.out.lt k hk).1)
              have HO2 : Hid (w2.ownsRow w.heap.size 5 1 v' (t ++ [0]).length (Lib.byteCells (t ++ [0]))) := Lib.hid (by rw [← byteCells_snoc, List.length_append]; exact hown')
              have HB2 := Lib.hid k5
              clear hown' hgrow k5 HO HB
              go_wp2_with fail
              go_roundw
              case rel => exact ⟨k + 2, t ++ [0], rest2, by omega, by go_num, HT2, HK2, HO2, HB2⟩
              case measure => simp [intOf]; omega
            · have t5 : ((d.toNat : Int) == 255) = false := by
                rw [beq_eq_false_iff_ne]; intro e; exact h255 (UInt8.toNat_inj.1 (by show d.toNat = 255; omega))
              by_cases h1 : d = 1
              · subst h1
                have t6 : (((1 : UInt8).toNat : Int) == 1) = true := rfl
                have HX : Hid (TextTold l t (k + 2) true) := Lib.hid (.inl ⟨rfl, hts, by rw [HK.out], rest2, by rw [HT.out, hrest, hrest1]⟩)
                have hcv := fun m => owned_text (ownsRow_drewN HO.out m)
                have hcv2 := fun m m' => owned_text (ownsRow_drewN (ownsRow_drewN HO.out m) m')
                clear hdrop hrl hrest HR hrest1 h255
                go_wp2_with fail
                go_quiet (fail)
                go_wp2_with fail
                go_quiet (fail)
                go_wp2_with fail
                try rw [Exit.noGoto_ret]
                go_ret3
                exact ⟨t, k + 2, true, HX.out, by go_num, below_drewN _ HB.out⟩
              · have t6 : ((d.toNat : Int) == 1) = false := by
                  rw [beq_eq_false_iff_ne]; intro e; exact h1 (UInt8.toNat_inj.1 (by show d.toNat = 1; omega))
                have HX : Hid (TextTold l [] 0 false) := Lib.hid (text_no (by rw [HT.out]; exact told_text_no (by rw [hrest]; intro c x e; exact ((List.cons.inj e).1).symm) (by rw [hrest, hrest1]; intro c x e; simp at e; obtain ⟨rfl, _⟩ := e; exact ⟨h1, h255⟩)))
                have t7 : ((d.toNat : Int) == ((⟨#[0, 255]⟩ : ByteArray)[1].toNat : Int)) = false := t5
                have t8 : ((d.toNat : Int) == ((⟨#[0, 1]⟩ : ByteArray)[1].toNat : Int)) = false := t6
                clear hdrop hrl hrest HR hrest1 h255 h1
                go_wp2_with fail
                go_quiet (fail)
                go_wp2_with fail
                go_quiet (fail)
                go_wp2_with fail
                try rw [Exit.noGoto_ret]
                go_ret3
                first | exact ⟨[], 0, false, HX.out, rfl, below_drewN _ (below_drewN _ HB.out)⟩ | exact ⟨[], 0, false, HX.out, rfl, below_drewN _ HB.out⟩
end Go.Proofs.YtppplkfidjjodaaDoor
