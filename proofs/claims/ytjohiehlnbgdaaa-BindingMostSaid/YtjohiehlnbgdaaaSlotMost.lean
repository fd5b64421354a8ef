/- What binding.Most does with bindings that may be. -/
import Derived.Test.YtjohiehlnbgdaaaSlotSort
import Derived.Test.YtjohiehlnbgdaaaSlotAbove
import Derived.Test.YtjohiehlnbgdaaaSlotCls
namespace Go.Proofs.Ytjohiehlnbgdaaa
open Go.RowKit
set_option linter.unusedVariables false

def Bw.of {w : World} (xa : Option Addr) (xc : Nat) (X : List Sd) (hx : SIn w xa X.length X) (hr : RVs X) : Bw w := ⟨(xa, xc, X), hx, hr⟩
theorem takeL_snoc (LL : List (List Sd)) (n : Nat) (h : n < LL.length) : LL.take (n + 1) = LL.take n ++ [LL.getD n []] := by
  rw [List.take_succ_eq_append_getElem h]
  simp [List.getD, h]
theorem getDL_mem {LL : List (List Sd)} {n : Nat} (h : n < LL.length) : LL.getD n [] ∈ LL := by
  have : LL.getD n [] = LL[n] := by simp [List.getD, h]
  rw [this]
  exact List.getElem_mem _
theorem lin_bw {w0 w : World} {g off : Nat} {D : List (Bw w0)} (hH : Go.Sort.Holds Bw.enc w g off D.toArray) (hb : Below w0.heap.size w0 w) (hg : g < w.heap.size) (hl : D.length ≤ 1000000) : LIn w (some ⟨g, off, none⟩) D.length (D.map Bw.row) (D.map Bw.enc) :=
  ⟨⟨by simp, fun n hn => by
      rw [List.length_map] at hn
      refine ⟨D[n].1.1, D[n].1.2.1, ?_, ?_⟩
      · simp [List.getD, hn, Bw.enc, Bw.row]
      · simp only [List.getD, List.getElem?_map, List.getElem?_eq_getElem hn, Option.map_some, Option.getD_some]
        exact D[n].2.1.below hb⟩, by simp, by omega, fun _ => ⟨g, off, rfl, hg, fun j u hj => by
      rw [List.getElem?_map] at hj
      have hjl : j < D.length := by
        rcases Nat.lt_or_ge j D.length with h | h
        · exact h
        · rw [List.getElem?_eq_none h] at hj; cases hj
      rw [List.getElem?_eq_getElem hjl] at hj
      have := (hH j (by simpa using hjl)).1
      rw [getElem!_pos _ j (by simpa using hjl)] at this
      rw [this, ← hj]
      simp⟩⟩

theorem lin_cut {w w' : World} {g m k q : Nat} {SS : List (List Sd)} {su : List Value} (h : LIn w (some ⟨g, 0, none⟩) m SS su) (hb : Below w.heap.size w w') (hq : q = k + 1 ∨ k + 1 = m) : LIn w' (some ⟨g, q, none⟩) (m - (k + 1)) (SS.drop (k + 1)) (su.drop (k + 1)) := by
  have h' := (h.below hb).drop (k + 1)
  rw [Nat.zero_add] at h'
  rcases hq with rfl | hq
  · exact h'
  · exact ⟨h'.vals, h'.leng, h'.small, fun h0 => by omega⟩
theorem rf_len : ∀ {M : List Sd} {lo : Int}, rightFrom lo M = true → M = [] ∨ (M.length : Int) + lo ≤ 8
  | [], _, _ => .inl rfl
  | z :: M, lo, h => by
    obtain ⟨h1, h2, _, h4⟩ := rf_parts h
    right
    rcases rf_len h4 with e | e
    · subst e; simp; omega
    · simp; omega
theorem right_len {M : List Sd} (h : rightL M = true) : M.length ≤ 8 := by
  rcases rf_len (M := M) (lo := 0) h with e | e
  · subst e; simp
  · omega

set_option maxHeartbeats 4000000 in
set_option maxRecDepth 100000 in
theorem most_calls (a : Option Addr) (len cap : Nat) (LL : List (List Sd)) (vs : List Value) (b : Option Addr) (cb : Nat) (B : List Sd) (w : World) (hl : LIn w a len LL vs) (hb : SIn w b B.length B) (hR : ∀ A ∈ LL, rightL A = true) (hlen : len ≤ 1000) :
    Calls Try.prog 18 #[.slice a len cap, .slice b B.length cb] w fun e w' => ∃ SS, SS.Perm (LL.filter (fun A => underL A B)) ∧ SortL SS ∧ ListPost (keepL SS) w e w' := by
  have H := Lib.hid hl
  have HL := Lib.hid hl.leng
  have hsm := hl.small
  have HSB := Lib.hid hb
  have HR := Lib.hid hR
  obtain ⟨i0, hi, hz0, hz1, hz2⟩ := info_parts infoL
  have HI := Lib.hid hi
  have HZ0 := Lib.hid hz0
  have HZ1 := Lib.hid hz1
  have HZ2 := Lib.hid hz2
  clear hl hb hR hi hz0 hz1 hz2
  go_enter Try.func18, Try.ntmps18
  go_wp2_with fail
  go_loopw [5, 14] (fun o i wr => ∃ (n : Nat) (D : List (Bw w)), n ≤ len ∧ i = .int .i64 n ∧ D.length ≤ n ∧ Hid (wr.ownsRow w.heap.size 22 1 o D.length (D.map Bw.enc)) ∧ Hid (D.map Bw.row = (LL.take n).filter (fun A => underL A B)) ∧ Hid (Below w.heap.size w wr)) (fun _ i _ => len - (intOf i).toNat)
  case atStart => exact ⟨0, [], Nat.zero_le _, rfl, Nat.le_refl _, Lib.hid (World.ownsRow_nil _ _ _ _), Lib.hid rfl, Lib.hid (Below.refl _ _)⟩
  case round =>
    obtain ⟨n, D, hn, rfl, hDn, HO, HD, HB⟩ := hrel
    by_cases h : n < len
    case pos =>
      obtain ⟨g, off, xa, xc, rfl, hc0, hx⟩ := H.out.at' (Below.refl _ w) h
      have hc := (HB.out.cell (p := ⟨g, off + n, none⟩) (lt_of_cell hc0)).trans hc0
      clear hc0
      have HT := Lib.hid (takeL_snoc LL n (by rw [HL.out]; exact h))
      have HRx := Lib.hid (RVs.of (HR.out _ (getDL_mem (LL := LL) (n := n) (by rw [HL.out]; exact h))))
      generalize LL.getD n [] = X at hc hx HT HRx
      have HX := Lib.hid hx
      have H1 := Lib.hid (bUnder_calls xa b X.length xc B.length cb X B wr (hx.below HB.out) (HSB.out.below HB.out))
      clear hx
      obtain ⟨oa, oc, rfl⟩ := own_slice HO.out
      cases e : underL X B
      · have HD2 : Hid (D.map Bw.row = (LL.take (n + 1)).filter (fun A => underL A B)) := Lib.hid (by rw [HT.out, List.filter_append, ← HD.out]; simp [e])
        rw [e] at H1
        clear e
        go_wp2_with fail
        refine H1.out.mono ?_
        rintro e w1 ⟨rfl, k1⟩
        have HB1 := Lib.hid (HB.out.trans (k1.mono HB.out.size))
        have HO1 := Lib.hid (row_below HO.out k1)
        clear k1
        go_wp2_with fail
        go_roundw
        case rel => exact ⟨n + 1, D, by omega, by go_num, by omega, HO1, HD2, HB1⟩
        case measure => simp [intOf]; omega
      · have HD2 : Hid ((D ++ [Bw.of xa xc X HX.out HRx.out]).map Bw.row = (LL.take (n + 1)).filter (fun A => underL A B)) := Lib.hid (by rw [HT.out, List.filter_append, ← HD.out, List.map_append, show [X].filter (fun A => underL A B) = [X] by simp [e]]; rfl)
        rw [e] at H1
        clear e
        go_wp2_with fail
        refine H1.out.mono ?_
        rintro e w1 ⟨rfl, k1⟩
        have HB1 := Lib.hid (HB.out.trans (k1.mono HB.out.size))
        have HO1 := Lib.hid (row_below HO.out k1)
        clear k1
        go_wp2_with (at_builtin; refine wpList_append_own _ rfl _ _ 36 rfl w.heap.size 22 i0 _ 1 24 Try.underlying36 HI.out HZ0.out HZ1.out HZ2.out rfl (by decide) _ _ _ rfl (HO1.out.alloc _) ⟨w1.heap.size, 0, none⟩ 1 1 [.slice xa X.length xc] rfl rfl (new_one w1 _ 22) (by simp [Value.oneCell']) (by unfold maxLen; omega) (by omega) (by have := HB1.out.size; simp; omega) ?_; intro v4 w4 ho4 hg4 _)
        have HB4 := Lib.hid ((HB1.out.alloc HB1.out.size (.cells #[.slice xa X.length xc] 22)).grown hg4 (by have := HB1.out.size; simp; omega) (fun k hk => (HO1.out.lt k hk).1))
        have HO4 : Hid (w4.ownsRow w.heap.size 22 1 v4 (D ++ [Bw.of xa xc X HX.out HRx.out]).length ((D ++ [Bw.of xa xc X HX.out HRx.out]).map Bw.enc)) := Lib.hid (by rw [List.length_append, List.map_append]; exact ho4)
        clear ho4 hg4
        go_wp2_with fail
        go_roundw
        case rel => exact ⟨n + 1, D ++ [Bw.of xa xc X HX.out HRx.out], by omega, by go_num, by simp; omega, HO4, HD2, HB4⟩
        case measure => simp [intOf]; omega
    case neg =>
      obtain rfl : n = len := by omega
      have HDD : Hid (D.map Bw.row = LL.filter (fun A => underL A B)) := Lib.hid (by rw [HD.out, List.take_of_length_le (by rw [HL.out]; exact Nat.le_refl _)])
      by_cases h0 : 0 < D.length
      case neg =>
        have hD0 : D = [] := List.length_eq_zero_iff.1 (by omega)
        subst hD0
        obtain ⟨oa, oc, rfl⟩ := own_slice HO.out
        have HP : Hid (([] : List (List Sd)).Perm (LL.filter (fun A => underL A B))) := Lib.hid (by rw [← HDD.out]; exact List.Perm.refl _)
        have HS := Lib.hid (fun w1 => sortL_none oa oc (.func (.func 30) #[] #[]) w1)
        simp only [List.length_nil]
        go_wp2_with fail
        refine (HS.out _).mono ?_
        rintro e w1 ⟨rfl, rfl⟩
        go_wp2_with fail
        go_loopw [8, 30] (fun o i w3 => o = .slice none 0 0 ∧ i = .int .i64 0 ∧ w3 = w1) (fun _ _ _ => 0)
        case atStart => exact ⟨rfl, rfl, rfl⟩
        case round =>
          obtain ⟨rfl, rfl, rfl⟩ := hrel
          go_wp2_with fail
          go_ret
          exact ⟨[], HP.out, List.Pairwise.nil, none, 0, [], rfl, Nat.le_refl _, Nat.zero_le _, LIn.none', HB.out⟩
      case pos =>
        obtain ⟨gu, cu, rfl, _, hcu, hmu, hgu, hlu, hH⟩ := own_bw HO.out h0
        have HS := Lib.hid (sortL_calls w gu 0 cu D wr HB.out hgu hH hlu (by omega))
        clear hH
        go_wp2_with fail
        refine HS.out.mono ?_
        rintro e w2 ⟨rfl, D', hp, hs, hH2, hB2, hg2⟩
        have hm : D.length = D'.length := hp.length_eq.symm
        have HLi := Lib.hid (lin_bw hH2 hB2 hg2 (by omega))
        have HP : Hid ((D'.map Bw.row).Perm (LL.filter (fun A => underL A B))) := Lib.hid (by rw [← HDD.out]; exact hp.map _)
        have HSo := Lib.hid hs
        have HB2 := Lib.hid hB2
        rw [← hm] at HLi
        clear hH2 hp hs hB2 HS
        generalize D.length = m at *
        generalize D'.map Bw.row = SS at HLi HP HSo
        generalize D'.map Bw.enc = su at HLi
        have HSL := Lib.hid HLi.out.leng
        clear hm HO HD HDD h hn
        go_wp2_with fail
        go_loopw [8, 30] (fun o i w3 => ∃ (k : Nat) (MM : List (List Sd)) (us : List Value), k ≤ m ∧ i = .int .i64 k ∧ MM.length ≤ k ∧ Hid (w3.ownsRow w2.heap.size 22 1 o MM.length us) ∧ Hid (Cls w3 us MM) ∧ Hid (keepL SS = MM ++ keepL (SS.drop k)) ∧ Hid (Below w2.heap.size w2 w3)) (fun _ i _ => m - (intOf i).toNat)
        case atStart => exact ⟨0, [], [], Nat.zero_le _, rfl, Nat.le_refl _, Lib.hid (World.ownsRow_nil _ _ _ _), Lib.hid (Cls.nil _), Lib.hid rfl, Lib.hid (Below.refl _ _)⟩
        case round =>
          obtain ⟨k, MM, us, hk, rfl, hMk, HO3, HC3, HK3, HB3⟩ := hrel
          by_cases h : k < m
          case neg =>
            obtain rfl : k = m := by omega
            have HE : Hid (keepL SS = MM) := Lib.hid (by rw [HK3.out, List.drop_eq_nil_iff.2 (by rw [HSL.out]; exact Nat.le_refl _)]; simp [keepL])
            obtain ⟨oa, oc, rfl, hc5, hm5, hl5⟩ := own_lin2 HO3.out HC3.out.vs
            have HL5 := Lib.hid hl5
            clear hl5
            go_wp2_with fail
            go_ret
            exact ⟨SS, HP.out, HSo.out, oa, oc, us, by rw [HE.out]; rfl, by rw [HE.out]; exact hc5, hm5, by rw [HE.out]; exact HL5.out, HB2.out.trans (HB3.out.mono HB2.out.size)⟩
          case pos =>
            obtain ⟨_, _, xa, xc, e, hc, hx⟩ := HLi.out.at' HB3.out h
            cases e
            rw [Nat.zero_add] at hc
            have HDr := Lib.hid (dropL_at SS k (by rw [HSL.out]; exact h))
            generalize SS.getD k [] = X at hc hx HDr
            have HX := Lib.hid hx
            clear hx
            obtain ⟨oa, oc, rfl⟩ := own_slice HO3.out
            have HA1 := Lib.hid ((Below.refl _ wr).alloc (Nat.le_refl _) (.cells #[.slice xa X.length xc] 22))
            have HA := Lib.hid (fun (q c : Nat) (hq : q = k + 1 ∨ k + 1 = m) => anyL_calls (some ⟨gu, q, none⟩) (m - (k + 1)) c (SS.drop (k + 1)) (su.drop (k + 1)) xa xc X wr.heap.size (wr.alloc (.cells #[.slice xa X.length xc] 22)) (lin_cut HLi.out (HB3.out.trans (HA1.out.mono HB3.out.size)) hq) (HX.out.below HA1.out) (by simp) (by simp))
            have HXl : Hid (X.length ≤ 1000000) := Lib.hid (by have hX : X ∈ SS := List.mem_of_mem_drop (i := k) (by rw [HDr.out]; simp); have := right_len (HR.out X (List.mem_filter.1 (HP.out.mem_iff.1 hX)).1); omega)
            have HCl := Lib.hid (fun w1 (k1 : Below wr.heap.size wr w1) => clone_calls xa X.length xc X w1 (HX.out.below k1) HXl.out)
            cases eA : (SS.drop (k + 1)).any (underL X)
            · have HK4 : Hid (keepL SS = (MM ++ [X]) ++ keepL (SS.drop (k + 1))) := Lib.hid (by rw [HK3.out, HDr.out, keepL, eA]; simp)
              rw [eA] at HA
              clear eA HDr HK3 HSL
              by_cases hcn : cu = k + 1
              · have HKM : Hid (k + 1 = m) := Lib.hid (by omega)
                go_wp2_with fail
                refine (HA.out 0 _ (.inr HKM.out)).mono ?_
                rintro e w4 ⟨rfl, k4⟩
                have hcb : w4.cell? ⟨wr.heap.size, 0, none⟩ = some (.slice xa X.length xc) := (k4.cell (p := ⟨wr.heap.size, 0, none⟩) (by simp)).trans (by simp)
                have HW4 := Lib.hid (HA1.out.trans (k4.mono (by simp)))
                clear k4 HA hcn
                go_wp2_with fail
                refine (HCl.out _ HW4.out).mono ?_
                rintro e w5 ⟨o5, rfl, ho5, k5⟩
                obtain ⟨ya, yc, rfl, hy, hyo⟩ := own_sin3 ho5 HX.out.fits
                have HY := Lib.hid hy
                have HYo := Lib.hid hyo
                have HW5 := Lib.hid (HW4.out.trans (k5.mono HW4.out.size))
                have HO5 := Lib.hid (row_below HO3.out HW5.out)
                have HC5 := Lib.hid ((HC3.out.below HW5.out).snoc (c := yc) hy hyo)
                have HB5 := Lib.hid (HB3.out.trans (HW5.out.mono HB3.out.size))
                clear ho5 k5 hy hyo hcb HW4
                go_wp2_with (at_builtin; refine wpList_append_own _ rfl _ _ 36 rfl w2.heap.size 22 i0 _ 1 24 Try.underlying36 HI.out HZ0.out HZ1.out HZ2.out rfl (by decide) _ _ _ rfl (HO5.out.alloc _) ⟨w5.heap.size, 0, none⟩ 1 1 [.slice ya X.length yc] rfl rfl (new_one w5 _ 22) (by simp [Value.oneCell']) (by unfold maxLen; omega) (by omega) (by have := HB5.out.size; simp; omega) ?_; intro v6 w6 ho6 hg6 _)
                have HB6 := Lib.hid ((HB5.out.alloc HB5.out.size (.cells #[.slice ya X.length yc] 22)).grown hg6 (by have := HB5.out.size; simp; omega) (fun k hk => (HO5.out.lt k hk).1))
                have HC6 := Lib.hid ((HC5.out.below ((Below.refl _ w5).alloc (Nat.le_refl _) (.cells #[.slice ya X.length yc] 22))).grown (HO5.out.alloc _) hg6)
                have HO6 : Hid (w6.ownsRow w2.heap.size 22 1 v6 (MM ++ [X]).length (us ++ [.slice ya X.length yc])) := Lib.hid (by rw [List.length_append]; exact ho6)
                clear ho6 hg6
                go_wp2_with fail
                go_roundw
                case rel => exact ⟨k + 1, MM ++ [X], us ++ [.slice ya X.length yc], by omega, by go_num, by simp; omega, HO6, HC6, HK4, HB6⟩
                case measure => simp [intOf]; omega
              · go_wp2_with fail
                refine (HA.out (k + 1) _ (.inl rfl)).mono ?_
                rintro e w4 ⟨rfl, k4⟩
                have hcb : w4.cell? ⟨wr.heap.size, 0, none⟩ = some (.slice xa X.length xc) := (k4.cell (p := ⟨wr.heap.size, 0, none⟩) (by simp)).trans (by simp)
                have HW4 := Lib.hid (HA1.out.trans (k4.mono (by simp)))
                clear k4 HA hcn
                go_wp2_with fail
                refine (HCl.out _ HW4.out).mono ?_
                rintro e w5 ⟨o5, rfl, ho5, k5⟩
                obtain ⟨ya, yc, rfl, hy, hyo⟩ := own_sin3 ho5 HX.out.fits
                have HY := Lib.hid hy
                have HYo := Lib.hid hyo
                have HW5 := Lib.hid (HW4.out.trans (k5.mono HW4.out.size))
                have HO5 := Lib.hid (row_below HO3.out HW5.out)
                have HC5 := Lib.hid ((HC3.out.below HW5.out).snoc (c := yc) hy hyo)
                have HB5 := Lib.hid (HB3.out.trans (HW5.out.mono HB3.out.size))
                clear ho5 k5 hy hyo hcb HW4
                go_wp2_with (at_builtin; refine wpList_append_own _ rfl _ _ 36 rfl w2.heap.size 22 i0 _ 1 24 Try.underlying36 HI.out HZ0.out HZ1.out HZ2.out rfl (by decide) _ _ _ rfl (HO5.out.alloc _) ⟨w5.heap.size, 0, none⟩ 1 1 [.slice ya X.length yc] rfl rfl (new_one w5 _ 22) (by simp [Value.oneCell']) (by unfold maxLen; omega) (by omega) (by have := HB5.out.size; simp; omega) ?_; intro v6 w6 ho6 hg6 _)
                have HB6 := Lib.hid ((HB5.out.alloc HB5.out.size (.cells #[.slice ya X.length yc] 22)).grown hg6 (by have := HB5.out.size; simp; omega) (fun k hk => (HO5.out.lt k hk).1))
                have HC6 := Lib.hid ((HC5.out.below ((Below.refl _ w5).alloc (Nat.le_refl _) (.cells #[.slice ya X.length yc] 22))).grown (HO5.out.alloc _) hg6)
                have HO6 : Hid (w6.ownsRow w2.heap.size 22 1 v6 (MM ++ [X]).length (us ++ [.slice ya X.length yc])) := Lib.hid (by rw [List.length_append]; exact ho6)
                clear ho6 hg6
                go_wp2_with fail
                go_roundw
                case rel => exact ⟨k + 1, MM ++ [X], us ++ [.slice ya X.length yc], by omega, by go_num, by simp; omega, HO6, HC6, HK4, HB6⟩
                case measure => simp [intOf]; omega
            · have HK4 : Hid (keepL SS = MM ++ keepL (SS.drop (k + 1))) := Lib.hid (by rw [HK3.out, HDr.out, keepL, eA]; simp)
              rw [eA] at HA
              clear eA HDr HK3 HSL HCl
              by_cases hcn : cu = k + 1
              · have HKM : Hid (k + 1 = m) := Lib.hid (by omega)
                go_wp2_with fail
                refine (HA.out 0 _ (.inr HKM.out)).mono ?_
                rintro e w4 ⟨rfl, k4⟩
                have HW4 := Lib.hid (HA1.out.trans (k4.mono (by simp)))
                have HO4 := Lib.hid (row_below HO3.out HW4.out)
                have HC4 := Lib.hid (HC3.out.below HW4.out)
                have HB4 := Lib.hid (HB3.out.trans (HW4.out.mono HB3.out.size))
                clear k4 HA hcn
                go_wp2_with fail
                go_roundw
                case rel => exact ⟨k + 1, MM, us, by omega, by go_num, by omega, HO4, HC4, HK4, HB4⟩
                case measure => simp [intOf]; omega
              · go_wp2_with fail
                refine (HA.out (k + 1) _ (.inl rfl)).mono ?_
                rintro e w4 ⟨rfl, k4⟩
                have HW4 := Lib.hid (HA1.out.trans (k4.mono (by simp)))
                have HO4 := Lib.hid (row_below HO3.out HW4.out)
                have HC4 := Lib.hid (HC3.out.below HW4.out)
                have HB4 := Lib.hid (HB3.out.trans (HW4.out.mono HB3.out.size))
                clear k4 HA hcn
                go_wp2_with fail
                go_roundw
                case rel => exact ⟨k + 1, MM, us, by omega, by go_num, by omega, HO4, HC4, HK4, HB4⟩
                case measure => simp [intOf]; omega
end Go.Proofs.Ytjohiehlnbgdaaa
