/- What quote.Cut and quote.Unquote do with any text. -/
import Derived.Test.YtbojhcfofgdoeaaDoorQuoteChar
import Derived.Test.YtbojhcfofgdoeaaDoorQuoteQuote
namespace Go.Proofs.YtbojhcfofgdoeaaDoor
open Go.RowKit

/-- What is told of a text of which something is cut: the text whose quoted form stands at its beginning, or that there is none. -/
def CutTold (l t : List UInt8) (n : Nat) (ok : Bool) : Prop :=
  (ok = true ∧ n = (quoteL t).length ∧ ∃ y, l = quoteL t ++ y) ∨ (ok = false ∧ t = [] ∧ n = 0 ∧ ∀ u y, l ≠ quoteL u ++ y)
def CutPost (l : List UInt8) (B : Nat) (w : World) (e : Ending) (w' : World) : Prop :=
  ∃ t n ok, CutTold l t n ok ∧ e = .returned (.tuple #[.string ⟨t.toArray⟩, .int .i64 (n : Int), .bool ok]) ∧ Below B w w'

theorem quote_split {t y l : List UInt8} : (l = quoteL t ++ y) ↔ l = 34 :: (body t ++ 34 :: y) := by
  unfold quoteL
  simp

theorem body_same : ∀ (t t' y y' : List UInt8), body t ++ 34 :: y = body t' ++ 34 :: y' → t = t'
  | [], [], _, _, _ => rfl
  | [], c :: t', y, y', h => (one_not34 (c := c) (x := body t' ++ 34 :: y') (y := y) (by rw [body_cons, List.append_assoc] at h; exact (by simpa [body] using h.symm))).elim
  | c :: t, [], y, y', h => (one_not34 (c := c) (x := body t ++ 34 :: y) (y := y') (by rw [body_cons, List.append_assoc] at h; exact (by simpa [body] using h))).elim
  | c :: t, c' :: t', y, y', h => by
    rw [body_cons, body_cons, List.append_assoc, List.append_assoc] at h
    obtain ⟨rfl, h2⟩ := one_inj h
    rw [body_same t t' y y' h2]

theorem CutTold.same {l t t' : List UInt8} {n n' : Nat} {ok ok' : Bool} (h : CutTold l t n ok) (k : CutTold l t' n' ok') : t = t' ∧ n = n' ∧ ok = ok' := by
  rcases h with ⟨rfl, rfl, y, hy⟩ | ⟨rfl, rfl, rfl, hn⟩
  · rcases k with ⟨rfl, rfl, y', hy'⟩ | ⟨rfl, rfl, rfl, hn'⟩
    · have e : t = t' := by
        rw [quote_split.1 hy] at hy'
        have := quote_split.1 hy'
        exact body_same t t' y y' (List.cons.inj this).2
      subst e
      exact ⟨rfl, rfl, rfl⟩
    · exact absurd hy (hn' _ _)
  · rcases k with ⟨rfl, rfl, y', hy'⟩ | ⟨rfl, rfl, rfl, _⟩
    · exact absurd hy' (hn _ _)
    · exact ⟨rfl, rfl, rfl⟩

theorem told_yes {l t y : List UInt8} (h : l = 34 :: (body t ++ 34 :: y)) : CutTold l t ((body t).length + 2) true :=
  .inl ⟨rfl, (quote_len t).symm, y, quote_split.2 h⟩
theorem told_no {l t rest : List UInt8} (h : l = 34 :: (body t ++ rest)) (h1 : ∀ z, rest ≠ 34 :: z) (h2 : ∀ c x, rest ≠ one c ++ x) : CutTold l [] 0 false := by
  refine .inr ⟨rfl, rfl, rfl, fun u y hu => ?_⟩
  rw [h] at hu
  have := (List.cons.inj (quote_split.1 hu)).2
  exact stuck t u rest y this h1 h2
theorem told_none {l : List UInt8} (h : l.head? ≠ some 34) : CutTold l [] 0 false :=
  .inr ⟨rfl, rfl, rfl, fun u y hu => h (by rw [hu]; rfl)⟩

theorem prefix34 (l : List UInt8) : Lib.hasPrefix l [34] = (l.head? == some 34) := by
  unfold Lib.hasPrefix
  cases l with
  | nil => rfl
  | cons c r =>
    by_cases h : c = 34
    · subst h; simp
    · have h2 : ([34] : List UInt8).isPrefixOf (c :: r) = false := by
        simp only [List.isPrefixOf, Bool.and_true, beq_eq_false_iff_ne, ne_eq]
        exact fun e => h e.symm
      rw [h2]
      simpa using h

theorem hasPrefix_calls (s : ByteArray) (w : World) :
    Calls Tryd.prog 41 #[.string s, .string ⟨#[34]⟩] w fun e w' => e = .returned (.bool (s.data.toList.head? == some 34)) ∧ w = w' := by
  refine (Tryd.strings_HasPrefix s ⟨#[34]⟩ w).mono ?_
  rintro e w' ⟨rfl, rfl⟩
  refine ⟨?_, rfl⟩
  rw [show (⟨#[34]⟩ : ByteArray).data.toList = [34] from rfl, prefix34]

theorem extract_list (s : ByteArray) (k : Nat) : (s.extract k s.size).data.toList = s.data.toList.drop k := by
  rw [ByteArray.data_extract]
  simp
  exact List.take_of_length_le (by simp)

/-- A byte at the beginning of what is left: cut, or none. -/
theorem cutChar_yes (d : ByteArray) (c : UInt8) (x : List UInt8) (w : World) (hs : d.size ≤ 9223372036854775807) (hE : Esc w) (h : d.data.toList = one c ++ x) :
    Calls Tryd.prog 70 #[.string d] w fun e w' => e = .returned (.tuple #[.int .u8 c.toNat, .int .i64 (one c).length]) ∧ Below w.heap.size w w' := by
  have h0 : 0 < d.size := by
    rw [ba_size, h, List.length_append]
    have := (one_len c).1
    omega
  have := cutChar_calls d w hs h0 hE
  rw [h, cc_one] at this
  exact this
theorem cutChar_no (d : ByteArray) (w : World) (hs : d.size ≤ 9223372036854775807) (hE : Esc w) (h0 : 0 < d.size) (h : ∀ c x, d.data.toList ≠ one c ++ x) :
    Calls Tryd.prog 70 #[.string d] w fun e w' => e = .returned (.tuple #[.int .u8 0, .int .i64 0]) ∧ Below w.heap.size w w' := by
  have := cutChar_calls d w hs h0 hE
  rw [cc_no _ h] at this
  exact this

set_option maxHeartbeats 1000000 in
theorem cut_calls (s : ByteArray) (w : World) (hs : s.size ≤ 4294967296) (hE : Esc w) :
    Calls Tryd.prog 46 #[.string s] w (CutPost s.data.toList w.heap.size w) := by
  obtain ⟨l, hl⟩ : ∃ l, l = s.data.toList := ⟨_, rfl⟩
  have hlen : s.size = l.length := by rw [hl, ba_size]
  have h1 := hasPrefix_calls s w
  rw [← hl] at h1 ⊢
  have HL := Lib.hid hl
  have HN := Lib.hid hlen
  clear hl hlen
  by_cases hh : l.head? = some 34
  case neg =>
    rw [show (l.head? == some 34) = false by simpa using hh] at h1
    have HT := Lib.hid (told_none hh)
    have H1 := Lib.hid h1
    clear h1 hh hE
    go_enter Tryd.func46, Tryd.ntmps46
    go_wp2_with fail
    refine H1.out.mono ?_
    rintro e w' ⟨rfl, rfl⟩
    go_wp2_with fail
    go_ret3
    exact ⟨[], 0, false, HT.out, rfl, Below.refl _ _⟩
  case pos =>
    rw [show (l.head? == some 34) = true by simpa using hh] at h1
    obtain ⟨rest0, hr0⟩ : ∃ r, l = 34 :: r := by
      cases l with
      | nil => simp at hh
      | cons c r => simp at hh; subst hh; exact ⟨r, rfl⟩
    have HR := Lib.hid hr0
    have H1 := Lib.hid h1
    have hg := var_lt gEsc hE
    have h1s : 1 ≤ s.size := by rw [HN.out, hr0]; simp
    obtain ⟨B, hB⟩ : ∃ B, B = w.heap.size := ⟨_, rfl⟩
    have ha : Below B w (w.alloc (.cells #[.pointer none, .slice none 0 0] 79)) := by rw [hB]; exact (Below.refl _ w).alloc (Nat.le_refl _) _
    have hq : (w.alloc (.cells #[.pointer none, .slice none 0 0] 79)).heap[B]? = some (.cells #[.pointer none, .slice none 0 0] 79 (0, 0)) := by
      rw [hB]; show (w.heap.push _)[w.heap.size]? = _
      simp
    have hm := MayB.fresh (Nat.le_refl B) hq
    have hBw : B ≤ w.heap.size := by omega
    have H2 := Lib.hid (fun (m : List UInt8) (d : UInt8) w1 (k : MayB B B m w1) (j : m.length ≤ 281474976710) (k2 : Below B w w1) => writeByte_calls B B m d w1 k (by omega) (Nat.le_trans hBw k2.size))
    have H4 := Lib.hid (fun (m : List UInt8) w1 (k : MayB B B m w1) (k2 : Below B w w1) => string_calls B B m w1 k (Nat.le_trans hBw k2.size))
    have HE := Lib.hid (fun w1 (k2 : Below B w w1) => esc_below hE (show 2 < B by omega) k2)
    have HB := Lib.hid hB
    have HA := Lib.hid ha
    have HM := Lib.hid hm
    clear h1 hh hr0 hq hE hg hBw hm ha
    rw [← hB]
    go_enter Tryd.func46, Tryd.ntmps46
    go_wp2_with fail
    refine H1.out.mono ?_
    rintro e w' ⟨rfl, rfl⟩
    go_wp2_with fail
    rw [← hB]
    clear hB
    go_loopw [6] (fun i wr => ∃ (k : Nat) (t rest : List UInt8), k ≤ s.size ∧ i = .int .i64 k ∧ Hid (l = 34 :: (body t ++ rest)) ∧ Hid (k = 1 + (body t).length) ∧ MayB B B t wr ∧ Below B w wr) (fun i _ => s.size - (intOf i).toNat)
    case atStart => exact ⟨1, [], rest0, h1s, rfl, Lib.hid (by rw [HR.out]; rfl), Lib.hid rfl, HM.out, HA.out⟩
    case round =>
      clear HM HA
      obtain ⟨k, t, rest, hk, rfl, HT, HK, k1, k2⟩ := hrel
      have htl : t.length ≤ 4294967296 := by
        have h1 := (body_len t).1
        have h2 := HK.out
        omega
      have hdrop : s.data.toList.drop k = rest := by
        rw [← HL.out, HT.out, HK.out, Nat.add_comm]
        simp
      by_cases hlt : k < s.size
      case neg =>
        have hr : rest = [] := by
          rw [← hdrop, List.drop_eq_nil_iff, ← ba_size]; omega
        have HX := Lib.hid (told_no HT.out (by rw [hr]; simp) (by rw [hr]; intro c x e; have := (one_len c).1; have h3 := congrArg List.length e; simp at h3; omega))
        clear hdrop hr
        go_wp2_with fail
        go_ret3
        exact ⟨[], 0, false, HX.out, rfl, k2⟩
      case pos =>
        have hrl : rest = s[k] :: s.data.toList.drop (k + 1) := by
          rw [← hdrop, List.drop_eq_getElem_cons (by rw [← ba_size]; exact hlt)]; rfl
        by_cases h34 : s[k] = 34
        · have HX := Lib.hid (told_yes (l := l) (t := t) (y := s.data.toList.drop (k + 1)) (by rw [HT.out, hrl, h34]))
          have t1 : ((s[k].toNat : Int) == 34) = true := by rw [h34]; rfl
          have HKn : Hid (((body t).length + 2 : Nat) = k + 1) := Lib.hid (by rw [HK.out]; omega)
          clear hdrop hrl h34
          go_wp2_with fail
          refine (H4.out _ _ k1 k2).mono ?_
          rintro e w1 ⟨rfl, k3⟩
          have k4 := k2.trans k3
          clear k1 k2 k3
          go_wp2_with fail
          go_ret3
          have h5 := HX.out
          rw [HKn.out] at h5
          exact ⟨t, k + 1, true, h5, by go_num, k4⟩
        · have t1 : ((s[k].toNat : Int) == 34) = false := by rw [show ((s[k].toNat : Int) == 34) = (s[k] == 34) from byte_beq s[k] 34 (by omega)]; simpa using h34
          have hex : (s.extract k s.size).data.toList = rest := by rw [extract_list, hdrop]
          have hexs : (s.extract k s.size).size ≤ 9223372036854775807 := by
            rw [ba_size, hex, ← hdrop, List.length_drop, ← ba_size]; omega
          by_cases hc : ∃ c x, rest = one c ++ x
          · obtain ⟨c, x, hcx⟩ := hc
            have H5 := Lib.hid (fun w1 (k2 : Below B w w1) => cutChar_yes (s.extract k s.size) c x w1 hexs (HE.out w1 k2) (hex.trans hcx))
            obtain ⟨n, hn⟩ : ∃ n, n = (one c).length := ⟨_, rfl⟩
            rw [← hn] at H5
            have hn1 : 1 ≤ n ∧ n ≤ 4 := by rw [hn]; exact one_len c
            obtain ⟨hn1, hn4⟩ := hn1
            have HNN := Lib.hid hn
            have HT2 : Hid (l = 34 :: (body (t ++ [c]) ++ x)) := Lib.hid (by rw [HT.out, hcx, body_snoc, List.append_assoc])
            have hkn : k + n ≤ s.size := by
              rw [HN.out, HT2.out, HK.out, hn, body_snoc]
              simp only [List.length_cons, List.length_append]
              omega
            have t2 : ((n : Int) == 0) = false := by rw [beq_eq_false_iff_ne]; omega
            have HK2 : Hid (k + n = 1 + (body (t ++ [c])).length) := Lib.hid (by rw [HK.out, hn, body_snoc, List.length_append]; omega)
            clear hdrop hrl h34 hex hexs hcx hn
            go_wp2_with fail
            refine (H5.out _ k2).mono ?_
            rintro e w1 ⟨rfl, k3⟩
            have k4 : Below B w w1 := k2.trans (k3.mono (by have := HB.out; have := k2.size; omega))
            have k5 := k1.below k3
            clear k1 k2 k3
            go_wp2_with fail
            refine (H2.out _ _ _ k5 (by omega) k4).mono ?_
            rintro e w2 ⟨rfl, k6, k7⟩
            have k8 := k4.trans k7
            clear k4 k5 k7
            go_wp2_with fail
            go_roundw
            case rel => exact ⟨k + n, t ++ [c], x, hkn, by go_num, HT2, HK2, k6.may, k8⟩
            case measure => simp [intOf]; omega
          · have hno : ∀ c x, rest ≠ one c ++ x := fun c x e => hc ⟨c, x, e⟩
            have HX := Lib.hid (told_no HT.out (by rw [hrl]; intro z e; exact h34 (List.cons.inj e).1) hno)
            have h0 : 0 < (s.extract k s.size).size := by rw [ba_size, hex, hrl]; simp
            have H5 := Lib.hid (fun w1 (k2 : Below B w w1) => cutChar_no (s.extract k s.size) w1 hexs (HE.out w1 k2) h0 (by rw [hex]; exact hno))
            clear hdrop hrl h34 hex hexs hc hno h0
            go_wp2_with fail
            refine (H5.out _ k2).mono ?_
            rintro e w1 ⟨rfl, k3⟩
            have k4 : Below B w w1 := k2.trans (k3.mono (by have := HB.out; have := k2.size; omega))
            clear k1 k2 k3
            go_wp2_with fail
            go_ret3
            exact ⟨[], 0, false, HX.out, rfl, k4⟩

end Go.Proofs.YtbojhcfofgdoeaaDoor
