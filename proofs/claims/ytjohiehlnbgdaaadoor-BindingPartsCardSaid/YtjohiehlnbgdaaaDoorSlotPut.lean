/- What the reference's Put does with a list of bindings. -/
import Derived.Test.YtjohiehlnbgdaaaDoorSlotList
import Derived.Test.YtjohiehlnbgdaaaDoorSlotRefLess
import Derived.Deep.Cut
namespace Go.Proofs.YtjohiehlnbgdaaaDoor
open Go.RowKit
set_option linter.unusedVariables false

/-- Where a binding is put. -/
def atL (B : List Sd) (LL : List (List Sd)) : Nat → Nat
  | 0 => 0
  | n + 1 => if refLessL B (LL.getD n []) then atL B LL n else n + 1
theorem atL_le (B : List Sd) (LL : List (List Sd)) : ∀ n, atL B LL n ≤ n
  | 0 => Nat.le_refl _
  | n + 1 => by
    rw [atL]
    split
    · have := atL_le B LL n; omega
    · omega
def putL (LL : List (List Sd)) (B : List Sd) : List (List Sd) := if B ∈ LL then LL else LL.take (atL B LL LL.length) ++ [B] ++ LL.drop (atL B LL LL.length)

/-- What is told of a list of bindings as an answer. -/
def ListPost (MM : List (List Sd)) (w : World) (e : Ending) (w' : World) : Prop :=
  ∃ a cap vs, e = .returned (.slice a MM.length cap) ∧ MM.length ≤ cap ∧ cap ≤ maxLen ∧ LIn w' a MM.length MM vs ∧ Below w.heap.size w w'
theorem own_lin2 {B : Nat} {o : Value} {LL : List (List Sd)} {vs : List Value} {w : World} (h : w.ownsRow B 22 1 o LL.length vs) (hv : Vs w vs LL) : ∃ a cap, o = .slice a LL.length cap ∧ LL.length ≤ cap ∧ cap ≤ maxLen ∧ LIn w a LL.length LL vs := by
  obtain ⟨a, cap, rfl, hl⟩ := own_lin h hv
  refine ⟨a, cap, rfl, ?_, ?_, hl⟩
  · rcases h.2 with ⟨e, h0⟩ | ⟨g, cap', cur, e, h1, hg, hcap, _⟩
    · omega
    · simp only [Value.slice.injEq] at e
      rw [e.2.2]; exact hcap
  · rcases h.2 with ⟨e, h0⟩ | ⟨g, cap', cur, e, h1, hg, hcap, hm, _⟩
    · simp only [Value.slice.injEq] at e
      rw [e.2.2]; exact Nat.zero_le _
    · simp only [Value.slice.injEq] at e
      rw [e.2.2]; exact hm
theorem new_one (w : World) (v : Value) (t : TypeId) : ∀ j u, [v][j]? = some u → (w.alloc (.cells #[v] t)).cell? ((⟨w.heap.size, 0, none⟩ : Addr).add j) = some u := by
  intro j u hj
  rw [show (⟨w.heap.size, 0, none⟩ : Addr).add j = ⟨w.heap.size, j, none⟩ by unfold Addr.add; split <;> simp_all, World.cell?_alloc_at (hn := rfl)]
  simpa using hj
theorem sl_cells {w w' : World} {g off len : Nat} {LL : List (List Sd)} {vs : List Value} (h : LIn w (some ⟨g, off, none⟩) len LL vs) (hb : Below w.heap.size w w') (m : Nat) : ∀ j u, (vs.drop m)[j]? = some u → w'.cell? ((⟨g, off + m, none⟩ : Addr).add j) = some u := by
  intro j u hj
  rw [List.getElem?_drop] at hj
  have hl : 0 < len := by
    have := (List.getElem?_eq_some_iff.1 hj).1
    rw [h.vals.leng, h.leng] at this
    omega
  obtain ⟨g', off', e, _, hr⟩ := (h.below hb).row hl
  cases e
  rw [show (⟨g, off + m, none⟩ : Addr).add j = ⟨g, off + (m + j), none⟩ by unfold Addr.add; split <;> simp_all [Nat.add_assoc]]
  exact hr _ _ hj
theorem sl_cells0 {w w' : World} {g off len : Nat} {LL : List (List Sd)} {vs : List Value} (h : LIn w (some ⟨g, off, none⟩) len LL vs) (hb : Below w.heap.size w w') (m : Nat) : ∀ j u, (vs.take m)[j]? = some u → w'.cell? ((⟨g, off, none⟩ : Addr).add j) = some u := by
  intro j u hj
  have hj' : vs[j]? = some u := by
    rw [List.getElem?_take] at hj
    split at hj
    · exact hj
    · cases hj
  have := sl_cells h hb 0 j u (by rw [List.drop_zero]; exact hj')
  rwa [Nat.add_zero] at this

/-- A list of bindings, and what it holds, lies at other places than one block. -/
def NotAt (r : Option Nat) (a : Option Addr) (len : Nat) (vs : List Value) : Prop :=
  (0 < len → ∀ g off, a = some ⟨g, off, none⟩ → some g ≠ r) ∧ ∀ u ∈ vs, ∀ g off l c, u = .slice (some ⟨g, off, none⟩) l c → 0 < l → some g ≠ r
theorem NotAt.of_none (a : Option Addr) (len : Nat) (vs : List Value) : NotAt none a len vs := ⟨fun _ _ _ _ h => (by cases h), fun _ _ _ _ _ _ _ _ h => (by cases h)⟩
/-- ListPost, and that the answer lies where nothing lay that the list and the binding had nothing of. -/
def ListPostK (MM : List (List Sd)) (w : World) (a : Option Addr) (len : Nat) (vs : List Value) (b : Option Addr) (lb : Nat) (e : Ending) (w' : World) : Prop :=
  ∃ a' cap' vs', e = .returned (.slice a' MM.length cap') ∧ MM.length ≤ cap' ∧ cap' ≤ maxLen ∧ LIn w' a' MM.length MM vs' ∧ Below w.heap.size w w' ∧
    ∀ r, r < w.heap.size → NotAt (some r) a len vs → (0 < lb → ∀ g off, b = some ⟨g, off, none⟩ → some g ≠ some r) → NotAt (some r) a' MM.length vs'
theorem ListPostK.plain {MM : List (List Sd)} {w w' : World} {a b : Option Addr} {len lb : Nat} {vs : List Value} {e : Ending} (h : ListPostK MM w a len vs b lb e w') : ListPost MM w e w' := by
  obtain ⟨a', cap', vs', h1, h2, h3, h4, h5, _⟩ := h
  exact ⟨a', cap', vs', h1, h2, h3, h4, h5⟩
theorem NotAt.made {w' : World} {B r : Nat} {a b oa : Option Addr} {len M oc lb cb : Nat} {vs us : List Value} (ho : w'.ownsRow B 22 1 (.slice oa M oc) M us) (hr : r < B) (hm : ∀ u ∈ us, u ∈ vs ∨ u = .slice b lb cb)
    (hn : NotAt (some r) a len vs) (hb : 0 < lb → ∀ g off, b = some ⟨g, off, none⟩ → some g ≠ some r) : NotAt (some r) oa M us := by
  refine ⟨fun h0 g off e h => ?_, fun u hu g off l c e h0 => ?_⟩
  · subst e
    cases h
    have := (ho.lt r rfl).1
    omega
  · rcases hm u hu with k | k
    · exact hn.2 u k g off l c e h0
    · subst k
      cases e
      exact hb h0 g off rfl
theorem mem_three {x u : Value} {A B vs : List Value} (hA : ∀ u ∈ A, u ∈ vs) (hB : ∀ u ∈ B, u ∈ vs) (h : u ∈ (A ++ [x]) ++ B) : u ∈ vs ∨ u = x := by
  rcases List.mem_append.1 h with h | h
  · rcases List.mem_append.1 h with h | h
    · exact .inl (hA u h)
    · exact .inr (List.mem_singleton.1 h)
  · exact .inl (hB u h)

set_option maxHeartbeats 4000000 in
set_option maxRecDepth 100000 in
theorem refPut_callsK (a : Option Addr) (len cap : Nat) (LL : List (List Sd)) (vs : List Value) (b : Option Addr) (cb : Nat) (B : List Sd) (w : World) (hl : LIn w a len LL vs) (hb : SIn w b B.length B) (hr : ∀ z ∈ B, rV z.v = true) (hcap : len ≤ cap) (hcm : cap ≤ maxLen) (hsml : len ≤ 1000) (hnil : len = 0 → a = none ∧ cap = 0) :
    Calls Tryd.prog 18 #[.slice a len cap, .slice b B.length cb] w (ListPostK (putL LL B) w a len vs b B.length) := by
  have H := Lib.hid hl
  have HL := Lib.hid hl.leng
  have HSB := Lib.hid hb
  have HVL : Hid (vs.length = len) := Lib.hid (by rw [hl.vals.leng, hl.leng])
  have HV1 := Lib.hid hl.vals.one'
  have HH := Lib.hid (refHas_calls a len cap LL vs b B.length cb B w hl hb)
  have HC := Lib.hid (fun (x : Option Addr) (lx cx : Nat) (X : List Sd) w1 (hx : SIn w1 x lx X) (k : Below w.heap.size w w1) => refLess_calls b x B.length cb lx cx B X w1 (hb.below k) hx hr)
  obtain ⟨i0, hi, hz0, hz1, hz2⟩ := info_parts infoL
  have HI := Lib.hid hi
  have HZ0 := Lib.hid hz0
  have HZ1 := Lib.hid hz1
  have HZ2 := Lib.hid hz2
  clear hl hb hr hi hz0 hz1 hz2
  by_cases hmem : B ∈ LL
  · have HE : Hid (putL LL B = LL) := Lib.hid (by rw [putL, if_pos hmem])
    rw [decide_eq_true hmem] at HH
    clear hmem
    go_enter Tryd.func18, Tryd.ntmps18
    go_wp2_with fail
    refine HH.out.mono ?_
    rintro e w1 ⟨rfl, k1⟩
    have HB1 := Lib.hid k1
    clear k1
    go_wp2_with fail
    go_ret
    refine ⟨a, cap, vs, ?_, ?_, hcm, ?_, HB1.out, ?_⟩
    · rw [HE.out, HL.out]; rfl
    · rw [HE.out, HL.out]; exact hcap
    · rw [HE.out, HL.out]; exact H.out.below HB1.out
    · rw [HE.out, HL.out]; exact fun r _ h _ => h
  have HE : Hid (putL LL B = LL.take (atL B LL len) ++ [B] ++ LL.drop (atL B LL len)) := Lib.hid (by rw [putL, if_neg hmem, HL.out])
  rw [decide_eq_false hmem] at HH
  clear hmem
  go_enter Tryd.func18, Tryd.ntmps18
  go_wp2_with fail
  refine HH.out.mono ?_
  rintro e w1 ⟨rfl, k1⟩
  have HB1 := Lib.hid k1
  clear k1
  go_wp2_with fail
  go_loopw [5] (fun i wr => ∃ (n : Nat), n ≤ len ∧ i = .int .i64 n ∧ Hid (atL B LL len = atL B LL n) ∧ Hid (Below w.heap.size w wr)) (fun i _ => (intOf i).toNat)
  case atStart => exact ⟨len, Nat.le_refl _, rfl, Lib.hid rfl, HB1⟩
  case round =>
    obtain ⟨n, hn, rfl, HX, HB⟩ := hrel
    rcases Nat.eq_zero_or_pos n with hn0 | hn0
    case inl =>
      subst hn0
      have HAt : Hid (atL B LL len = 0) := Lib.hid HX.out
      have t1 : decide ((0 : Int) < ((0 : Nat) : Int)) = false := by simp
      by_cases hl0 : 0 < len
      · obtain ⟨g, off, rfl, hg, _⟩ := H.out.row hl0
        have hc0 : ¬ cap = 0 := by omega
        go_upto_region 7 with (at_builtin; refine wpList_append_own _ rfl _ _ 31 rfl w.heap.size 22 i0 _ 1 24 Tryd.underlying31 HI.out HZ0.out HZ1.out HZ2.out rfl (by decide) _ _ _ rfl (World.ownsRow_made wr #[] 0 HB.out.size (Nat.zero_le _) (by simp)) ⟨g, off, none⟩ 0 cap [] rfl rfl (fun j u hj => by simp at hj) (fun u hu => by simp at hu) (by unfold maxLen; omega) (by omega) (by have := HB.out.size; simp; omega) ?_; intro v3 w3 ho3 hg3 _)
        have HB3 := Lib.hid ((HB.out.alloc HB.out.size (.cells #[] 22)).grown hg3 (by have := HB.out.size; simp; omega) (fun k hk => by have h9 : some wr.heap.size = some k := hk; have := Option.some.inj h9; have := HB.out.size; omega))
        rw [Nat.zero_add, List.nil_append] at ho3
        obtain ⟨oa3, oc3, rfl⟩ := own_slice ho3
        have HO3 := Lib.hid ho3
        clear ho3 hg3
        go_upto_region 8 with (at_builtin; refine wpList_append_own _ rfl _ _ 31 rfl w.heap.size 22 i0 _ 1 24 Tryd.underlying31 HI.out HZ0.out HZ1.out HZ2.out rfl (by decide) _ _ _ rfl (HO3.out.alloc _) ⟨w3.heap.size, 0, none⟩ 1 1 [.slice b B.length cb] rfl rfl (new_one w3 _ 22) (by simp [Value.oneCell']) (by unfold maxLen; omega) (by omega) (by have := HB3.out.size; simp; omega) ?_; intro v4 w4 ho4 hg4 _)
        have HB4 := Lib.hid ((HB3.out.alloc HB3.out.size (.cells #[.slice b B.length cb] 22)).grown hg4 (by have := HB3.out.size; simp; omega) (fun k hk => (HO3.out.lt k hk).1))
        obtain ⟨oa4, oc4, rfl⟩ := own_slice ho4
        have HO4 := Lib.hid ho4
        clear ho4 hg4
        have HCl := Lib.hid (sl_cells H.out HB4.out 0)
        rw [List.drop_zero, Nat.add_zero] at HCl
        go_wp2_with (at_builtin; refine wpList_append_own _ rfl _ _ 31 rfl w.heap.size 22 i0 _ 1 24 Tryd.underlying31 HI.out HZ0.out HZ1.out HZ2.out rfl (by decide) _ _ _ rfl (HO4.out) ⟨g, off, none⟩ len cap vs rfl (by rw [HVL.out, Nat.mul_one]) HCl.out HV1.out (by unfold maxLen; omega) (by omega) HB4.out.size ?_; intro v5 w5 ho5 hg5 _)
        have HB5 := Lib.hid (HB4.out.grown hg5 HB4.out.size (fun k hk => (HO4.out.lt k hk).1))
        have HW5 : Hid (Vs w5 ([] ++ [.slice b B.length cb] ++ vs) (putL LL B)) := Lib.hid (by rw [HE.out, HAt.out, List.take_zero, List.drop_zero]; exact Vs.append (Vs.append (Vs.nil _) (Vs.one (HSB.out.below HB5.out))) (H.out.vals.below HB5.out))
        have HPL : Hid ((putL LL B).length = 0 + 1 + len) := Lib.hid (by rw [HE.out, HAt.out]; simp [HL.out]; omega)
        rw [← HPL.out] at ho5
        obtain ⟨oa5, oc5, rfl, hc5, hm5, hl5⟩ := own_lin2 ho5 HW5.out
        have HNA := Lib.hid (fun r (hr : r < w.heap.size) (hn : NotAt (some r) (some ⟨g, off, none⟩) len vs) (hb : 0 < B.length → ∀ g off, b = some ⟨g, off, none⟩ → some g ≠ some r) => NotAt.made (cb := cb) ho5 hr (fun u hu => mem_three (fun u h => by simp at h) (fun u h => h) hu) hn hb)
        have HL5 := Lib.hid hl5
        clear ho5 hg5 hl5
        go_wp2_with fail
        go_ret
        exact ⟨oa5, oc5, _, rfl, hc5, hm5, HL5.out, HB5.out, HNA.out⟩
      · obtain ⟨rfl, rfl⟩ := hnil (by omega)
        obtain rfl : len = 0 := by omega
        have HLn : Hid (LL = []) := Lib.hid (List.length_eq_zero_iff.1 HL.out)
        go_upto_region 7 with fail
        have HB3 := Lib.hid (HB.out.alloc HB.out.size (.cells #[] 22))
        have HO3 := Lib.hid (World.ownsRow_made (base := w.heap.size) (e := 22) (size := 1) wr #[] 0 HB.out.size (Nat.zero_le _) (by simp))
        obtain ⟨w3, hw3⟩ : ∃ w3, wr.alloc (.cells #[] 22) = w3 := ⟨_, rfl⟩
        rw [hw3] at HB3 HO3 ⊢
        clear hw3
        go_upto_region 8 with (at_builtin; refine wpList_append_own _ rfl _ _ 31 rfl w.heap.size 22 i0 _ 1 24 Tryd.underlying31 HI.out HZ0.out HZ1.out HZ2.out rfl (by decide) _ _ _ rfl (HO3.out.alloc _) ⟨w3.heap.size, 0, none⟩ 1 1 [.slice b B.length cb] rfl rfl (new_one w3 _ 22) (by simp [Value.oneCell']) (by unfold maxLen; omega) (by omega) (by have := HB3.out.size; simp; omega) ?_; intro v4 w4 ho4 hg4 _)
        have HB4 := Lib.hid ((HB3.out.alloc HB3.out.size (.cells #[.slice b B.length cb] 22)).grown hg4 (by have := HB3.out.size; simp; omega) (fun k hk => (HO3.out.lt k hk).1))
        have HW4 : Hid (Vs w4 ([] ++ [.slice b B.length cb]) (putL LL B)) := Lib.hid (by rw [HE.out, HAt.out, HLn.out]; exact Vs.one (HSB.out.below HB4.out))
        have HPL : Hid ((putL LL B).length = 0 + 1) := Lib.hid (by rw [HE.out, HAt.out, HLn.out]; rfl)
        rw [← HPL.out] at ho4
        obtain ⟨oa4, oc4, rfl, hc4, hm4, hl4⟩ := own_lin2 ho4 HW4.out
        have HNA := Lib.hid (fun r (hr : r < w.heap.size) (hn : NotAt (some r) none 0 vs) (hb : 0 < B.length → ∀ g off, b = some ⟨g, off, none⟩ → some g ≠ some r) => NotAt.made (cb := cb) ho4 hr (fun u hu => mem_three (vs := vs) (A := []) (B := []) (fun u h => by simp at h) (fun u h => by simp at h) (by rw [List.append_nil]; exact hu)) hn hb)
        rw [HPL.out] at hc4 hl4
        have HL4 := Lib.hid hl4
        clear ho4 hg4 hl4
        rw [HPL.out]
        obtain ⟨g4, o4, rfl, _⟩ := HL4.out.row (by omega)
        go_wp2_with fail
        go_ret
        exact ⟨_, oc4, _, by rw [HPL.out]; rfl, by rw [HPL.out]; exact hc4, hm4, by rw [HPL.out]; exact HL4.out, HB4.out, HNA.out⟩
    case inr =>
      obtain ⟨m, hm⟩ : ∃ m, n = m + 1 := ⟨n - 1, by omega⟩
      have hmn : m < n := by omega
      have hws : IntKind.i64.wrap ((n : Int) - 1) = (m : Int) := by rw [hm, IntKind.wrap_i64]; push_cast; omega
      have t1 : decide ((0 : Int) < (n : Int)) = true := decide_eq_true (by omega)
      have hml : m < len := by omega
      have hmm : m ≤ len := by omega
      obtain ⟨g, off, xa, xc, rfl, hc, hx⟩ := H.out.at' HB.out hml
      have HS : Hid (atL B LL len = if refLessL B (LL.getD m []) then atL B LL m else n) := Lib.hid (by rw [HX.out, hm, atL])
      generalize LL.getD m [] = X at hc hx HS
      have H1 := Lib.hid (HC.out xa X.length xc X _ hx HB.out)
      clear hx hm
      cases hle : refLessL B X
      · have HAt : Hid (atL B LL len = n) := Lib.hid (by rw [HS.out, hle]; rfl)
        rw [hle] at H1
        clear hle
        go_wp2_with fail
        refine H1.out.mono ?_
        rintro e w2 ⟨rfl, k2⟩
        have HB2 := Lib.hid (HB.out.trans (k2.mono HB.out.size))
        clear k2 H1 hc
        go_upto_region 7 with (at_builtin; refine wpList_append_own _ rfl _ _ 31 rfl w.heap.size 22 i0 _ 1 24 Tryd.underlying31 HI.out HZ0.out HZ1.out HZ2.out rfl (by decide) _ _ _ rfl (World.ownsRow_made w2 #[] 0 HB2.out.size (Nat.zero_le _) (by simp)) ⟨g, off, none⟩ n cap (vs.take n) rfl (by rw [List.length_take, HVL.out]; omega) (sl_cells0 H.out (HB2.out.alloc HB2.out.size _) n) (fun u hu => HV1.out u (List.mem_of_mem_take hu)) (by unfold maxLen; omega) (by omega) (by have := HB2.out.size; simp; omega) ?_; intro v3 w3 ho3 hg3 _)
        have k3 := (HB2.out.alloc HB2.out.size (.cells #[] 22)).grown hg3 (by have := HB2.out.size; simp; omega) (fun k hk => by have h9 : some w2.heap.size = some k := hk; have := Option.some.inj h9; have := HB2.out.size; omega)
        have HB3 := Lib.hid k3
        rw [Nat.zero_add, List.nil_append] at ho3
        obtain ⟨oa3, oc3, rfl⟩ := own_slice ho3
        have HO3 := Lib.hid ho3
        clear ho3 hg3 k3
        go_upto_region 8 with (at_builtin; refine wpList_append_own _ rfl _ _ 31 rfl w.heap.size 22 i0 _ 1 24 Tryd.underlying31 HI.out HZ0.out HZ1.out HZ2.out rfl (by decide) _ _ _ rfl (HO3.out.alloc _) ⟨w3.heap.size, 0, none⟩ 1 1 [.slice b B.length cb] rfl rfl (new_one w3 _ 22) (by simp [Value.oneCell']) (by unfold maxLen; omega) (by omega) (by have := HB3.out.size; simp; omega) ?_; intro v4 w4 ho4 hg4 _)
        have k4 := (HB3.out.alloc HB3.out.size (.cells #[.slice b B.length cb] 22)).grown hg4 (by have := HB3.out.size; simp; omega) (fun k hk => (HO3.out.lt k hk).1)
        have HB4 := Lib.hid k4
        obtain ⟨oa4, oc4, rfl⟩ := own_slice ho4
        have HO4 := Lib.hid ho4
        clear ho4 hg4 k4
        by_cases hcn : cap = n
        · have hln : len = n := by omega
          have h0 : len - n = 0 := by omega
          have hd : vs.drop n = [] := List.drop_eq_nil_iff.2 (by rw [HVL.out]; omega)
          go_wp2_with (at_builtin; refine wpList_append_own _ rfl _ _ 31 rfl w.heap.size 22 i0 _ 1 24 Tryd.underlying31 HI.out HZ0.out HZ1.out HZ2.out rfl (by decide) _ _ _ rfl HO4.out _ 0 0 [] rfl rfl (fun j u hj => by simp at hj) (fun u hu => by simp at hu) (by unfold maxLen; omega) (by omega) HB4.out.size ?_; intro v5 w5 ho5 hg5 _)
          have k5 := HB4.out.grown hg5 HB4.out.size (fun k hk => (HO4.out.lt k hk).1)
          have HB5 := Lib.hid k5
          replace ho5 : w5.ownsRow w.heap.size 22 1 v5 (n + 1 + (len - n)) ((vs.take n ++ [.slice b B.length cb]) ++ vs.drop n) := by rw [hd, h0]; exact ho5
          have HW5 : Hid (Vs w5 ((vs.take n ++ [.slice b B.length cb]) ++ vs.drop n) (putL LL B)) := Lib.hid (by rw [HE.out, HAt.out]; exact Vs.append (Vs.append ((H.out.vals.below HB5.out).take n) (Vs.one (HSB.out.below HB5.out))) ((H.out.vals.below HB5.out).drop n))
          have HPL : Hid ((putL LL B).length = n + 1 + (len - n)) := Lib.hid (by rw [HE.out, HAt.out]; simp [HL.out]; omega)
          rw [← HPL.out] at ho5
          obtain ⟨oa5, oc5, rfl, hc5, hm5, hl5⟩ := own_lin2 ho5 HW5.out
          have HNA := Lib.hid (fun r (hr : r < w.heap.size) (hn : NotAt (some r) (some ⟨g, off, none⟩) len vs) (hb : 0 < B.length → ∀ g off, b = some ⟨g, off, none⟩ → some g ≠ some r) => NotAt.made (cb := cb) ho5 hr (fun u hu => mem_three (fun u h => List.mem_of_mem_take h) (fun u h => List.mem_of_mem_drop h) hu) hn hb)
          have HL5 := Lib.hid hl5
          clear ho5 hg5 k5 hl5
          go_wp2_with fail
          go_ret
          exact ⟨oa5, oc5, _, rfl, hc5, hm5, HL5.out, HB5.out, by have h9 := HNA.out; rw [hln] at h9; exact h9⟩
        · have hs3 : ¬ cap = n := hcn
          go_wp2_with (at_builtin; refine wpList_append_own _ rfl _ _ 31 rfl w.heap.size 22 i0 _ 1 24 Tryd.underlying31 HI.out HZ0.out HZ1.out HZ2.out rfl (by decide) _ _ _ rfl HO4.out ⟨g, off + n, none⟩ (len - n) (cap - n) (vs.drop n) rfl (by rw [List.length_drop, HVL.out]; omega) (sl_cells H.out HB4.out n) (fun u hu => HV1.out u (List.mem_of_mem_drop hu)) (by unfold maxLen; omega) (by omega) HB4.out.size ?_; intro v5 w5 ho5 hg5 _)
          have k5 := HB4.out.grown hg5 HB4.out.size (fun k hk => (HO4.out.lt k hk).1)
          have HB5 := Lib.hid k5
          have HW5 : Hid (Vs w5 ((vs.take n ++ [.slice b B.length cb]) ++ vs.drop n) (putL LL B)) := Lib.hid (by rw [HE.out, HAt.out]; exact Vs.append (Vs.append ((H.out.vals.below HB5.out).take n) (Vs.one (HSB.out.below HB5.out))) ((H.out.vals.below HB5.out).drop n))
          have HPL : Hid ((putL LL B).length = n + 1 + (len - n)) := Lib.hid (by rw [HE.out, HAt.out]; simp [HL.out]; omega)
          rw [← HPL.out] at ho5
          obtain ⟨oa5, oc5, rfl, hc5, hm5, hl5⟩ := own_lin2 ho5 HW5.out
          have HNA := Lib.hid (fun r (hr : r < w.heap.size) (hn : NotAt (some r) (some ⟨g, off, none⟩) len vs) (hb : 0 < B.length → ∀ g off, b = some ⟨g, off, none⟩ → some g ≠ some r) => NotAt.made (cb := cb) ho5 hr (fun u hu => mem_three (fun u h => List.mem_of_mem_take h) (fun u h => List.mem_of_mem_drop h) hu) hn hb)
          have HL5 := Lib.hid hl5
          clear ho5 hg5 k5 hl5
          go_wp2_with fail
          go_ret
          exact ⟨oa5, oc5, _, rfl, hc5, hm5, HL5.out, HB5.out, HNA.out⟩
      · have HX2 : Hid (atL B LL len = atL B LL m) := Lib.hid (by rw [HS.out, hle]; rfl)
        rw [hle] at H1
        clear hle
        go_wp2_with fail
        refine H1.out.mono ?_
        rintro e w2 ⟨rfl, k2⟩
        have HB2 := Lib.hid (HB.out.trans (k2.mono HB.out.size))
        clear k2 H1 hc
        go_wp2_with fail
        go_roundw
        case rel => exact ⟨m, by omega, by go_num, HX2, HB2⟩
        case measure => simp [intOf]; omega
theorem refPut_calls (a : Option Addr) (len cap : Nat) (LL : List (List Sd)) (vs : List Value) (b : Option Addr) (cb : Nat) (B : List Sd) (w : World) (hl : LIn w a len LL vs) (hb : SIn w b B.length B) (hr : ∀ z ∈ B, rV z.v = true) (hcap : len ≤ cap) (hcm : cap ≤ maxLen) (hsml : len ≤ 1000) (hnil : len = 0 → a = none ∧ cap = 0) :
    Calls Tryd.prog 18 #[.slice a len cap, .slice b B.length cb] w (ListPost (putL LL B) w) :=
  (refPut_callsK a len cap LL vs b cb B w hl hb hr hcap hcm hsml hnil).mono fun _ _ h => h.plain
end Go.Proofs.YtjohiehlnbgdaaaDoor
