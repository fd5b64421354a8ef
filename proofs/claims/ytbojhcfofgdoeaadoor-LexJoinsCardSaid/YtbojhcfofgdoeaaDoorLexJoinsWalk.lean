/- The walk of the law LexJoins. -/
import Derived.Test.YtbojhcfofgdoeaaDoorLexJoinsMath
namespace Go.Proofs.YtbojhcfofgdoeaaDoor.lexJoins
open Go.RowKit
set_option linter.unusedVariables false

theorem back_at {T M : List Tk} (h : M.map (fun x => (x.k, x.t, x.line)) = T.map (fun x => (x.k, x.t, 1))) {n : Nat} {x : Tk} (hx : T[n]? = some x) : ∃ c, M[n]? = some ⟨x.k, x.t, 1, c⟩ := by
  have h1 := congrArg (fun l => l[n]?) h
  simp only [List.getElem?_map, hx, Option.map_some] at h1
  cases hm : M[n]? with
  | none => rw [hm] at h1; cases h1
  | some y =>
    rw [hm] at h1
    simp only [Option.map_some, Option.some.injEq, Prod.mk.injEq] at h1
    obtain ⟨k, t, l, c⟩ := y
    simp only at h1
    obtain ⟨rfl, rfl, rfl⟩ := h1
    exact ⟨c, rfl⟩

set_option maxHeartbeats 8000000 in
set_option maxRecDepth 100000 in
theorem walk (s : ByteArray) (w : World) (hT : LexT w) (het : ErrT w) :
    Calls Tryd.prog 4 #[.string s] w fun e w' => e = .returned (.bool true) ∧ Below w.heap.size w w' := by
  have HAw := Lib.hid (fun w1 (hb : Below w.heap.size w w1) => lxAwake_calls w1 (hT.below hb) (het.below hb))
  have HK0 := Lib.hid (Below.refl w.heap.size w)
  by_cases hs : 20000 < s.size
  case pos =>
    have t1 : decide ((20000 : Int) < (s.size : Int)) = true := decide_eq_true (by omega)
    have H1 := Lib.hid (HAw.out w HK0.out)
    clear hT het
    go_enter Tryd.func4, Tryd.ntmps4
    go_wp2_with fail
    refine H1.out.mono ?_
    rintro e w1 ⟨rfl, k1⟩
    have HB := Lib.hid k1
    clear k1
    go_wp2_with fail
    go_ret
    exact ⟨by rfl, HB.out⟩
  have t1 : decide ((20000 : Int) < (s.size : Int)) = false := decide_eq_false (by omega)
  have q2 := failGuard
  have HX := lexAll_calls s w (by omega) hT het
  cases hx : tokL s.data.toList with
  | error z =>
    obtain ⟨er, el, ec⟩ := z
    rw [hx] at HX
    have HX2 : Hid (Calls Tryd.prog 7 #[.string s] w fun e w' => er ≠ 0 ∧ e = .returned (.tuple #[.slice none 0 0, .agg #[.int .i64 (er : Nat), .int .i64 (el : Nat), .int .i64 (ec : Nat)]]) ∧ Below w.heap.size w w') := Lib.hid (HX.mono (by
      rintro e w' ⟨⟨h0, he⟩, hb⟩
      exact ⟨h0, he, hb⟩))
    clear HX hx hs hT het
    go_enter Tryd.func4, Tryd.ntmps4
    go_wp2_with fail
    refine HX2.out.mono ?_
    rintro e w1 ⟨hne, rfl, k1⟩
    have q1 : ∀ w1, (Op.equalIn 10000 26 (.agg #[.int .i64 (er : Nat), .int .i64 (el : Nat), .int .i64 (ec : Nat)]) (.agg #[.int .i64 0, .int .i64 0, .int .i64 0])).run Tryd.prog w1 = .ok false w1 := fun w1 => by
      have := failEq er el ec 0 0 0 w1
      rwa [decide_eq_false (fun h => hne h.1)] at this
    have hb2 := k1.alloc k1.size (.cells #[.int .i64 (er : Nat), .int .i64 (el : Nat), .int .i64 (ec : Nat)] 26)
    have H1 := Lib.hid (HAw.out _ hb2)
    have HB1 := Lib.hid hb2
    clear k1 hne HX2 hb2
    go_wp2_with fail
    refine H1.out.mono ?_
    rintro e w3 ⟨rfl, k3⟩
    have HB3 := Lib.hid (HB1.out.trans (k3.mono HB1.out.size))
    clear k3
    go_wp2_with fail
    go_ret
    exact ⟨by rfl, HB3.out⟩
  | ok T =>
    rw [hx] at HX
    obtain ⟨m, hm⟩ : ∃ m, m = T.length := ⟨_, rfl⟩
    have HX2 : Hid (Calls Tryd.prog 7 #[.string s] w fun e w' => ∃ a cap, e = .returned (.tuple #[.slice a m cap, .agg #[.int .i64 0, .int .i64 0, .int .i64 0]]) ∧ TkIn w' 34 a m T ∧ Below w.heap.size w w') := Lib.hid (HX.mono (by
      rintro e w' ⟨⟨a, cap, he, ht⟩, hb⟩
      rw [← hm] at he ht
      exact ⟨a, cap, he, ht, hb⟩))
    have q1 : ∀ w1, (Op.equalIn 10000 26 (.agg #[.int .i64 0, .int .i64 0, .int .i64 0]) (.agg #[.int .i64 0, .int .i64 0, .int .i64 0])).run Tryd.prog w1 = .ok true w1 := fun w1 => failEq 0 0 0 0 0 0 w1
    have hsl : s.data.toList.length ≤ 20000 := by rw [← cs_size]; omega
    obtain ⟨MB, hMB, hback⟩ := tokL_join hx (by omega)
    have hcnt : (joinT T).length ≤ 40000 ∧ T.length ≤ 20000 := by
      rw [tokL, if_neg (by omega)] at hx
      obtain ⟨_, h2, h3⟩ := tok_tks _ _ _ _ hx
      omega
    have hmb : MB.length = m := by
      have := congrArg List.length hback
      rw [List.length_map, List.length_map] at this
      rw [this, hm]
    have hm2 : m ≤ 20000 := by rw [hm]; exact hcnt.2
    have HBk := Lib.hid hback
    have HTx : Hid (∀ x ∈ T, x.t.length ≤ 40000 ∧ (tkL x.k x.t).length ≤ 40000) := Lib.hid (fun x hx => by
      have h1 := tk_in_join T x hx
      have h2 := tkL_ge x.k x.t
      omega)
    have HWl : Hid (∀ n, (wantB T n).size ≤ 40000) := Lib.hid (fun n => by
      unfold wantB; rw [lx_size]
      have := join_take T n
      omega)
    obtain ⟨J, hJ⟩ : ∃ J : ByteArray, J = ⟨(joinT T).toArray⟩ := ⟨_, rfl⟩
    have HJn := Lib.hid (fun a cap w1 (hb : Below w.heap.size w w1) (h : TkIn w1 34 a m T) => join_calls a m cap T w1 h (by omega) (fun x hx => by have := (HTx.out x hx).1; omega) (by omega) (hT.below hb).esc)
    rw [← hJ] at HJn
    have HJw : Hid (wantB T m = J) := Lib.hid (by unfold wantB; rw [hJ, hm, List.take_length])
    have HAll2 : Hid (∀ w1, Below w.heap.size w w1 → Calls Tryd.prog 7 #[.string J] w1 fun e w' => ∃ a cap, e = .returned (.tuple #[.slice a m cap, .agg #[.int .i64 0, .int .i64 0, .int .i64 0]]) ∧ TkIn w' 34 a m MB ∧ Below w1.heap.size w1 w') := Lib.hid (fun w1 hb => by
      have h := lexAll_calls J w1 (by rw [hJ, lx_size]; omega) (hT.below hb) (het.below hb)
      rw [show J.data.toList = joinT T by rw [hJ], hMB] at h
      refine h.mono ?_
      rintro e w' ⟨⟨a, cap, he, ht⟩, hb⟩
      rw [hmb] at he ht
      exact ⟨a, cap, he, ht, hb⟩)
    have HTe := Lib.hid (fun (x : Tk) (hx : x ∈ T) w1 (hb : Below w.heap.size w w1) => lexText_calls x w1 (by have := (HTx.out x hx).1; omega) (hT.below hb).esc)
    have HLe := Lib.hid (fun (x : Tk) (hx : x ∈ T) w1 => lawText_calls x w1 (by have := (HTx.out x hx).1; omega))
    have HMl := Lib.hid hm
    clear HX hx hs hm hsl hMB hback hcnt hmb hJ hT het
    go_enter Tryd.func4, Tryd.ntmps4
    go_wp2_with fail
    refine HX2.out.mono ?_
    rintro e w1 ⟨a, ca, rfl, hR1, k1⟩
    have hb1 := k1.alloc k1.size (.cells #[.int .i64 0, .int .i64 0, .int .i64 0] 26)
    have hR2 := hR1.below ((Below.refl w1.heap.size w1).alloc (Nat.le_refl _) (.cells #[.int .i64 0, .int .i64 0, .int .i64 0] 26))
    have HJ1 := Lib.hid (HJn.out a ca _ hb1 hR2)
    have HB1 := Lib.hid hb1
    have HR1 := Lib.hid hR2
    clear k1 hR1 HX2 hb1 hR2 HJn
    go_wp2_with fail
    generalize hW : w1.alloc (.cells #[.int .i64 0, .int .i64 0, .int .i64 0] 26) = W at HJ1 HB1 HR1 ⊢
    refine HJ1.out.mono ?_
    rintro e w2 ⟨rfl, k2⟩
    have HB2 := Lib.hid (HB1.out.trans (k2.mono HB1.out.size))
    have HR2 := Lib.hid (HR1.out.below k2)
    have hsm := HR2.out.small
    clear k2 HJ1 HB1 HR1 hW
    go_wp2_with fail
    go_loopw [6, 7] (fun v i wr => ∃ (n : Nat), n ≤ m ∧ i = .int .i64 n ∧ v = .string (wantB T n) ∧ Hid (TkIn wr 34 a m T) ∧ Hid (Below w.heap.size w wr)) (fun _ i _ => m - (intOf i).toNat)
    case atStart => exact ⟨0, Nat.zero_le _, rfl, by rw [want_zero], HR2, HB2⟩
    case round =>
      clear HR2 HB2
      obtain ⟨n, hn, rfl, rfl, HR, HB⟩ := hrel
      by_cases h : n < m
      case neg =>
        obtain rfl : n = m := by omega
        rw [HJw.out]
        have H1 := Lib.hid (HAll2.out wr HB.out)
        go_wp2_with fail
        refine H1.out.mono ?_
        rintro e w3 ⟨a2, ca2, rfl, hM3, k3⟩
        have hk := (Below.refl w3.heap.size w3).alloc (Nat.le_refl _) (.cells #[.int .i64 0, .int .i64 0, .int .i64 0] 26)
        have HM4 := Lib.hid (hM3.below hk)
        have HR4 := Lib.hid ((HR.out.below k3).below hk)
        have hb3 := HB.out.trans (k3.mono HB.out.size)
        have HB4 := Lib.hid (hb3.trans (hk.mono hb3.size))
        have hsm2 := hM3.small
        clear hM3 k3 hk hb3 H1
        go_wp2_with fail
        generalize hW4 : w3.alloc (.cells #[.int .i64 0, .int .i64 0, .int .i64 0] 26) = w4 at HM4 HR4 HB4 ⊢
        clear hW4
        go_loopw [10] (fun i wx => ∃ (n2 : Nat), n2 ≤ n ∧ i = .int .i64 n2 ∧ Hid (TkIn wx 34 a n T) ∧ Hid (TkIn wx 34 a2 n MB) ∧ Hid (Below w.heap.size w wx)) (fun i _ => n - (intOf i).toNat)
        case atStart => exact ⟨0, Nat.zero_le _, rfl, HR4, HM4, HB4⟩
        case round =>
          clear HR4 HM4 HB4
          obtain ⟨n2, hn2, rfl, HR5, HM5, HB5⟩ := hrel
          by_cases h2 : n2 < n
          case neg =>
            have H1 := Lib.hid (HAw.out _ HB5.out)
            go_wp2_with fail
            refine H1.out.mono ?_
            rintro e w6 ⟨rfl, k6⟩
            have HB6 := Lib.hid (HB5.out.trans (k6.mono HB5.out.size))
            clear k6
            go_wp2_with fail
            go_ret
            exact ⟨by rfl, HB6.out⟩
          case pos =>
            obtain ⟨x, hx⟩ : ∃ x, T[n2]? = some x := ⟨_, List.getElem?_eq_getElem (by rw [← HMl.out]; exact h2)⟩
            obtain ⟨cc, hy⟩ := back_at HBk.out hx
            obtain ⟨g, off, ha, hb1, d0, d1, d2, d3⟩ := HR5.out.at' n2 x hx
            obtain ⟨g', off', ha', hb2, e0, e1, e2, e3⟩ := HM5.out.at' n2 _ hy
            have hl1 := hb1.lt
            have hl2 := hb2.lt
            obtain ⟨k, t, l, c⟩ := x
            simp only at d0 d1 d2 d3 e0 e1 e2 e3
            subst ha
            subst ha'
            clear hx hy hb1 hb2
            go_wp2_with fail
            go_quiet (fail)
            all_goals (go_wp2_with fail)
            go_roundw
            case rel => exact ⟨n2 + 1, h2, by go_num, Lib.hid (HR5.out.below (lx_drewN (Below.refl _ _) _)), Lib.hid (HM5.out.below (lx_drewN (Below.refl _ _) _)), Lib.hid (lx_drewN HB5.out _)⟩
            case measure => simp [intOf]; omega
      case pos =>
        obtain ⟨x, hx⟩ : ∃ x, T[n]? = some x := ⟨_, List.getElem?_eq_getElem (by rw [← HMl.out]; exact h)⟩
        have hmem := List.mem_of_getElem? hx
        obtain ⟨g, off, ha, hb1, d0, d1, d2, d3⟩ := HR.out.at' n x hx
        have HTe1 := Lib.hid (HTe.out x hmem)
        have HLe1 := Lib.hid (HLe.out x hmem)
        have hys : (tkT x).size ≤ 40000 := by unfold tkT; rw [lx_size]; exact (HTx.out x hmem).2
        have hw0 := HWl.out n
        have HSx : Hid (∀ W, Below wr.heap.size wr W → W.cell? ⟨g, off + n * 4, none⟩ = some (.int .i64 (x.k : Nat)) ∧ W.cell? ⟨g, off + n * 4 + 1, none⟩ = some (.string ⟨x.t.toArray⟩) ∧ W.cell? ⟨g, off + n * 4 + 2, none⟩ = some (.int .i64 (x.line : Nat)) ∧ W.cell? ⟨g, off + n * 4 + 3, none⟩ = some (.int .i64 (x.col : Nat))) := Lib.hid (fun W k => by
          have hl := hb1.lt
          exact ⟨(k.cell (p := ⟨g, off + n * 4, none⟩) hl).trans d0, (k.cell (p := ⟨g, off + n * 4 + 1, none⟩) hl).trans d1, (k.cell (p := ⟨g, off + n * 4 + 2, none⟩) hl).trans d2, (k.cell (p := ⟨g, off + n * 4 + 3, none⟩) hl).trans d3⟩)
        have hgl := hb1.lt
        subst ha
        obtain ⟨k, t, l, c⟩ := x
        simp only at d0 d1 d2 d3 HSx HTe1 HLe1
        by_cases hn0 : n = 0
        case pos =>
          subst hn0
          have hWn := want_first hx
          have hc := sc_hcat (wantB T 0) (tkT ⟨k, t, l, c⟩) (by omega)
          rw [hWn] at hc
          obtain ⟨W1, hW1⟩ : ∃ W1, W1 = wantB T 1 := ⟨_, rfl⟩
          rw [← hW1] at hc
          have HW1 := Lib.hid hW1
          rw [Nat.zero_mul, Nat.add_zero] at d0 d1 d2 d3 HSx
          clear hx hmem hb1 hWn hW1 hys hw0
          generalize tkT ⟨k, t, l, c⟩ = y at hc HTe1 HLe1
          generalize wantB T 0 = W0 at hc ⊢
          go_wp2_with fail
          refine (HLe1.out _).mono ?_
          rintro e w4 ⟨rfl, k4⟩
          have HK4 := Lib.hid k4
          have HB4 := Lib.hid (HB.out.trans (k4.mono HB.out.size))
          have HS4 : Hid (∀ W, Below w4.heap.size w4 W → Below wr.heap.size wr W) := Lib.hid (fun W k => HK4.out.trans (k.mono HK4.out.size))
          have hgl4 : g < w4.heap.size := Nat.lt_of_lt_of_le hgl k4.size
          obtain ⟨b0, b1, b2, b3⟩ := HSx.out w4 k4
          clear k4 d0 d1 d2 d3
          go_wp2_with fail
          go_region_held3 (fun W => W.cell? ⟨g, off, none⟩ = some (.int .i64 (k : Nat)) ∧ W.cell? ⟨g, off + 1, none⟩ = some (.string ⟨t.toArray⟩) ∧ W.cell? ⟨g, off + 2, none⟩ = some (.int .i64 (l : Nat)) ∧ W.cell? ⟨g, off + 3, none⟩ = some (.int .i64 (c : Nat))) (first | exact HSx.out _ (HS4.out _ (Below.refl _ _).drew) | exact HSx.out _ (HS4.out _ HK6.out) | exact HSx.out _ (HS4.out _ HK5.out)) (first
            | (go_at_call 11; refine (HTe1.out _ HB5.out).mono ?_; rintro e w6 ⟨rfl, k6⟩; have HK6 := Lib.hid (HK5.out.trans (k6.mono HK5.out.size)); have HB6 := Lib.hid (HB5.out.trans (k6.mono HB5.out.size)); clear k6)
            | (go_at_call 10; refine (HLe1.out w5).mono ?_; rintro e w6 ⟨rfl, k6⟩; have HK6 := Lib.hid (HK5.out.trans (k6.mono HK5.out.size)); have HB6 := Lib.hid (HB5.out.trans (k6.mono HB5.out.size)); clear k6)
            | (go_at_call 11; refine (HTe1.out _ HB4.out.drew).mono ?_; rintro e w5 ⟨rfl, k5⟩; have HK5 := Lib.hid ((Below.refl w4.heap.size w4).drew.trans k5); have HB5 := Lib.hid (HB4.out.drew.trans (k5.mono HB4.out.size)); clear k5)
            | (go_at_call 10; refine (HLe1.out w4.drew).mono ?_; rintro e w5 ⟨rfl, k5⟩; have HK5 := Lib.hid ((Below.refl w4.heap.size w4).drew.trans k5); have HB5 := Lib.hid (HB4.out.drew.trans (k5.mono HB4.out.size)); clear k5))
          all_goals (go_wp2_with fail)
          all_goals go_roundw
          all_goals try (case measure => simp [intOf]; omega)
          all_goals (case rel => exact ⟨1, h, by go_num, by rw [HW1.out], Lib.hid (HR.out.below (HS4.out _ HK6.out)), HB6⟩)
        case neg =>
          have hWn := want_more hx (by omega)
          have hc1 := sc_hcat (wantB T n) ⟨#[32]⟩ (by rw [show (⟨#[32]⟩ : ByteArray).size = 1 from rfl]; omega)
          have hc2 := sc_hcat (wantB T n ++ ⟨#[32]⟩) (tkT ⟨k, t, l, c⟩) (by rw [sc_catSize, show (⟨#[32]⟩ : ByteArray).size = 1 from rfl]; omega)
          rw [hWn] at hc2
          obtain ⟨W1, hW1⟩ : ∃ W1, W1 = wantB T (n + 1) := ⟨_, rfl⟩
          rw [← hW1] at hc2
          have HW1 := Lib.hid hW1
          have tn : 0 < n := by omega
          clear hx hmem hb1 hWn hW1 hys hw0 hn0
          generalize tkT ⟨k, t, l, c⟩ = y at hc2 HTe1 HLe1
          generalize wantB T n ++ ⟨#[32]⟩ = Wa at hc1 hc2
          generalize wantB T n = W0 at hc1 ⊢
          go_wp2_with fail
          refine (HLe1.out _).mono ?_
          rintro e w4 ⟨rfl, k4⟩
          have HK4 := Lib.hid k4
          have HB4 := Lib.hid (HB.out.trans (k4.mono HB.out.size))
          have HS4 : Hid (∀ W, Below w4.heap.size w4 W → Below wr.heap.size wr W) := Lib.hid (fun W k => HK4.out.trans (k.mono HK4.out.size))
          have hgl4 : g < w4.heap.size := Nat.lt_of_lt_of_le hgl k4.size
          obtain ⟨b0, b1, b2, b3⟩ := HSx.out w4 k4
          clear k4 d0 d1 d2 d3
          go_wp2_with fail
          go_region_held3 (fun W => W.cell? ⟨g, off + n * 4, none⟩ = some (.int .i64 (k : Nat)) ∧ W.cell? ⟨g, off + n * 4 + 1, none⟩ = some (.string ⟨t.toArray⟩) ∧ W.cell? ⟨g, off + n * 4 + 2, none⟩ = some (.int .i64 (l : Nat)) ∧ W.cell? ⟨g, off + n * 4 + 3, none⟩ = some (.int .i64 (c : Nat))) (first | exact HSx.out _ (HS4.out _ (Below.refl _ _).drew) | exact HSx.out _ (HS4.out _ HK6.out) | exact HSx.out _ (HS4.out _ HK5.out)) (first
            | (go_at_call 11; refine (HTe1.out _ HB5.out).mono ?_; rintro e w6 ⟨rfl, k6⟩; have HK6 := Lib.hid (HK5.out.trans (k6.mono HK5.out.size)); have HB6 := Lib.hid (HB5.out.trans (k6.mono HB5.out.size)); clear k6)
            | (go_at_call 10; refine (HLe1.out w5).mono ?_; rintro e w6 ⟨rfl, k6⟩; have HK6 := Lib.hid (HK5.out.trans (k6.mono HK5.out.size)); have HB6 := Lib.hid (HB5.out.trans (k6.mono HB5.out.size)); clear k6)
            | (go_at_call 11; refine (HTe1.out _ HB4.out.drew).mono ?_; rintro e w5 ⟨rfl, k5⟩; have HK5 := Lib.hid ((Below.refl w4.heap.size w4).drew.trans k5); have HB5 := Lib.hid (HB4.out.drew.trans (k5.mono HB4.out.size)); clear k5)
            | (go_at_call 10; refine (HLe1.out w4.drew).mono ?_; rintro e w5 ⟨rfl, k5⟩; have HK5 := Lib.hid ((Below.refl w4.heap.size w4).drew.trans k5); have HB5 := Lib.hid (HB4.out.drew.trans (k5.mono HB4.out.size)); clear k5))
          all_goals (go_wp2_with fail)
          all_goals go_roundw
          all_goals try (case measure => simp [intOf]; omega)
          all_goals (case rel => exact ⟨n + 1, h, by go_num, by rw [HW1.out], Lib.hid (HR.out.below (HS4.out _ HK6.out)), HB6⟩)
end Go.Proofs.YtbojhcfofgdoeaaDoor.lexJoins
