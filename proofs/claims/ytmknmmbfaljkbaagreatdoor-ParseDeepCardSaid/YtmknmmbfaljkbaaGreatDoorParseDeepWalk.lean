/- The walk of the law ParseDeep. -/
import Derived.Test.YtmknmmbfaljkbaaGreatDoorParDeepMath
import Derived.Test.YtmknmmbfaljkbaaGreatDoorParAwake
import Derived.OwnWalk
import Derived.Lib.SlBytesConst
namespace Go.Proofs.YtmknmmbfaljkbaaGreatDoor.parseDeep
open Go.RowKit
set_option linter.unusedVariables false

theorem byteCells_one (t : List UInt8) : ∀ u ∈ Lib.byteCells t, u.oneCell' = true := by
  intro u hu
  obtain ⟨x, _, rfl⟩ := List.mem_map.1 hu
  rfl
/-- append, of bytes that have just been built, to bytes of the call's own. -/
theorem pa_append {w1 : World} {cs : Array Value} {fr : Nat × Nat} {ops : Array Oper} {rest : List Oper} {o : Oper} {a : Act} {Q : Exit → Act → World → Prop} (hgd : o.guard = none) (s x : Operand)
    (ho : o.op = .call { callee := .builtin .append, args := #[s, x], argTypes := #[43, 43] }) (B : Nat) (v : Value) (t : List UInt8) (hs : a.eval s = v) (hown : w1.ownsRow B 5 1 v t.length (Lib.byteCells t))
    (news : List UInt8) (hcs : cs.toList = Lib.byteCells news) (g m : Nat) (hx : a.eval x = .slice (some ⟨g, 0, none⟩) m m) (hg : g = w1.heap.size) (hm : m = news.length) (hsz : t.length + news.length ≤ 1000000) (w0 : World) (hb : Below B w0 w1) (hB : B ≤ w1.heap.size) (r : List UInt8) (hr : r = t ++ news)
    (h : ∀ v' w', Hid (w'.ownsRow B 5 1 v' r.length (Lib.byteCells r)) → Hid (Below B w0 w') → wpList Tryz.prog ops Q rest (a.put o.dst v') w') : wpList Tryz.prog ops Q (o :: rest) a (w1.alloc (.cells cs 5 fr)) := by
  subst hr hg hm
  obtain ⟨i0, hi, hz0, hz1, hz2⟩ := cs_parts cs_infoU8
  refine wpList_append_own _ hgd s x 43 ho B 5 i0 (.int .u8 0) 1 1 Tryz.underlying43 hi hz0 hz1 hz2 rfl (by decide) v t.length (Lib.byteCells t) hs (hown.alloc _) ⟨w1.heap.size, 0, none⟩ news.length news.length (Lib.byteCells news) hx (by rw [Lib.byteCells_length, Nat.mul_one]) ?_ (byteCells_one _) (by unfold maxLen; omega) (by omega) (by simp; omega) ?_
  · intro j u hj
    have hadd : (⟨w1.heap.size, 0, none⟩ : Addr).add j = ⟨w1.heap.size, j, none⟩ := by unfold Addr.add; split <;> simp_all
    rw [hadd, World.cell?_alloc_mark]
    rw [← hcs] at hj
    simpa using hj
  intro v' w' h1 h2 _
  refine h v' w' (Lib.hid ?_) (Lib.hid ((hb.alloc hB _).grown h2 (by simp; omega) (fun k hk => (hown.lt k hk).1)))
  rw [List.length_append]
  have : Lib.byteCells (t ++ news) = Lib.byteCells t ++ Lib.byteCells news := by simp [Lib.byteCells]
  rw [this]
  exact h1
theorem pa_text {B : Nat} {v : Value} {t : List UInt8} {w : World} (h : w.ownsRow B 5 1 v t.length (Lib.byteCells t)) (h0 : t ≠ []) : (convert 43 9 v).run Tryz.prog w = .ok (.string ⟨t.toArray⟩) w := by
  obtain ⟨hl, hown⟩ := h
  rcases hown with ⟨rfl, hz⟩ | ⟨g, cap, cur, rfl, h1, hg, hcap, hm, hsz, htk⟩
  · exact absurd (List.length_eq_zero_iff.1 hz) h0
  · refine run_convert_bytes_back w 43 9 5 ⟨g, 0, none⟩ cap t Tryz.underlying43 Tryz.underlying5 Tryz.underlying9 fun j hj => ?_
    have hadd : (⟨g, 0, none⟩ : Addr).add j = ⟨g, j, none⟩ := by unfold Addr.add; split <;> simp_all
    have hj2 : (Lib.byteCells t)[j]? = some (.int .u8 t[j].toNat) := by simp [Lib.byteCells, hj]
    rw [hadd, cell_of_row w g j cur 5 (0, 0) hg]
    rw [← htk, Nat.mul_one, List.getElem?_take, if_pos hj] at hj2
    simpa using hj2
def RL (w : World) (t : List UInt8) (v : Value) (wr : World) : Prop := wr.ownsRow w.heap.size 5 1 v t.length (Lib.byteCells t)

set_option maxHeartbeats 4000000 in
set_option maxRecDepth 100000 in
theorem walk0 (x y : Int) (b : Bool) (a : Addr) (w : World) (hT : LexT w) (het : ErrT w) (hv : ErrR w a) (hxy : x < 0 ∨ 140 < x ∨ y < 0 ∨ 140 < y) :
    Calls Tryz.prog 4 #[.int .i64 x, .int .i64 y, .bool b] w fun e w' => e = .returned (.bool true) ∧ Below w.heap.size w w' := by
  have HK0 := Lib.hid (Below.refl w.heap.size w)
  have HAw := Lib.hid (fun w1 (hb : Below w.heap.size w w1) => paAwake_calls a w1 (hT.below hb) (het.below hb) (errR_below hv hb))
  clear hT het hv
  by_cases h1 : x < 0
  case pos =>
    have t1 : decide (x < 0) = true := decide_eq_true h1
    clear h1 hxy
    have H1 := Lib.hid (HAw.out w HK0.out)
    go_enter Tryz.func4, Tryz.ntmps4
    go_wp2_with fail
    refine H1.out.mono ?_
    rintro e w1 ⟨rfl, k1⟩
    have HB := Lib.hid k1
    clear k1
    go_wp2_with fail
    go_ret
    exact ⟨by rfl, HB.out⟩
  have t1 : decide (x < 0) = false := decide_eq_false h1
  by_cases h2 : 140 < x
  case pos =>
    have t2 : decide (140 < x) = true := decide_eq_true h2
    clear h1 h2 hxy
    have H1 := Lib.hid (HAw.out w HK0.out)
    go_enter Tryz.func4, Tryz.ntmps4
    go_wp2_with fail
    refine H1.out.mono ?_
    rintro e w1 ⟨rfl, k1⟩
    have HB := Lib.hid k1
    clear k1
    go_wp2_with fail
    go_ret
    exact ⟨by rfl, HB.out⟩
  have t2 : decide (140 < x) = false := decide_eq_false h2
  by_cases h3 : y < 0
  case pos =>
    have t3 : decide (y < 0) = true := decide_eq_true h3
    clear h1 h2 h3 hxy
    have H1 := Lib.hid (HAw.out w HK0.out)
    go_enter Tryz.func4, Tryz.ntmps4
    go_wp2_with fail
    refine H1.out.mono ?_
    rintro e w1 ⟨rfl, k1⟩
    have HB := Lib.hid k1
    clear k1
    go_wp2_with fail
    go_ret
    exact ⟨by rfl, HB.out⟩
  have t3 : decide (y < 0) = false := decide_eq_false h3
  have t4 : decide (140 < y) = true := decide_eq_true (by omega)
  clear h1 h2 h3 hxy
  have H1 := Lib.hid (HAw.out w HK0.out)
  go_enter Tryz.func4, Tryz.ntmps4
  go_wp2_with fail
  refine H1.out.mono ?_
  rintro e w1 ⟨rfl, k1⟩
  have HB := Lib.hid k1
  clear k1
  go_wp2_with fail
  go_ret
  exact ⟨by rfl, HB.out⟩
set_option maxHeartbeats 8000000 in
set_option maxRecDepth 100000 in
theorem walk_true (o c : Nat) (ho : o ≤ 140) (hc : c ≤ 140) (a : Addr) (w : World) (hT : LexT w) (het : ErrT w) (hv : ErrR w a) :
    Calls Tryz.prog 4 #[.int .i64 (o : Nat), .int .i64 (c : Nat), .bool true] w fun e w' => e = .returned (.bool true) ∧ Below w.heap.size w w' := by
  have HK0 := Lib.hid (Below.refl w.heap.size w)
  have HAw := Lib.hid (fun w1 (hb : Below w.heap.size w w1) => paAwake_calls a w1 (hT.below hb) (het.below hb) (errR_below hv hb))
  have HX := Lib.hid (fun s w1 (hs : s.size ≤ 4294967296) (hb : Below w.heap.size w w1) => exprF_calls s a w1 hs (hT.below hb) (het.below hb) (errR_below hv hb))
  have HD := Lib.hid (deep_tells o c true ho hc)
  have q2 := failGuard
  have kc := fun (w : World) (C : Array Value) (n c : Nat) => Lib.run_convert_bytes_const (P := Tryz.prog) w 43 5 C n c Tryz.underlying43 Tryz.underlying5
  have t1 : decide ((o : Int) < 0) = false := decide_eq_false (by omega)
  have t2 : decide ((140 : Int) < o) = false := decide_eq_false (by omega)
  have t3 : decide ((c : Int) < 0) = false := decide_eq_false (by omega)
  have t4 : decide ((140 : Int) < c) = false := decide_eq_false (by omega)
  have HO : Hid (RL w (repT 0 (preL true)) (.slice none 0 0) w) := Lib.hid (World.ownsRow_nil _ _ _ _)
  clear hT het hv
  go_enter Tryz.func4, Tryz.ntmps4
  go_wp2_with fail
  go_loopw [7, 8] (fun v i wr => ∃ (n : Nat), n ≤ o ∧ i = .int .i64 n ∧ Hid (RL w (repT n (preL true)) v wr) ∧ Hid (Below w.heap.size w wr)) (fun _ i _ => o - (intOf i).toNat)
  case atStart => exact ⟨0, Nat.zero_le _, rfl, HO, HK0⟩
  case round =>
    clear HO HK0
    obtain ⟨n, hn, rfl, HR, HB⟩ := hrel
    by_cases hlt : n < o
    case pos =>
      have hlen := rep_len n (preL true)
      have hp4 : (preL true).length ≤ 4 := by decide
      have hr5 : (repT n (preL true)).length ≤ 1000 := by rw [hlen]; exact Nat.le_trans (Nat.mul_le_mul (show n ≤ 140 by omega) hp4) (by decide)
      go_wp2_with (at_builtin; refine pa_append rfl _ _ rfl w.heap.size _ (repT n (preL true)) rfl HR.out (preL true) rfl wr.heap.size _ rfl rfl rfl (by omega) w HB.out HB.out.size _ (rep_snoc n _) ?_; intro v2 w2 HR2 HB2)
      go_roundw
      case rel => exact ⟨n + 1, hlt, by go_num, HR2, HB2⟩
      case measure => simp [intOf]; omega
    case neg =>
      obtain rfl : n = o := by omega
      clear hlt hn
      have hlen := rep_len n (preL true)
      have hp4 : (preL true).length ≤ 4 := by decide
      have hr5 : (repT n (preL true)).length ≤ 1000 := by rw [hlen]; exact Nat.le_trans (Nat.mul_le_mul ho hp4) (by decide)
      have HR5 := Lib.hid hr5
      go_wp2_with (at_builtin; refine pa_append rfl _ _ rfl w.heap.size _ (repT n (preL true)) rfl HR.out [120] rfl wr.heap.size _ rfl rfl rfl (by show _ + 1 ≤ _; omega) w HB.out HB.out.size _ rfl ?_; intro v2 w2 HR2 HB2)
      clear HR HB hlen hp4 hr5
      go_loopw [7, 9] (fun v i wr => ∃ (k : Nat), k ≤ c ∧ i = .int .i64 k ∧ Hid (RL w (repT n (preL true) ++ [120] ++ repT k [43, 120]) v wr) ∧ Hid (Below w.heap.size w wr)) (fun _ i _ => c - (intOf i).toNat)
      case atStart => exact ⟨0, Nat.zero_le _, rfl, Lib.hid (by rw [rep_zero, List.append_nil]; exact HR2.out), HB2⟩
      case round =>
        clear HR2 HB2
        obtain ⟨k, hk, rfl, HR, HB⟩ := hrel
        by_cases hlt : k < c
        case pos =>
          have hr5 := HR5.out
          have hlen : (repT n (preL true) ++ [120] ++ repT k [43, 120]).length ≤ 2000 := by rw [List.length_append, List.length_append, rep_len k]; simp; omega
          go_wp2_with (at_builtin; refine pa_append rfl _ _ rfl w.heap.size _ (repT n (preL true) ++ [120] ++ repT k [43, 120]) rfl HR.out [43, 120] rfl wr.heap.size _ rfl rfl rfl (by show _ + 2 ≤ _; omega) w HB.out HB.out.size _ rfl ?_; intro v2 w2 HR2 HB2)
          go_roundw
          case rel => exact ⟨k + 1, hlt, by go_num, Lib.hid (by rw [rep_snoc, ← List.append_assoc]; exact HR2.out), HB2⟩
          case measure => simp [intOf]; omega
        case neg =>
          obtain rfl : k = c := by omega
          clear hlt hk
          go_wp2_with fail
          go_loopw [7, 10] (fun v i wr => i = .int .i64 0 ∧ Hid (RL w (deepL n k true) v wr) ∧ Hid (Below w.heap.size w wr)) (fun _ i _ => 0)
          case atStart => exact ⟨rfl, Lib.hid (by show RL w (repT n (preL true) ++ [120] ++ repT k [43, 120] ++ repT 0 [41]) _ _; rw [rep_zero, List.append_nil]; exact HR.out), HB⟩
          case round =>
            clear HR HB
            obtain ⟨rfl, HR, HB⟩ := hrel
            have t5 : (decide ((0 : Int) < n) = true ∧ decide (0 < n) = true) ∨ (decide ((0 : Int) < n) = false ∧ decide (0 < n) = false) := by
              by_cases h : 0 < n
              · exact .inl ⟨decide_eq_true (by omega), decide_eq_true h⟩
              · exact .inr ⟨decide_eq_false (by omega), decide_eq_false h⟩
            rcases t5 with ⟨t5, t6⟩ | ⟨t5, t6⟩
            · have hcv := pa_text HR.out (by unfold deepL; simp)
              have hsz : (⟨(deepL n k true).toArray⟩ : ByteArray).size ≤ 4294967296 := by rw [lx_size]; have := deep_len n k true; omega
              have HXc := Lib.hid (HX.out _ wr hsz HB.out)
              generalize hY : (⟨(deepL n k true).toArray⟩ : ByteArray) = Y at hcv HXc
              have hYl : Y.data.toList = deepL n k true := by rw [← hY]
              rw [hYl] at HXc
              clear hsz hY hYl HR5 HX HR
              have HBs := Lib.hid HB.out.size
              by_cases hok : n ≤ 128 ∧ k + 1 + n ≤ 64
              case pos =>
                obtain ⟨L, hL, hLl⟩ := HD.out.1 hok
                have hYc := HXc.out
                rw [hL] at hYc
                have HXd : Hid (Calls Tryz.prog 6 #[.string Y] wr fun e w' => ∃ va vc, e = .returned (.tuple #[.slice va (2 * k + 1 + n) vc, failV 0 0 0]) ∧ Below wr.heap.size wr w') := Lib.hid (hYc.mono (by
                  intro e w' h
                  obtain ⟨⟨v, he, ht⟩, hb⟩ := h
                  obtain ⟨va, vc, rfl⟩ := ht.slice
                  exact ⟨va, vc, by rw [he, hLl]; rfl, hb⟩))
                have u1 : decide ((128 : Int) < n) = false := decide_eq_false (by omega)
                have u2 : decide ((64 : Int) < (k : Int) + 1 + (n : Nat)) = false := decide_eq_false (by omega)
                have q1 : ∀ w1, (Op.equalIn 10000 26 (.agg #[.int .i64 0, .int .i64 0, .int .i64 0]) (.agg #[.int .i64 0, .int .i64 0, .int .i64 0])).run Tryz.prog w1 = .ok true w1 := fun w1 => failEq 0 0 0 0 0 0 w1
                clear hYc hL hLl HXc HD hok
                unfold failV at HXd
                go_wp2_with fail
                refine HXd.out.mono ?_
                rintro e w3 ⟨va, vc, rfl, k3⟩
                have HB3 := Lib.hid (HB.out.trans (k3.mono HBs.out))
                have hb4 := HB3.out.alloc HB3.out.size (.cells #[.int .i64 0, .int .i64 0, .int .i64 0] 26)
                have H1 := Lib.hid (HAw.out _ hb4)
                have HB4 := Lib.hid hb4
                clear k3 hb4 hcv
                obtain ⟨len, hlen⟩ : ∃ len : Nat, len = 2 * k + 1 + n := ⟨_, rfl⟩
                rw [← hlen]
                have hlen2 : (len : Int) = 1 + 2 * (k : Int) + ((k : Int) + 1 + (n : Nat)) - k - 1 := by omega
                clear hlen
                go_wp2_with fail
                refine H1.out.mono ?_
                rintro e w4 ⟨rfl, k4⟩
                have HB5 := Lib.hid (HB4.out.trans (k4.mono HB4.out.size))
                clear k4
                go_wp2_with fail
                go_ret
                exact ⟨by rfl, HB5.out⟩
              case neg =>
                obtain ⟨col, hL⟩ := HD.out.2 hok
                have hYc := HXc.out
                rw [hL] at hYc
                have HXd : Hid (Calls Tryz.prog 6 #[.string Y] wr fun e w' => e = .returned (.tuple #[.slice none 0 0, failV 13 1 col]) ∧ Below wr.heap.size wr w') := Lib.hid (hYc.mono (by
                  intro e w' h
                  obtain ⟨⟨_, he⟩, hb⟩ := h
                  exact ⟨he, hb⟩))
                have hu : decide ((128 : Int) < n) = true ∨ (decide ((128 : Int) < n) = false ∧ decide ((64 : Int) < (k : Int) + 1 + (n : Nat)) = true) := by
                  by_cases h : 128 < n
                  · exact .inl (decide_eq_true (by omega))
                  · exact .inr ⟨decide_eq_false (by omega), decide_eq_true (by omega)⟩
                clear hYc hL HXc HD hok
                unfold failV at HXd
                go_wp2_with fail
                refine HXd.out.mono ?_
                rintro e w3 ⟨rfl, k3⟩
                have HB3 := Lib.hid (HB.out.trans (k3.mono HBs.out))
                have hb4 := HB3.out.alloc HB3.out.size (.cells #[.int .i64 (13 : Nat), .int .i64 (1 : Nat), .int .i64 (col : Nat)] 26)
                have H1 := Lib.hid (HAw.out _ hb4)
                have HB4 := Lib.hid hb4
                clear k3 hb4 hcv
                rcases hu with u1 | ⟨u1, u2⟩
                all_goals (
                  go_wp2_with fail
                  refine H1.out.mono ?_
                  rintro e w4 ⟨rfl, k4⟩
                  have HB5 := Lib.hid (HB4.out.trans (k4.mono HB4.out.size))
                  clear k4
                  go_wp2_with fail
                  go_ret
                  exact ⟨by rfl, HB5.out⟩)
            · have hcv := pa_text HR.out (by unfold deepL; simp)
              have hsz : (⟨(deepL n k true).toArray⟩ : ByteArray).size ≤ 4294967296 := by rw [lx_size]; have := deep_len n k true; omega
              have HXc := Lib.hid (HX.out _ wr hsz HB.out)
              generalize hY : (⟨(deepL n k true).toArray⟩ : ByteArray) = Y at hcv HXc
              have hYl : Y.data.toList = deepL n k true := by rw [← hY]
              rw [hYl] at HXc
              clear hsz hY hYl HR5 HX HR
              have HBs := Lib.hid HB.out.size
              by_cases hok : n ≤ 128 ∧ k + 1 + n ≤ 64
              case pos =>
                obtain ⟨L, hL, hLl⟩ := HD.out.1 hok
                have hYc := HXc.out
                rw [hL] at hYc
                have HXd : Hid (Calls Tryz.prog 6 #[.string Y] wr fun e w' => ∃ va vc, e = .returned (.tuple #[.slice va (2 * k + 1 + n) vc, failV 0 0 0]) ∧ Below wr.heap.size wr w') := Lib.hid (hYc.mono (by
                  intro e w' h
                  obtain ⟨⟨v, he, ht⟩, hb⟩ := h
                  obtain ⟨va, vc, rfl⟩ := ht.slice
                  exact ⟨va, vc, by rw [he, hLl]; rfl, hb⟩))
                have u1 : decide ((128 : Int) < n) = false := decide_eq_false (by omega)
                have u2 : decide ((64 : Int) < (k : Int) + 1 + (n : Nat)) = false := decide_eq_false (by omega)
                have q1 : ∀ w1, (Op.equalIn 10000 26 (.agg #[.int .i64 0, .int .i64 0, .int .i64 0]) (.agg #[.int .i64 0, .int .i64 0, .int .i64 0])).run Tryz.prog w1 = .ok true w1 := fun w1 => failEq 0 0 0 0 0 0 w1
                clear hYc hL hLl HXc HD hok
                unfold failV at HXd
                go_wp2_with fail
                refine HXd.out.mono ?_
                rintro e w3 ⟨va, vc, rfl, k3⟩
                have HB3 := Lib.hid (HB.out.trans (k3.mono HBs.out))
                have hb4 := HB3.out.alloc HB3.out.size (.cells #[.int .i64 0, .int .i64 0, .int .i64 0] 26)
                have H1 := Lib.hid (HAw.out _ hb4)
                have HB4 := Lib.hid hb4
                clear k3 hb4 hcv
                obtain ⟨len, hlen⟩ : ∃ len : Nat, len = 2 * k + 1 + n := ⟨_, rfl⟩
                rw [← hlen]
                have hlen2 : (len : Int) = 1 + 2 * (k : Int) + ((k : Int) + 1 + (n : Nat)) - k - 1 := by omega
                clear hlen
                go_wp2_with fail
                refine H1.out.mono ?_
                rintro e w4 ⟨rfl, k4⟩
                have HB5 := Lib.hid (HB4.out.trans (k4.mono HB4.out.size))
                clear k4
                go_wp2_with fail
                go_ret
                exact ⟨by rfl, HB5.out⟩
              case neg =>
                obtain ⟨col, hL⟩ := HD.out.2 hok
                have hYc := HXc.out
                rw [hL] at hYc
                have HXd : Hid (Calls Tryz.prog 6 #[.string Y] wr fun e w' => e = .returned (.tuple #[.slice none 0 0, failV 13 1 col]) ∧ Below wr.heap.size wr w') := Lib.hid (hYc.mono (by
                  intro e w' h
                  obtain ⟨⟨_, he⟩, hb⟩ := h
                  exact ⟨he, hb⟩))
                have hu : decide ((128 : Int) < n) = true ∨ (decide ((128 : Int) < n) = false ∧ decide ((64 : Int) < (k : Int) + 1 + (n : Nat)) = true) := by
                  by_cases h : 128 < n
                  · exact .inl (decide_eq_true (by omega))
                  · exact .inr ⟨decide_eq_false (by omega), decide_eq_true (by omega)⟩
                clear hYc hL HXc HD hok
                unfold failV at HXd
                go_wp2_with fail
                refine HXd.out.mono ?_
                rintro e w3 ⟨rfl, k3⟩
                have HB3 := Lib.hid (HB.out.trans (k3.mono HBs.out))
                have hb4 := HB3.out.alloc HB3.out.size (.cells #[.int .i64 (13 : Nat), .int .i64 (1 : Nat), .int .i64 (col : Nat)] 26)
                have H1 := Lib.hid (HAw.out _ hb4)
                have HB4 := Lib.hid hb4
                clear k3 hb4 hcv
                rcases hu with u1 | ⟨u1, u2⟩
                all_goals (
                  go_wp2_with fail
                  refine H1.out.mono ?_
                  rintro e w4 ⟨rfl, k4⟩
                  have HB5 := Lib.hid (HB4.out.trans (k4.mono HB4.out.size))
                  clear k4
                  go_wp2_with fail
                  go_ret
                  exact ⟨by rfl, HB5.out⟩)
set_option maxHeartbeats 8000000 in
set_option maxRecDepth 100000 in
theorem walk_false (o c : Nat) (ho : o ≤ 140) (hc : c ≤ 140) (a : Addr) (w : World) (hT : LexT w) (het : ErrT w) (hv : ErrR w a) :
    Calls Tryz.prog 4 #[.int .i64 (o : Nat), .int .i64 (c : Nat), .bool false] w fun e w' => e = .returned (.bool true) ∧ Below w.heap.size w w' := by
  have HK0 := Lib.hid (Below.refl w.heap.size w)
  have HAw := Lib.hid (fun w1 (hb : Below w.heap.size w w1) => paAwake_calls a w1 (hT.below hb) (het.below hb) (errR_below hv hb))
  have HX := Lib.hid (fun s w1 (hs : s.size ≤ 4294967296) (hb : Below w.heap.size w w1) => exprF_calls s a w1 hs (hT.below hb) (het.below hb) (errR_below hv hb))
  have HD := Lib.hid (deep_tells o c false ho hc)
  have q2 := failGuard
  have kc := fun (w : World) (C : Array Value) (n c : Nat) => Lib.run_convert_bytes_const (P := Tryz.prog) w 43 5 C n c Tryz.underlying43 Tryz.underlying5
  have t1 : decide ((o : Int) < 0) = false := decide_eq_false (by omega)
  have t2 : decide ((140 : Int) < o) = false := decide_eq_false (by omega)
  have t3 : decide ((c : Int) < 0) = false := decide_eq_false (by omega)
  have t4 : decide ((140 : Int) < c) = false := decide_eq_false (by omega)
  have HO : Hid (RL w (repT 0 (preL false)) (.slice none 0 0) w) := Lib.hid (World.ownsRow_nil _ _ _ _)
  clear hT het hv
  go_enter Tryz.func4, Tryz.ntmps4
  go_wp2_with fail
  go_loopw [7, 8] (fun v i wr => ∃ (n : Nat), n ≤ o ∧ i = .int .i64 n ∧ Hid (RL w (repT n (preL false)) v wr) ∧ Hid (Below w.heap.size w wr)) (fun _ i _ => o - (intOf i).toNat)
  case atStart => exact ⟨0, Nat.zero_le _, rfl, HO, HK0⟩
  case round =>
    clear HO HK0
    obtain ⟨n, hn, rfl, HR, HB⟩ := hrel
    by_cases hlt : n < o
    case pos =>
      have hlen := rep_len n (preL false)
      have hp4 : (preL false).length ≤ 4 := by decide
      have hr5 : (repT n (preL false)).length ≤ 1000 := by rw [hlen]; exact Nat.le_trans (Nat.mul_le_mul (show n ≤ 140 by omega) hp4) (by decide)
      go_wp2_with (at_builtin; refine pa_append rfl _ _ rfl w.heap.size _ (repT n (preL false)) rfl HR.out (preL false) rfl wr.heap.size _ rfl rfl rfl (by omega) w HB.out HB.out.size _ (rep_snoc n _) ?_; intro v2 w2 HR2 HB2)
      go_roundw
      case rel => exact ⟨n + 1, hlt, by go_num, HR2, HB2⟩
      case measure => simp [intOf]; omega
    case neg =>
      obtain rfl : n = o := by omega
      clear hlt hn
      have hlen := rep_len n (preL false)
      have hp4 : (preL false).length ≤ 4 := by decide
      have hr5 : (repT n (preL false)).length ≤ 1000 := by rw [hlen]; exact Nat.le_trans (Nat.mul_le_mul ho hp4) (by decide)
      have HR5 := Lib.hid hr5
      go_wp2_with (at_builtin; refine pa_append rfl _ _ rfl w.heap.size _ (repT n (preL false)) rfl HR.out [120] rfl wr.heap.size _ rfl rfl rfl (by show _ + 1 ≤ _; omega) w HB.out HB.out.size _ rfl ?_; intro v2 w2 HR2 HB2)
      clear HR HB hlen hp4 hr5
      go_loopw [7, 9] (fun v i wr => ∃ (k : Nat), k ≤ c ∧ i = .int .i64 k ∧ Hid (RL w (repT n (preL false) ++ [120] ++ repT k [43, 120]) v wr) ∧ Hid (Below w.heap.size w wr)) (fun _ i _ => c - (intOf i).toNat)
      case atStart => exact ⟨0, Nat.zero_le _, rfl, Lib.hid (by rw [rep_zero, List.append_nil]; exact HR2.out), HB2⟩
      case round =>
        clear HR2 HB2
        obtain ⟨k, hk, rfl, HR, HB⟩ := hrel
        by_cases hlt : k < c
        case pos =>
          have hr5 := HR5.out
          have hlen : (repT n (preL false) ++ [120] ++ repT k [43, 120]).length ≤ 2000 := by rw [List.length_append, List.length_append, rep_len k]; simp; omega
          go_wp2_with (at_builtin; refine pa_append rfl _ _ rfl w.heap.size _ (repT n (preL false) ++ [120] ++ repT k [43, 120]) rfl HR.out [43, 120] rfl wr.heap.size _ rfl rfl rfl (by show _ + 2 ≤ _; omega) w HB.out HB.out.size _ rfl ?_; intro v2 w2 HR2 HB2)
          go_roundw
          case rel => exact ⟨k + 1, hlt, by go_num, Lib.hid (by rw [rep_snoc, ← List.append_assoc]; exact HR2.out), HB2⟩
          case measure => simp [intOf]; omega
        case neg =>
          obtain rfl : k = c := by omega
          clear hlt hk
          go_wp2_with fail
          go_loopw [7, 10] (fun v i wr => ∃ (m : Nat), m ≤ n ∧ i = .int .i64 m ∧ Hid (RL w (repT n (preL false) ++ [120] ++ repT k [43, 120] ++ repT m [41]) v wr) ∧ Hid (Below w.heap.size w wr)) (fun _ i _ => n - (intOf i).toNat)
          case atStart => exact ⟨0, Nat.zero_le _, rfl, Lib.hid (by rw [rep_zero, List.append_nil]; exact HR.out), HB⟩
          case round =>
            clear HR HB
            obtain ⟨m, hm, rfl, HR, HB⟩ := hrel
            by_cases hlt : m < n
            case pos =>
              have hr5 := HR5.out
              have hlen : (repT n (preL false) ++ [120] ++ repT k [43, 120] ++ repT m [41]).length ≤ 3000 := by rw [List.length_append, List.length_append, List.length_append, rep_len k, rep_len m]; simp; omega
              go_wp2_with (at_builtin; refine pa_append rfl _ _ rfl w.heap.size _ (repT n (preL false) ++ [120] ++ repT k [43, 120] ++ repT m [41]) rfl HR.out [41] rfl wr.heap.size _ rfl rfl rfl (by show _ + 1 ≤ _; omega) w HB.out HB.out.size _ rfl ?_; intro v2 w2 HR2 HB2)
              go_roundw
              case rel => exact ⟨m + 1, hlt, by go_num, Lib.hid (by rw [rep_snoc, ← List.append_assoc]; exact HR2.out), HB2⟩
              case measure => simp [intOf]; omega
            case neg =>
              obtain rfl : m = n := by omega
              clear hlt hm
              have HR : Hid (RL w (deepL m k false) _ wr) := HR
              have hcv := pa_text HR.out (by unfold deepL; simp)
              have hsz : (⟨(deepL m k false).toArray⟩ : ByteArray).size ≤ 4294967296 := by rw [lx_size]; have := deep_len m k false; omega
              have HXc := Lib.hid (HX.out _ wr hsz HB.out)
              generalize hY : (⟨(deepL m k false).toArray⟩ : ByteArray) = Y at hcv HXc
              have hYl : Y.data.toList = deepL m k false := by rw [← hY]
              rw [hYl] at HXc
              clear hsz hY hYl HR5 HX HR
              have HBs := Lib.hid HB.out.size
              by_cases hok : m ≤ 128 ∧ k + 1 ≤ 64
              case pos =>
                obtain ⟨L, hL, hLl⟩ := HD.out.1 hok
                have hYc := HXc.out
                rw [hL] at hYc
                have HXd : Hid (Calls Tryz.prog 6 #[.string Y] wr fun e w' => ∃ va vc, e = .returned (.tuple #[.slice va (2 * k + 1) vc, failV 0 0 0]) ∧ Below wr.heap.size wr w') := Lib.hid (hYc.mono (by
                  intro e w' h
                  obtain ⟨⟨v, he, ht⟩, hb⟩ := h
                  obtain ⟨va, vc, rfl⟩ := ht.slice
                  exact ⟨va, vc, by rw [he, hLl]; rfl, hb⟩))
                have u1 : decide ((128 : Int) < m) = false := decide_eq_false (by omega)
                have u2 : decide ((64 : Int) < (k : Int) + 1) = false := decide_eq_false (by omega)
                have q1 : ∀ w1, (Op.equalIn 10000 26 (.agg #[.int .i64 0, .int .i64 0, .int .i64 0]) (.agg #[.int .i64 0, .int .i64 0, .int .i64 0])).run Tryz.prog w1 = .ok true w1 := fun w1 => failEq 0 0 0 0 0 0 w1
                clear hYc hL hLl HXc HD hok
                unfold failV at HXd
                go_wp2_with fail
                refine HXd.out.mono ?_
                rintro e w3 ⟨va, vc, rfl, k3⟩
                have HB3 := Lib.hid (HB.out.trans (k3.mono HBs.out))
                have hb4 := HB3.out.alloc HB3.out.size (.cells #[.int .i64 0, .int .i64 0, .int .i64 0] 26)
                have H1 := Lib.hid (HAw.out _ hb4)
                have HB4 := Lib.hid hb4
                clear k3 hb4 hcv
                obtain ⟨len, hlen⟩ : ∃ len : Nat, len = 2 * k + 1 := ⟨_, rfl⟩
                rw [← hlen]
                have hlen2 : (len : Int) = 1 + 2 * (k : Int) + ((k : Int) + 1) - k - 1 := by omega
                clear hlen
                go_wp2_with fail
                refine H1.out.mono ?_
                rintro e w4 ⟨rfl, k4⟩
                have HB5 := Lib.hid (HB4.out.trans (k4.mono HB4.out.size))
                clear k4
                go_wp2_with fail
                go_ret
                exact ⟨by rfl, HB5.out⟩
              case neg =>
                obtain ⟨col, hL⟩ := HD.out.2 hok
                have hYc := HXc.out
                rw [hL] at hYc
                have HXd : Hid (Calls Tryz.prog 6 #[.string Y] wr fun e w' => e = .returned (.tuple #[.slice none 0 0, failV 13 1 col]) ∧ Below wr.heap.size wr w') := Lib.hid (hYc.mono (by
                  intro e w' h
                  obtain ⟨⟨_, he⟩, hb⟩ := h
                  exact ⟨he, hb⟩))
                have hu : decide ((128 : Int) < m) = true ∨ (decide ((128 : Int) < m) = false ∧ decide ((64 : Int) < (k : Int) + 1) = true) := by
                  by_cases h : 128 < m
                  · exact .inl (decide_eq_true (by omega))
                  · exact .inr ⟨decide_eq_false (by omega), decide_eq_true (by omega)⟩
                clear hYc hL HXc HD hok
                unfold failV at HXd
                go_wp2_with fail
                refine HXd.out.mono ?_
                rintro e w3 ⟨rfl, k3⟩
                have HB3 := Lib.hid (HB.out.trans (k3.mono HBs.out))
                have hb4 := HB3.out.alloc HB3.out.size (.cells #[.int .i64 (13 : Nat), .int .i64 (1 : Nat), .int .i64 (col : Nat)] 26)
                have H1 := Lib.hid (HAw.out _ hb4)
                have HB4 := Lib.hid hb4
                clear k3 hb4 hcv
                rcases hu with u1 | ⟨u1, u2⟩
                all_goals (
                  go_wp2_with fail
                  refine H1.out.mono ?_
                  rintro e w4 ⟨rfl, k4⟩
                  have HB5 := Lib.hid (HB4.out.trans (k4.mono HB4.out.size))
                  clear k4
                  go_wp2_with fail
                  go_ret
                  exact ⟨by rfl, HB5.out⟩)
theorem walk (x y : Int) (b : Bool) (w : World) (hT : LexT w) (het : ErrT w) (hv : ∃ a, ErrR w a) :
    Calls Tryz.prog 4 #[.int .i64 x, .int .i64 y, .bool b] w fun e w' => e = .returned (.bool true) ∧ Below w.heap.size w w' := by
  obtain ⟨a, hv⟩ := hv
  by_cases h : x < 0 ∨ 140 < x ∨ y < 0 ∨ 140 < y
  · exact walk0 x y b a w hT het hv h
  · obtain ⟨o, rfl⟩ : ∃ o : Nat, x = o := ⟨x.toNat, by omega⟩
    obtain ⟨c, rfl⟩ : ∃ c : Nat, y = c := ⟨y.toNat, by omega⟩
    cases b with
    | true => exact walk_true o c (by omega) (by omega) a w hT het hv
    | false => exact walk_false o c (by omega) (by omega) a w hT het hv
end Go.Proofs.YtmknmmbfaljkbaaGreatDoor.parseDeep
