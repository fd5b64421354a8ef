/- Contracts of a lower layer, several texts in one. -/
import Derived.Test.YtojabkhfkbfeaaaGreatDoorTreeAllB
import Derived.Test.YtojabkhfkbfeaaaGreatDoorTreeMeas
/- TreeComes -/
namespace Go.Proofs.YtojabkhfkbfeaaaGreatDoor
open Go.RowKit
set_option linter.unusedVariables false

/-- Settings gone through from a place on: the place behind them. -/
def setsR (l : List Ex) : List Se → Int → Option Int
  | [], b => some b
  | s :: r, b => if (nameB s.n.t && wholeB l b s.e) = true then setsR l r (s.e + 1) else none
theorem sets_run (l : List Ex) : ∀ (ss : List Se) (b : Int), setsB l ss b = match setsR l ss b with | some c => decide (c = (l.length : Int)) | none => false
  | [], b => rfl
  | s :: r, b => by
    rw [setsB, setsR, sets_run l r]
    cases nameB s.n.t && wholeB l b s.e <;> simp
/-- What rightTrans keeps in blocks of its own: the transition, where what comes begins, and the function. -/
structure TrSt (w0 w : World) (na : Option Addr) (nc nl : Nat) (b : Int) : Prop where
  below : Below w0.heap.size w0 w
  nodes : w.cell? ⟨w0.heap.size, 10, none⟩ = some (.slice na nl nc)
  comes : w.cell? ⟨w0.heap.size + 2, 0, none⟩ = some (.func (.func 100) #[] #[.pointer (some ⟨w0.heap.size, 0, none⟩), .pointer (some ⟨w0.heap.size + 1, 0, none⟩)])
  begin' : w.cell? ⟨w0.heap.size + 1, 0, none⟩ = some (.int .i64 b)
  free : w.frozen? ⟨w0.heap.size + 1, 0, none⟩ = false
  size : w0.heap.size + 2 < w.heap.size
theorem TrSt.keep {w0 w w' : World} {na : Option Addr} {nc nl : Nat} {b : Int} (h : TrSt w0 w na nc nl b) (k : Below w.heap.size w w') : TrSt w0 w' na nc nl b :=
  ⟨h.below.trans (k.mono h.below.size), cellC k h.nodes, cellC k h.comes, cellC k h.begin', (k.frozen (p := ⟨w0.heap.size + 1, 0, none⟩) (by have := h.size; show w0.heap.size + 1 < _; omega)).trans h.free, Nat.lt_of_lt_of_le h.size k.size⟩
abbrev Ks (w0 : World) : Nat → Prop := fun k => k = w0.heap.size + 1
theorem TrSt.put {w0 w : World} {na : Option Addr} {nc nl : Nat} {b : Int} (h : TrSt w0 w na nc nl b) (c : Int) : TrSt w0 (w.setCell ⟨w0.heap.size + 1, 0, none⟩ (.int .i64 c)) na nc nl c :=
  ⟨h.below.setCell (by simp) _, (World.cell?_setCell_other _ _ _ _ (by simp)).trans h.nodes, (World.cell?_setCell_other _ _ _ _ (by simp)).trans h.comes, World.cell?_setCell_same _ _ _ h.begin', by rw [World.frozen?_setCell]; exact h.free, by rw [World.size_setCell]; exact h.size⟩
theorem kp_cell {S : Nat → Prop} {w w' : World} {g o : Nat} {v : Value} (k : Kp S w w') (hS : ¬ S g) (h : w.cell? ⟨g, o, none⟩ = some v) : w'.cell? ⟨g, o, none⟩ = some v :=
  (World.cell?_of_block (a := ⟨g, o, none⟩) (k.block g (block_lt_of_cell h) hS)).trans h

set_option maxHeartbeats 2000000 in
set_option maxRecDepth 100000 in
theorem comes_calls (na : Option Addr) (nc : Nat) (ns : List Ex) (w0 : World) {T : TypeId} {O : Prop} (hN : GIn rEx T O 10 w0 na ns.length ns) (hW : Wds w0) (hl : ns.length ≤ 1000000) (root b : Int) (w : World) (h : TrSt w0 w na nc ns.length b) :
    Calls Tryz.prog 100 #[.int .i64 root, .pointer (some ⟨w0.heap.size, 0, none⟩), .pointer (some ⟨w0.heap.size + 1, 0, none⟩)] w fun e w' => e = .returned (.bool (wholeB ns b root)) ∧ TrSt w0 w' na nc ns.length (if wholeB ns b root = true then root + 1 else b) ∧ Kp (Ks w0) w w' := by
  have HM := Lib.hid (measure_calls na ns.length nc ns root w (hN.belowF h.below) (hW.below h.below) hl)
  have h1 := meas_size ns root
  have h2 := meas_depth ns root
  have HT := Lib.hid h
  have z0 := h.nodes
  have hout : sizeT ns root ≠ 0 → 0 ≤ root ∧ root < 1000000 := fun hz => by
    by_cases hr : root < 0 ∨ (ns.length : Int) ≤ root
    · exact absurd (sizeT_out hr) hz
    · omega
  have hle : sizeT ns root ≠ 0 → (sizeT ns root : Int) ≤ root + 1 := fun hz => by
    have h3 := sizeT_le ns root.toNat
    rw [show ((root.toNat : Nat) : Int) = root by have := hout hz; omega] at h3
    have := hout hz
    omega
  have HV : Hid (wholeB ns b root = (decide (sizeT ns root ≠ 0) && decide (root - (sizeT ns root : Nat) + 1 = b) && decide (depthT ns root ≤ 64))) := Lib.hid rfl
  generalize wholeB ns b root = r at HV
  generalize measT ns root = me at HM h1 h2
  obtain ⟨sz, dp⟩ := me
  simp only at h1 h2 HM
  have hsn := hN.small
  clear hN hW h
  by_cases hz : sizeT ns root = 0
  case pos =>
    have hr : r = false := by rw [HV.out, hz]; rfl
    subst hr
    rw [hz] at h1
    have t0 : (sz == 0) = true := by rw [h1]; rfl
    clear h1 h2 hout hle hz HV
    go_enter Tryz.func100, Tryz.ntmps100
    go_wp2_with fail
    refine HM.out.mono ?_
    rintro e w1 ⟨rfl, k1⟩
    go_wp2_with fail
    go_ret
    exact ⟨rfl, HT.out.keep k1, Kp.of_below k1⟩
  rw [if_neg hz] at h2
  have t0 : (sz == 0) = false := by rw [beq_eq_false_iff_ne]; omega
  obtain ⟨ho1, ho2⟩ := hout hz
  have hl2 := hle hz
  by_cases hd : depthT ns root ≤ 64
  case neg =>
    have hr : r = false := by rw [HV.out, decide_eq_false hd, Bool.and_false]
    subst hr
    have t1 : decide (64 < dp) = true := decide_eq_true (by omega)
    clear h1 h2 hout hle hz HV hd hl2
    go_enter Tryz.func100, Tryz.ntmps100
    go_wp2_with fail
    refine HM.out.mono ?_
    rintro e w1 ⟨rfl, k1⟩
    go_wp2_with fail
    go_ret
    exact ⟨rfl, HT.out.keep k1, Kp.of_below k1⟩
  have t1 : decide (64 < dp) = false := decide_eq_false (by omega)
  obtain ⟨i1, i2⟩ : -9223372036854775808 ≤ root + 1 ∧ root + 1 ≤ 9223372036854775807 := by omega
  obtain ⟨i3, i4⟩ : -9223372036854775808 ≤ root + 1 - sz ∧ root + 1 - sz ≤ 9223372036854775807 := by omega
  by_cases hb : root - (sizeT ns root : Nat) + 1 = b
  case neg =>
    have hr : r = false := by rw [HV.out, decide_eq_false hb, Bool.and_false]; rfl
    subst hr
    have t2 : (root + 1 - sz != b) = true := by rw [bne_iff_ne]; omega
    clear h1 h2 hout hle hz HV hd hl2 hb
    go_enter Tryz.func100, Tryz.ntmps100
    go_wp2_with fail
    refine HM.out.mono ?_
    rintro e w1 ⟨rfl, k1⟩
    have y0 := (HT.out.keep k1).begin'
    go_wp2_with fail
    go_ret
    exact ⟨rfl, HT.out.keep k1, Kp.of_below k1⟩
  case pos =>
    have hr : r = true := by rw [HV.out, decide_eq_true hb, decide_eq_true hd, decide_eq_true hz]; rfl
    subst hr
    have t2 : (root + 1 - sz != b) = false := by simp; omega
    clear h1 h2 hout hle hz HV hd hl2 hb
    go_enter Tryz.func100, Tryz.ntmps100
    go_wp2_with fail
    refine HM.out.mono ?_
    rintro e w1 ⟨rfl, k1⟩
    have y0 := (HT.out.keep k1).begin'
    have y1 := (HT.out.keep k1).free
    go_wp2_with fail
    go_ret
    exact ⟨rfl, (HT.out.keep k1).put _, (Kp.of_below (S := Ks w0) k1).set rfl _⟩

set_option maxHeartbeats 2000000 in
set_option maxRecDepth 100000 in
theorem set_calls (na : Option Addr) (nc : Nat) (ns : List Ex) (w0 : World) {T : TypeId} {O : Prop} (hN : GIn rEx T O 10 w0 na ns.length ns) (hW : Wds w0) (hl : ns.length ≤ 1000000) (x : Se) (b : Int) (w : World) (h : TrSt w0 w na nc ns.length b) (hok : okS x.n.t) :
    Calls Tryz.prog 102 #[.agg #[.string x.n.t, .int .i64 x.n.l, .int .i64 x.n.c, .int .i64 x.e], .pointer (some ⟨w0.heap.size + 2, 0, none⟩)] w fun e w' => e = .returned (.bool (nameB x.n.t && wholeB ns b x.e)) ∧ (∃ c, TrSt w0 w' na nc ns.length c ∧ ((nameB x.n.t && wholeB ns b x.e) = true → c = x.e + 1)) ∧ Kp (Ks w0) w w' := by
  have eg : ∀ args w, (callFunc 100 args).run Tryz.prog w = .ok (.enter 100 args) w := enters_of Tryz.func100 (by kernel_rfl) rfl
  have HB : Hid (Below w.heap.size w (w.alloc (.cells #[.string x.n.t, .int .i64 x.n.l, .int .i64 x.n.c, .int .i64 x.e] 92))) := Lib.hid ((Below.refl w.heap.size w).alloc (Nat.le_refl _) _)
  have HK0 : Hid (Below (w.heap.size + 1) (w.alloc (.cells #[.string x.n.t, .int .i64 x.n.l, .int .i64 x.n.c, .int .i64 x.e] 92)) (w.alloc (.cells #[.string x.n.t, .int .i64 x.n.l, .int .i64 x.n.c, .int .i64 x.e] 92))) := Lib.hid (Below.refl _ _)
  have HN := Lib.hid (rightName_calls x.n _ hok (hW.below (h.below.trans (HB.out.mono h.below.size))))
  have HT := Lib.hid h
  have HC := Lib.hid (fun w1 (h1 : TrSt w0 w1 na nc ns.length b) => comes_calls na nc ns w0 hN hW hl x.e b w1 h1)
  clear hok hN hW h
  generalize wholeB ns b x.e = r at HC
  cases e : nameB x.n.t
  · rw [e] at HN
    clear e
    go_enter Tryz.func102, Tryz.ntmps102
    go_wp2_with fail
    refine HN.out.mono ?_
    rintro e w1 ⟨rfl, k1⟩
    have HB1 := Lib.hid (HB.out.trans (k1.mono HB.out.size))
    clear k1
    go_wp2_with fail
    go_ret
    exact ⟨rfl, ⟨b, HT.out.keep HB1.out, fun h => by simp at h⟩, Kp.of_below HB1.out⟩
  · rw [e] at HN
    clear e
    go_enter Tryz.func102, Tryz.ntmps102
    go_wp2_with fail
    refine HN.out.mono ?_
    rintro e w1 ⟨rfl, k1⟩
    have HB1 := Lib.hid (HB.out.trans (k1.mono HB.out.size))
    have HK1 := Lib.hid (below1_step HK0.out (by simp) k1)
    have HT1 := Lib.hid (HT.out.keep HB1.out)
    have y0 := box1 HK1.out 3 _ rfl
    have y1 := HT1.out.comes
    clear k1
    go_wp2_with fail
    refine (HC.out _ HT1.out).mono ?_
    rintro e w2 ⟨rfl, ht2, k2⟩
    have HX := Lib.hid (And.intro ht2 k2)
    clear ht2 k2
    go_wp2_with fail
    go_ret
    refine ⟨rfl, ⟨_, HX.out.1, fun h => ?_⟩, (Kp.of_below HB1.out).trans HX.out.2⟩
    rw [if_pos (by simpa using h)]

set_option maxHeartbeats 2000000 in
set_option maxRecDepth 100000 in
theorem allSe1_calls (na : Option Addr) (nc : Nat) (ns : List Ex) (w0 : World) {T : TypeId} {O : Prop} (hN : GIn rEx T O 10 w0 na ns.length ns) (hW : Wds w0) (hl : ns.length ≤ 1000000) (x : Se) (b : Int) (hb : Nat) (w : World) (h : TrSt w0 w na nc ns.length b) (hok : okS x.n.t) (hc : w.cell? ⟨hb, 0, none⟩ = some (.func (.func 102) #[] #[.pointer (some ⟨w0.heap.size + 2, 0, none⟩)])) :
    Calls Tryz.prog 126 #[.agg #[.string x.n.t, .int .i64 x.n.l, .int .i64 x.n.c, .int .i64 x.e], .pointer (some ⟨hb, 0, none⟩)] w fun e w' => e = .returned (.bool (!(nameB x.n.t && wholeB ns b x.e))) ∧ (∃ c, TrSt w0 w' na nc ns.length c ∧ ((nameB x.n.t && wholeB ns b x.e) = true → c = x.e + 1)) ∧ Kp (Ks w0) w w' := by
  have eg : ∀ args w, (callFunc 102 args).run Tryz.prog w = .ok (.enter 102 args) w := enters_of Tryz.func102 (by kernel_rfl) rfl
  have hlt : hb < w.heap.size := block_lt_of_cell hc
  have HB : Hid (Below w.heap.size w (w.alloc (.cells #[.string x.n.t, .int .i64 x.n.l, .int .i64 x.n.c, .int .i64 x.e] 92))) := Lib.hid ((Below.refl w.heap.size w).alloc (Nat.le_refl _) _)
  have HC := Lib.hid (set_calls na nc ns w0 hN hW hl x b _ (h.keep HB.out) hok)
  clear hok hN hW h
  generalize (nameB x.n.t && wholeB ns b x.e) = r at HC
  go_enter Tryz.func126, Tryz.ntmps126
  go_wp2_with fail
  refine HC.out.mono ?_
  rintro e w1 ⟨rfl, ht1, k1⟩
  have HX := Lib.hid (And.intro ht1 k1)
  clear ht1 k1
  go_wp2_with fail
  go_ret
  exact ⟨rfl, HX.out.1, (Kp.of_below HB.out).trans HX.out.2⟩

set_option maxHeartbeats 2000000 in
set_option maxRecDepth 100000 in
theorem indexSe_calls (na : Option Addr) (nc : Nat) (ns : List Ex) (w0 : World) {T : TypeId} {O : Prop} (hN : GIn rEx T O 10 w0 na ns.length ns) (hW : Wds w0) (hl : ns.length ≤ 1000000) {T' : TypeId} {O' : Prop} (a : Option Addr) (len cap : Nat) (L : List Se) (b : Int) (hb : Nat) (w : World) (h : TrSt w0 w na nc ns.length b) (hS : GIn rSe T' O' 4 w0 a len L) (hc : w.cell? ⟨hb, 0, none⟩ = some (.func (.func 102) #[] #[.pointer (some ⟨w0.heap.size + 2, 0, none⟩)])) (hne : w0.heap.size + 2 < hb) :
    Calls Tryz.prog 132 #[.slice a len cap, .func (.func 126) #[] #[.pointer (some ⟨hb, 0, none⟩)]] w fun e w' => (∃ i : Int, e = .returned (.int .i64 i) ∧ decide (0 ≤ i) = !(setsR ns L b).isSome) ∧ (∃ c, TrSt w0 w' na nc ns.length c ∧ (∀ d, setsR ns L b = some d → c = d)) ∧ Kp (Ks w0) w w' := by
  have H := Lib.hid hS
  have HL := Lib.hid hS.leng
  have hsm := hS.small
  have HF := Lib.hid hc
  have HT0 := Lib.hid h
  have HC := Lib.hid (fun (x : Se) (c : Int) w1 (h1 : TrSt w0 w1 na nc ns.length c) (hok : okS x.n.t) hc1 => allSe1_calls na nc ns w0 hN hW hl x c hb w1 h1 hok hc1)
  have eg : ∀ args w, (callFunc 126 args).run Tryz.prog w = .ok (.enter 126 args) w := enters_of Tryz.func126 (by kernel_rfl) rfl
  clear hS hc h hN hW
  go_enter Tryz.func132, Tryz.ntmps132
  go_wp2_with fail
  go_loopw [8] (fun i wr => ∃ (n : Nat) (c : Int), n ≤ len ∧ i = .int .i64 n ∧ Hid (setsR ns L b = setsR ns (L.drop n) c) ∧ Hid (TrSt w0 wr na nc ns.length c) ∧ Hid (Kp (Ks w0) w wr)) (fun i _ => len - (intOf i).toNat)
  case atStart => exact ⟨0, b, Nat.zero_le _, rfl, Lib.hid rfl, HT0, Lib.hid (Kp.refl _ _)⟩
  case round =>
    obtain ⟨n, c, hn, rfl, HQ, HT, HP⟩ := hrel
    by_cases hlt : n < len
    case neg =>
      have HX : Hid (setsR ns L b = some c) := Lib.hid (by rw [HQ.out, List.drop_eq_nil_iff.2 (by rw [HL.out]; omega)]; rfl)
      go_wp2_with fail
      go_ret
      exact ⟨⟨-1, rfl, by rw [HX.out]; rfl⟩, ⟨c, HT.out, fun d hd => by rw [HX.out] at hd; exact Option.some.inj hd⟩, HP.out⟩
    case pos =>
      obtain ⟨x, hx⟩ := at_some HL.out hlt
      obtain ⟨g, off, rfl, hg, hd, hok⟩ := (H.out.belowF HT.out.below).flat hx
      have c0 : wr.cell? ⟨g, off + n * 4, none⟩ = some (.string x.n.t) := hd 0 _ rfl
      have c1 : wr.cell? ⟨g, off + n * 4 + 1, none⟩ = some (.int .i64 x.n.l) := hd 1 _ rfl
      have c2 : wr.cell? ⟨g, off + n * 4 + 2, none⟩ = some (.int .i64 x.n.c) := hd 2 _ rfl
      have c3 : wr.cell? ⟨g, off + n * 4 + 3, none⟩ = some (.int .i64 x.e) := hd 3 _ rfl
      have HCx := Lib.hid (HC.out x c wr HT.out hok (kp_cell HP.out (fun (k : hb = w0.heap.size + 1) => by omega) HF.out))
      have HD := Lib.hid (all_drop hx)
      clear hd hx hok
      cases e : (nameB x.n.t && wholeB ns c x.e)
      · rw [e] at HCx
        have HX : Hid (setsR ns L b = none) := Lib.hid (by rw [HQ.out, HD.out, setsR, e]; rfl)
        clear e
        go_wp2_with fail
        refine HCx.out.mono ?_
        rintro e w1 ⟨rfl, ⟨c1, ht1, _⟩, k1⟩
        have HY := Lib.hid (And.intro ht1 k1)
        clear ht1 k1
        go_wp2_with fail
        go_ret
        exact ⟨⟨n, rfl, by rw [HX.out]; exact decide_eq_true (by omega)⟩, ⟨c1, HY.out.1, fun d hd => by rw [HX.out] at hd; cases hd⟩, HP.out.trans HY.out.2⟩
      · rw [e] at HCx
        have HX : Hid (setsR ns L b = setsR ns (L.drop (n + 1)) (x.e + 1)) := Lib.hid (by rw [HQ.out, HD.out, setsR, e, if_pos rfl])
        clear e
        go_wp2_with fail
        refine HCx.out.mono ?_
        rintro e w1 ⟨rfl, ⟨c1, ht1, hc1⟩, k1⟩
        obtain rfl := hc1 trivial
        have HY1 := Lib.hid ht1
        have HY2 := Lib.hid (HP.out.trans k1)
        clear ht1 k1 hc1
        go_wp2_with fail
        go_roundw
        case rel => exact ⟨n + 1, x.e + 1, hlt, by go_num, HX, HY1, HY2⟩
        case measure => simp [intOf] <;> omega

set_option maxHeartbeats 1000000 in
set_option maxRecDepth 100000 in
theorem containsSe_calls (na : Option Addr) (nc : Nat) (ns : List Ex) (w0 : World) {T : TypeId} {O : Prop} (hN : GIn rEx T O 10 w0 na ns.length ns) (hW : Wds w0) (hl : ns.length ≤ 1000000) {T' : TypeId} {O' : Prop} (a : Option Addr) (len cap : Nat) (L : List Se) (b : Int) (hb : Nat) (w : World) (h : TrSt w0 w na nc ns.length b) (hS : GIn rSe T' O' 4 w0 a len L) (hc : w.cell? ⟨hb, 0, none⟩ = some (.func (.func 102) #[] #[.pointer (some ⟨w0.heap.size + 2, 0, none⟩)])) (hne : w0.heap.size + 2 < hb) :
    Calls Tryz.prog 125 #[.slice a len cap, .func (.func 126) #[] #[.pointer (some ⟨hb, 0, none⟩)]] w fun e w' => e = .returned (.bool (!(setsR ns L b).isSome)) ∧ (∃ c, TrSt w0 w' na nc ns.length c ∧ (∀ d, setsR ns L b = some d → c = d)) ∧ Kp (Ks w0) w w' := by
  have H1 := Lib.hid (indexSe_calls na nc ns w0 hN hW hl a len cap L b hb w h hS hc hne)
  clear h hS hc hN hW
  go_enter Tryz.func125, Tryz.ntmps125
  go_wp2_with fail
  refine H1.out.mono ?_
  rintro e w1 ⟨⟨i, rfl, hi⟩, h2⟩
  have HI := Lib.hid hi
  have HX := Lib.hid h2
  clear hi h2
  go_wp2_with fail
  go_ret
  exact ⟨by rw [← HI.out]; rfl, HX.out⟩

set_option maxHeartbeats 1000000 in
set_option maxRecDepth 100000 in
theorem allSe_calls (na : Option Addr) (nc : Nat) (ns : List Ex) (w0 : World) {T : TypeId} {O : Prop} (hN : GIn rEx T O 10 w0 na ns.length ns) (hW : Wds w0) (hl : ns.length ≤ 1000000) {T' : TypeId} {O' : Prop} (a : Option Addr) (len cap : Nat) (L : List Se) (b : Int) (w : World) (h : TrSt w0 w na nc ns.length b) (hS : GIn rSe T' O' 4 w0 a len L) :
    Calls Tryz.prog 101 #[.slice a len cap, .func (.func 102) #[] #[.pointer (some ⟨w0.heap.size + 2, 0, none⟩)]] w fun e w' => e = .returned (.bool (setsR ns L b).isSome) ∧ (∃ c, TrSt w0 w' na nc ns.length c ∧ (∀ d, setsR ns L b = some d → c = d)) ∧ Kp (Ks w0) w w' := by
  have HB : Hid (Below w.heap.size w (w.alloc (.cells #[.func (.func 102) #[] #[.pointer (some ⟨w0.heap.size + 2, 0, none⟩)]] 126))) := Lib.hid ((Below.refl w.heap.size w).alloc (Nat.le_refl _) _)
  have H1 := Lib.hid (containsSe_calls na nc ns w0 hN hW hl a len cap L b w.heap.size _ (h.keep HB.out) hS (by rw [World.cell?_alloc_at (hn := rfl)]; rfl) h.size)
  clear h hS hN hW
  generalize (setsR ns L b).isSome = r at H1
  go_enter Tryz.func101, Tryz.ntmps101
  go_wp2_with fail
  refine H1.out.mono ?_
  rintro e w1 ⟨rfl, ht1, k1⟩
  have HX := Lib.hid (And.intro ht1 k1)
  clear ht1 k1
  go_wp2_with fail
  go_ret
  exact ⟨rfl, HX.out.1, (Kp.of_below HB.out).trans HX.out.2⟩
end Go.Proofs.YtojabkhfkbfeaaaGreatDoor

/- TreeTransF -/
namespace Go.Proofs.YtojabkhfkbfeaaaGreatDoor
open Go.RowKit
set_option linter.unusedVariables false

theorem cell3 {w w1 : World} {A B C : List Value} {T U V : TypeId} (k : Below (w.heap.size + 3) (((w.alloc (.cells A.toArray T)).alloc (.cells B.toArray U)).alloc (.cells C.toArray V)) w1) : ∀ j v, A[j]? = some v → w1.cell? ⟨w.heap.size, j, none⟩ = some v := by
  intro j v h
  rw [k.cell (p := ⟨w.heap.size, j, none⟩) (by simp)]
  have h0 : ((w.alloc (.cells A.toArray T)).alloc (.cells B.toArray U)).cell? ⟨w.heap.size, j, none⟩ = some v := (box2 (Below.refl _ _)).1 j v h
  exact cellC ((Below.refl _ _).alloc (Nat.le_refl _) _) h0
theorem below3_step {W a b : World} {n : Nat} (h : Below (n + 3) W a) (hW : W.heap.size = n + 3) (k : Below a.heap.size a b) : Below (n + 3) W b :=
  h.trans (k.mono (by have := h.size; omega))
theorem trst0 (x : Ts) (oa : Option Addr) (oc : Nat) (na : Option Addr) (nc : Nat) (sa : Option Addr) (sc : Nat) (w : World) : TrSt w (((w.alloc (.cells #[.string x.f.t, .int .i64 x.f.l, .int .i64 x.f.c, .string x.t.t, .int .i64 x.t.l, .int .i64 x.t.c, .string x.on.n, .slice oa x.on.ar.length oc, .int .i64 x.on.l, .int .i64 x.on.c, .slice na x.ns.length nc, .int .i64 x.g, .slice sa x.ss.length sc] 51)).alloc (.cells #[.int .i64 0] 3)).alloc (.cells #[.func (.func 100) #[] #[.pointer (some ⟨w.heap.size, 0, none⟩), .pointer (some ⟨w.heap.size + 1, 0, none⟩)]] 79)) na nc x.ns.length 0 := by
  refine ⟨?_, ?_, ?_, ?_, ?_, ?_⟩
  · exact (((Below.refl _ _).alloc (Nat.le_refl _) _).alloc (by simp) _).alloc (by simp; omega) _
  · exact cell3 (A := [.string x.f.t, .int .i64 x.f.l, .int .i64 x.f.c, .string x.t.t, .int .i64 x.t.l, .int .i64 x.t.c, .string x.on.n, .slice oa x.on.ar.length oc, .int .i64 x.on.l, .int .i64 x.on.c, .slice na x.ns.length nc, .int .i64 x.g, .slice sa x.ss.length sc]) (B := [.int .i64 0]) (C := [.func (.func 100) #[] #[.pointer (some ⟨w.heap.size, 0, none⟩), .pointer (some ⟨w.heap.size + 1, 0, none⟩)]]) (Below.refl _ _) 10 _ rfl
  · rw [show w.heap.size + 2 = ((w.alloc (.cells #[.string x.f.t, .int .i64 x.f.l, .int .i64 x.f.c, .string x.t.t, .int .i64 x.t.l, .int .i64 x.t.c, .string x.on.n, .slice oa x.on.ar.length oc, .int .i64 x.on.l, .int .i64 x.on.c, .slice na x.ns.length nc, .int .i64 x.g, .slice sa x.ss.length sc] 51)).alloc (.cells #[.int .i64 0] 3)).heap.size by simp, World.cell?_alloc_at (hn := rfl)]; rfl
  · exact cellC ((Below.refl _ _).alloc (Nat.le_refl _) _) ((box2 (A := [.string x.f.t, .int .i64 x.f.l, .int .i64 x.f.c, .string x.t.t, .int .i64 x.t.l, .int .i64 x.t.c, .string x.on.n, .slice oa x.on.ar.length oc, .int .i64 x.on.l, .int .i64 x.on.c, .slice na x.ns.length nc, .int .i64 x.g, .slice sa x.ss.length sc]) (B := [.int .i64 0]) (Below.refl _ _)).2 0 _ rfl)
  · have h : ((w.alloc (.cells #[.string x.f.t, .int .i64 x.f.l, .int .i64 x.f.c, .string x.t.t, .int .i64 x.t.l, .int .i64 x.t.c, .string x.on.n, .slice oa x.on.ar.length oc, .int .i64 x.on.l, .int .i64 x.on.c, .slice na x.ns.length nc, .int .i64 x.g, .slice sa x.ss.length sc] 51)).alloc (.cells #[.int .i64 0] 3)).frozen? ⟨w.heap.size + 1, 0, none⟩ = false := by
      rw [show w.heap.size + 1 = (w.alloc (.cells #[.string x.f.t, .int .i64 x.f.l, .int .i64 x.f.c, .string x.t.t, .int .i64 x.t.l, .int .i64 x.t.c, .string x.on.n, .slice oa x.on.ar.length oc, .int .i64 x.on.l, .int .i64 x.on.c, .slice na x.ns.length nc, .int .i64 x.g, .slice sa x.ss.length sc] 51)).heap.size by simp, World.frozen?_alloc_at (hn := rfl)]
    have k : Below (w.heap.size + 2) ((w.alloc (.cells #[.string x.f.t, .int .i64 x.f.l, .int .i64 x.f.c, .string x.t.t, .int .i64 x.t.l, .int .i64 x.t.c, .string x.on.n, .slice oa x.on.ar.length oc, .int .i64 x.on.l, .int .i64 x.on.c, .slice na x.ns.length nc, .int .i64 x.g, .slice sa x.ss.length sc] 51)).alloc (.cells #[.int .i64 0] 3)) (((w.alloc (.cells #[.string x.f.t, .int .i64 x.f.l, .int .i64 x.f.c, .string x.t.t, .int .i64 x.t.l, .int .i64 x.t.c, .string x.on.n, .slice oa x.on.ar.length oc, .int .i64 x.on.l, .int .i64 x.on.c, .slice na x.ns.length nc, .int .i64 x.g, .slice sa x.ss.length sc] 51)).alloc (.cells #[.int .i64 0] 3)).alloc (.cells #[.func (.func 100) #[] #[.pointer (some ⟨w.heap.size, 0, none⟩), .pointer (some ⟨w.heap.size + 1, 0, none⟩)]] 79)) := (Below.refl _ _).alloc (by simp) _
    exact (k.frozen (p := ⟨w.heap.size + 1, 0, none⟩) (by simp)).trans h
  · simp
theorem trans_eq (x : Ts) : transB x = (nameB x.f.t && (nameB x.t.t && (symB x.on && (if x.g = -1 then setsB x.ns x.ss 0 else wholeB x.ns 0 x.g && setsB x.ns x.ss (x.g + 1))))) := by
  unfold transB
  simp only [Bool.and_assoc]

set_option maxHeartbeats 8000000 in
set_option maxRecDepth 100000 in
theorem cbTs_calls {Y : TyT} {O : Prop} (x : Ts) (cs : List Value) (w : World) (hr : rTs Y O w cs x) (hw : Wds w) (hl : x.ns.length ≤ 1000000) :
    Calls Tryz.prog 48 #[.agg cs.toArray] w fun e w' => e = .returned (.bool (transB x)) ∧ Below w.heap.size w w' := by
  obtain ⟨oa, oc, na, nc, sa, sc, rfl, g1, g2, g3, hf, ht, hon⟩ := hr
  have HT0 := Lib.hid (trst0 x oa oc na nc sa sc w)
  have HK0 : Hid (Below (w.heap.size + 3) (((w.alloc (.cells #[.string x.f.t, .int .i64 x.f.l, .int .i64 x.f.c, .string x.t.t, .int .i64 x.t.l, .int .i64 x.t.c, .string x.on.n, .slice oa x.on.ar.length oc, .int .i64 x.on.l, .int .i64 x.on.c, .slice na x.ns.length nc, .int .i64 x.g, .slice sa x.ss.length sc] 51)).alloc (.cells #[.int .i64 0] 3)).alloc (.cells #[.func (.func 100) #[] #[.pointer (some ⟨w.heap.size, 0, none⟩), .pointer (some ⟨w.heap.size + 1, 0, none⟩)]] 79)) (((w.alloc (.cells #[.string x.f.t, .int .i64 x.f.l, .int .i64 x.f.c, .string x.t.t, .int .i64 x.t.l, .int .i64 x.t.c, .string x.on.n, .slice oa x.on.ar.length oc, .int .i64 x.on.l, .int .i64 x.on.c, .slice na x.ns.length nc, .int .i64 x.g, .slice sa x.ss.length sc] 51)).alloc (.cells #[.int .i64 0] 3)).alloc (.cells #[.func (.func 100) #[] #[.pointer (some ⟨w.heap.size, 0, none⟩), .pointer (some ⟨w.heap.size + 1, 0, none⟩)]] 79))) := Lib.hid (Below.refl _ _)
  have HBK : Hid (∀ w1, Hid (Below (w.heap.size + 3) (((w.alloc (.cells #[.string x.f.t, .int .i64 x.f.l, .int .i64 x.f.c, .string x.t.t, .int .i64 x.t.l, .int .i64 x.t.c, .string x.on.n, .slice oa x.on.ar.length oc, .int .i64 x.on.l, .int .i64 x.on.c, .slice na x.ns.length nc, .int .i64 x.g, .slice sa x.ss.length sc] 51)).alloc (.cells #[.int .i64 0] 3)).alloc (.cells #[.func (.func 100) #[] #[.pointer (some ⟨w.heap.size, 0, none⟩), .pointer (some ⟨w.heap.size + 1, 0, none⟩)]] 79)) w1) → Below w.heap.size w w1) := Lib.hid (fun _ h => HT0.out.below.trans (h.out.mono (Nat.le_add_right _ 3)))
  have HTS : Hid (∀ w1, Hid (Below (w.heap.size + 3) (((w.alloc (.cells #[.string x.f.t, .int .i64 x.f.l, .int .i64 x.f.c, .string x.t.t, .int .i64 x.t.l, .int .i64 x.t.c, .string x.on.n, .slice oa x.on.ar.length oc, .int .i64 x.on.l, .int .i64 x.on.c, .slice na x.ns.length nc, .int .i64 x.g, .slice sa x.ss.length sc] 51)).alloc (.cells #[.int .i64 0] 3)).alloc (.cells #[.func (.func 100) #[] #[.pointer (some ⟨w.heap.size, 0, none⟩), .pointer (some ⟨w.heap.size + 1, 0, none⟩)]] 79)) w1) → TrSt w w1 na nc x.ns.length 0) := Lib.hid (fun _ h => HT0.out.keep (h.out.mono (by simp)))
  have HCE : Hid (∀ w1, Hid (Below (w.heap.size + 3) (((w.alloc (.cells #[.string x.f.t, .int .i64 x.f.l, .int .i64 x.f.c, .string x.t.t, .int .i64 x.t.l, .int .i64 x.t.c, .string x.on.n, .slice oa x.on.ar.length oc, .int .i64 x.on.l, .int .i64 x.on.c, .slice na x.ns.length nc, .int .i64 x.g, .slice sa x.ss.length sc] 51)).alloc (.cells #[.int .i64 0] 3)).alloc (.cells #[.func (.func 100) #[] #[.pointer (some ⟨w.heap.size, 0, none⟩), .pointer (some ⟨w.heap.size + 1, 0, none⟩)]] 79)) w1) → ∀ j v, ([.string x.f.t, .int .i64 x.f.l, .int .i64 x.f.c, .string x.t.t, .int .i64 x.t.l, .int .i64 x.t.c, .string x.on.n, .slice oa x.on.ar.length oc, .int .i64 x.on.l, .int .i64 x.on.c, .slice na x.ns.length nc, .int .i64 x.g, .slice sa x.ss.length sc] : List Value)[j]? = some v → w1.cell? ⟨w.heap.size, j, none⟩ = some v) := Lib.hid (fun _ h => cell3 (A := [.string x.f.t, .int .i64 x.f.l, .int .i64 x.f.c, .string x.t.t, .int .i64 x.t.l, .int .i64 x.t.c, .string x.on.n, .slice oa x.on.ar.length oc, .int .i64 x.on.l, .int .i64 x.on.c, .slice na x.ns.length nc, .int .i64 x.g, .slice sa x.ss.length sc]) (B := [.int .i64 0]) (C := [.func (.func 100) #[] #[.pointer (some ⟨w.heap.size, 0, none⟩), .pointer (some ⟨w.heap.size + 1, 0, none⟩)]]) h.out)
  have HF := Lib.hid (fun w1 (h : Hid (Below (w.heap.size + 3) (((w.alloc (.cells #[.string x.f.t, .int .i64 x.f.l, .int .i64 x.f.c, .string x.t.t, .int .i64 x.t.l, .int .i64 x.t.c, .string x.on.n, .slice oa x.on.ar.length oc, .int .i64 x.on.l, .int .i64 x.on.c, .slice na x.ns.length nc, .int .i64 x.g, .slice sa x.ss.length sc] 51)).alloc (.cells #[.int .i64 0] 3)).alloc (.cells #[.func (.func 100) #[] #[.pointer (some ⟨w.heap.size, 0, none⟩), .pointer (some ⟨w.heap.size + 1, 0, none⟩)]] 79)) w1)) => rightName_calls x.f w1 hf (hw.below (HBK.out _ h)))
  have HTo := Lib.hid (fun w1 (h : Hid (Below (w.heap.size + 3) (((w.alloc (.cells #[.string x.f.t, .int .i64 x.f.l, .int .i64 x.f.c, .string x.t.t, .int .i64 x.t.l, .int .i64 x.t.c, .string x.on.n, .slice oa x.on.ar.length oc, .int .i64 x.on.l, .int .i64 x.on.c, .slice na x.ns.length nc, .int .i64 x.g, .slice sa x.ss.length sc] 51)).alloc (.cells #[.int .i64 0] 3)).alloc (.cells #[.func (.func 100) #[] #[.pointer (some ⟨w.heap.size, 0, none⟩), .pointer (some ⟨w.heap.size + 1, 0, none⟩)]] 79)) w1)) => rightName_calls x.t w1 ht (hw.below (HBK.out _ h)))
  have HSy := Lib.hid (fun w1 (h : Hid (Below (w.heap.size + 3) (((w.alloc (.cells #[.string x.f.t, .int .i64 x.f.l, .int .i64 x.f.c, .string x.t.t, .int .i64 x.t.l, .int .i64 x.t.c, .string x.on.n, .slice oa x.on.ar.length oc, .int .i64 x.on.l, .int .i64 x.on.c, .slice na x.ns.length nc, .int .i64 x.g, .slice sa x.ss.length sc] 51)).alloc (.cells #[.int .i64 0] 3)).alloc (.cells #[.func (.func 100) #[] #[.pointer (some ⟨w.heap.size, 0, none⟩), .pointer (some ⟨w.heap.size + 1, 0, none⟩)]] 79)) w1)) => cbSy_calls (Y := Y) (O := O) x.on [.string x.on.n, .slice oa x.on.ar.length oc, .int .i64 x.on.l, .int .i64 x.on.c] w1 ⟨oa, oc, rfl, g1.belowF (HBK.out _ h), hon⟩ (hw.below (HBK.out _ h)))
  have HCo := Lib.hid (fun w1 (h : TrSt w w1 na nc x.ns.length 0) => comes_calls na nc x.ns w g2 hw hl x.g 0 w1 h)
  have HAl := Lib.hid (fun (b : Int) w1 (h : TrSt w w1 na nc x.ns.length b) => allSe_calls na nc x.ns w g2 hw hl sa x.ss.length sc x.ss b w1 h g3)
  have eg : ∀ args w, (callFunc 100 args).run Tryz.prog w = .ok (.enter 100 args) w := enters_of Tryz.func100 (by kernel_rfl) rfl
  have HV := Lib.hid (trans_eq x)
  have s1 := g1.small
  have s2 := g2.small
  have s3 := g3.small
  clear hw hl hf ht hon g1 g2 g3
  have HSR := Lib.hid (fun b => sets_run x.ns x.ss b)
  cases e0 : nameB x.f.t
  case false =>
    rw [e0] at HF HV
    clear e0
    go_enter Tryz.func48, Tryz.ntmps48
    go_wp2_with fail
    refine (HF.out _ HK0).mono ?_
    rintro e w1 ⟨rfl, k1⟩
    have HK1 := Lib.hid (below3_step HK0.out (by simp) k1)
    clear k1
    go_wp2_with fail
    go_ret
    exact ⟨by rw [HV.out]; rfl, HBK.out _ HK1⟩
  rw [e0] at HF HV
  clear e0
  cases e1 : nameB x.t.t
  case false =>
    rw [e1] at HTo HV
    clear e1
    go_enter Tryz.func48, Tryz.ntmps48
    go_wp2_with fail
    refine (HF.out _ HK0).mono ?_
    rintro e w1 ⟨rfl, k1⟩
    have HK1 := Lib.hid (below3_step HK0.out (by simp) k1)
    clear k1
    have y0_3 := HCE.out _ HK1 3 _ rfl
    have y0_4 := HCE.out _ HK1 4 _ rfl
    have y0_5 := HCE.out _ HK1 5 _ rfl
    go_wp2_with fail
    refine (HTo.out _ HK1).mono ?_
    rintro e w2 ⟨rfl, k2⟩
    have HK2 := Lib.hid (below3_step HK1.out (by simp) k2)
    clear k2
    go_wp2_with fail
    go_ret
    exact ⟨by rw [HV.out]; rfl, HBK.out _ HK2⟩
  rw [e1] at HTo HV
  clear e1
  cases e2 : symB x.on
  case false =>
    rw [e2] at HSy HV
    clear e2
    go_enter Tryz.func48, Tryz.ntmps48
    go_wp2_with fail
    refine (HF.out _ HK0).mono ?_
    rintro e w1 ⟨rfl, k1⟩
    have HK1 := Lib.hid (below3_step HK0.out (by simp) k1)
    clear k1
    have y0_3 := HCE.out _ HK1 3 _ rfl
    have y0_4 := HCE.out _ HK1 4 _ rfl
    have y0_5 := HCE.out _ HK1 5 _ rfl
    go_wp2_with fail
    refine (HTo.out _ HK1).mono ?_
    rintro e w2 ⟨rfl, k2⟩
    have HK2 := Lib.hid (below3_step HK1.out (by simp) k2)
    clear k2
    have y1_6 := HCE.out _ HK2 6 _ rfl
    have y1_7 := HCE.out _ HK2 7 _ rfl
    have y1_8 := HCE.out _ HK2 8 _ rfl
    have y1_9 := HCE.out _ HK2 9 _ rfl
    go_wp2_with fail
    refine (HSy.out _ HK2).mono ?_
    rintro e w3 ⟨rfl, k3⟩
    have HK3 := Lib.hid (below3_step HK2.out (by simp) k3)
    clear k3
    go_wp2_with fail
    go_ret
    exact ⟨by rw [HV.out]; rfl, HBK.out _ HK3⟩
  rw [e2] at HSy HV
  clear e2
  by_cases hg : x.g = -1
  case pos =>
    rw [if_pos hg] at HV
    have t4 : (x.g != -1) = false := by simp [hg]
    clear hg
    go_enter Tryz.func48, Tryz.ntmps48
    go_wp2_with fail
    refine (HF.out _ HK0).mono ?_
    rintro e w1 ⟨rfl, k1⟩
    have HK1 := Lib.hid (below3_step HK0.out (by simp) k1)
    clear k1
    have y0_3 := HCE.out _ HK1 3 _ rfl
    have y0_4 := HCE.out _ HK1 4 _ rfl
    have y0_5 := HCE.out _ HK1 5 _ rfl
    go_wp2_with fail
    refine (HTo.out _ HK1).mono ?_
    rintro e w2 ⟨rfl, k2⟩
    have HK2 := Lib.hid (below3_step HK1.out (by simp) k2)
    clear k2
    have y1_6 := HCE.out _ HK2 6 _ rfl
    have y1_7 := HCE.out _ HK2 7 _ rfl
    have y1_8 := HCE.out _ HK2 8 _ rfl
    have y1_9 := HCE.out _ HK2 9 _ rfl
    go_wp2_with fail
    refine (HSy.out _ HK2).mono ?_
    rintro e w3 ⟨rfl, k3⟩
    have HK3 := Lib.hid (below3_step HK2.out (by simp) k3)
    clear k3
    have y3_11 := HCE.out _ HK3 11 _ rfl
    have y3_12 := HCE.out _ HK3 12 _ rfl
    have HS3 := Lib.hid (HTS.out _ HK3)
    have HSb := Lib.hid (HSR.out (0))
    have HA := Lib.hid (HAl.out (0) _ HS3.out)
    cases eo : setsR x.ns x.ss (0)
    case none =>
      rw [eo] at HA HSb
      simp only at HSb
      rw [HSb.out] at HV
      clear eo
      go_wp2_with fail
      refine HA.out.mono ?_
      rintro e w5 ⟨rfl, ⟨c, hc, _⟩, _⟩
      have HC5 := Lib.hid hc
      clear hc
      go_wp2_with fail
      go_ret
      exact ⟨by rw [HV.out]; rfl, HC5.out.below⟩
    case some d =>
      rw [eo] at HA HSb
      simp only at HSb
      rw [HSb.out] at HV
      clear eo
      go_wp2_with fail
      refine HA.out.mono ?_
      rintro e w5 ⟨rfl, ⟨c, hc, hd⟩, _⟩
      obtain rfl := hd d rfl
      have HC5 := Lib.hid hc
      clear hc hd
      have u0 := HC5.out.begin'
      have u1 := HC5.out.nodes
      have t8 := int_dec c (x.ns.length : Int)
      generalize decide (c = (x.ns.length : Int)) = r at HV t8
      go_wp2_with fail
      go_ret
      exact ⟨by rw [HV.out]; rfl, HC5.out.below⟩
  case neg =>
    rw [if_neg hg] at HV
    have t4 : (x.g != -1) = true := by rw [bne_iff_ne]; exact hg
    clear hg
    cases ew : wholeB x.ns 0 x.g
    case false =>
      rw [ew] at HCo HV
      clear ew
      go_enter Tryz.func48, Tryz.ntmps48
      go_wp2_with fail
      refine (HF.out _ HK0).mono ?_
      rintro e w1 ⟨rfl, k1⟩
      have HK1 := Lib.hid (below3_step HK0.out (by simp) k1)
      clear k1
      have y0_3 := HCE.out _ HK1 3 _ rfl
      have y0_4 := HCE.out _ HK1 4 _ rfl
      have y0_5 := HCE.out _ HK1 5 _ rfl
      go_wp2_with fail
      refine (HTo.out _ HK1).mono ?_
      rintro e w2 ⟨rfl, k2⟩
      have HK2 := Lib.hid (below3_step HK1.out (by simp) k2)
      clear k2
      have y1_6 := HCE.out _ HK2 6 _ rfl
      have y1_7 := HCE.out _ HK2 7 _ rfl
      have y1_8 := HCE.out _ HK2 8 _ rfl
      have y1_9 := HCE.out _ HK2 9 _ rfl
      go_wp2_with fail
      refine (HSy.out _ HK2).mono ?_
      rintro e w3 ⟨rfl, k3⟩
      have HK3 := Lib.hid (below3_step HK2.out (by simp) k3)
      clear k3
      have y3_11 := HCE.out _ HK3 11 _ rfl
      have HS3 := Lib.hid (HTS.out _ HK3)
      have y3_c := HS3.out.comes
      go_wp2_with fail
      refine (HCo.out _ HS3.out).mono ?_
      rintro e w4 ⟨rfl, ht4, k4⟩
      have HS4 := Lib.hid ht4
      clear ht4 k4
      go_wp2_with fail
      go_ret
      exact ⟨by rw [HV.out]; rfl, HS4.out.below⟩
    case true =>
      rw [ew] at HCo HV
      clear ew
      go_enter Tryz.func48, Tryz.ntmps48
      go_wp2_with fail
      refine (HF.out _ HK0).mono ?_
      rintro e w1 ⟨rfl, k1⟩
      have HK1 := Lib.hid (below3_step HK0.out (by simp) k1)
      clear k1
      have y0_3 := HCE.out _ HK1 3 _ rfl
      have y0_4 := HCE.out _ HK1 4 _ rfl
      have y0_5 := HCE.out _ HK1 5 _ rfl
      go_wp2_with fail
      refine (HTo.out _ HK1).mono ?_
      rintro e w2 ⟨rfl, k2⟩
      have HK2 := Lib.hid (below3_step HK1.out (by simp) k2)
      clear k2
      have y1_6 := HCE.out _ HK2 6 _ rfl
      have y1_7 := HCE.out _ HK2 7 _ rfl
      have y1_8 := HCE.out _ HK2 8 _ rfl
      have y1_9 := HCE.out _ HK2 9 _ rfl
      go_wp2_with fail
      refine (HSy.out _ HK2).mono ?_
      rintro e w3 ⟨rfl, k3⟩
      have HK3 := Lib.hid (below3_step HK2.out (by simp) k3)
      clear k3
      have y3_11 := HCE.out _ HK3 11 _ rfl
      have HS3 := Lib.hid (HTS.out _ HK3)
      have y3_c := HS3.out.comes
      go_wp2_with fail
      refine (HCo.out _ HS3.out).mono ?_
      rintro e w4 ⟨rfl, ht4, k4⟩
      rw [if_pos trivial] at ht4
      have HS4 := Lib.hid ht4
      have y4_12 := kp_cell k4 (fun (k : w.heap.size = w.heap.size + 1) => by omega) (HCE.out _ HK3 12 _ rfl)
      clear ht4 k4
      have HSb := Lib.hid (HSR.out (x.g + 1))
      have HA := Lib.hid (HAl.out (x.g + 1) _ HS4.out)
      cases eo : setsR x.ns x.ss (x.g + 1)
      case none =>
        rw [eo] at HA HSb
        simp only at HSb
        rw [HSb.out] at HV
        clear eo
        go_wp2_with fail
        refine HA.out.mono ?_
        rintro e w5 ⟨rfl, ⟨c, hc, _⟩, _⟩
        have HC5 := Lib.hid hc
        clear hc
        go_wp2_with fail
        go_ret
        exact ⟨by rw [HV.out]; rfl, HC5.out.below⟩
      case some d =>
        rw [eo] at HA HSb
        simp only at HSb
        rw [HSb.out] at HV
        clear eo
        go_wp2_with fail
        refine HA.out.mono ?_
        rintro e w5 ⟨rfl, ⟨c, hc, hd⟩, _⟩
        obtain rfl := hd d rfl
        have HC5 := Lib.hid hc
        clear hc hd
        have u0 := HC5.out.begin'
        have u1 := HC5.out.nodes
        have t8 := int_dec c (x.ns.length : Int)
        generalize decide (c = (x.ns.length : Int)) = r at HV t8
        go_wp2_with fail
        go_ret
        exact ⟨by rw [HV.out]; rfl, HC5.out.below⟩

set_option maxHeartbeats 2000000 in
set_option maxRecDepth 100000 in
theorem allTs1_calls {Y : TyT} {O : Prop} (x : Ts) (hb : Nat) (w : World) (cs : List Value) (hr : (rTs Y O) w cs x) (hl : x.ns.length ≤ 1000000) (hw : Wds w) (hc : w.cell? ⟨hb, 0, none⟩ = some (.func (.func 48) #[] #[])) :
    Calls Tryz.prog 99 #[.agg cs.toArray, .pointer (some ⟨hb, 0, none⟩)] w fun e w' => e = .returned (.bool (!(transB x))) ∧ Below w.heap.size w w' := by
  have eg : ∀ args w, (callFunc 48 args).run Tryz.prog w = .ok (.enter 48 args) w := enters_of Tryz.func48 (by kernel_rfl) rfl
  have hlt : hb < w.heap.size := block_lt_of_cell hc
  have HB : Hid (Below w.heap.size w (w.alloc (.cells cs.toArray 51))) := Lib.hid ((Below.refl w.heap.size w).alloc (Nat.le_refl _) _)
  have HC := Lib.hid (cbTs_calls x cs _ (rTs_below hr HB.out) (hw.below HB.out) hl)
  obtain ⟨oa, oc, na, nc, sa, sc, rfl, g1, g2, g3, g4⟩ := hr
  clear hw hl
  generalize transB x = r at HC
  go_enter Tryz.func99, Tryz.ntmps99
  go_wp2_with fail
  refine HC.out.mono ?_
  rintro e w1 ⟨rfl, k1⟩
  have HB1 := Lib.hid (HB.out.trans (k1.mono HB.out.size))
  clear k1
  go_wp2_with fail
  go_ret
  exact ⟨rfl, HB1.out⟩

set_option maxHeartbeats 2000000 in
set_option maxRecDepth 100000 in
theorem indexTs_calls {Y : TyT} {O : Prop} {T : TypeId} {O' : Prop} (a : Option Addr) (len cap : Nat) (L : List Ts) (hb : Nat) (w : World) (h : GIn (rTs Y O) T O' 13 w a len L) (hw : Wds w) (hc : w.cell? ⟨hb, 0, none⟩ = some (.func (.func 48) #[] #[])) (hls : ∀ x ∈ L, x.ns.length ≤ 1000000) :
    Calls Tryz.prog 124 #[.slice a len cap, .func (.func 99) #[] #[.pointer (some ⟨hb, 0, none⟩)]] w fun e w' => (∃ i : Int, e = .returned (.int .i64 i) ∧ decide (0 ≤ i) = !(L.all (fun x => transB x))) ∧ Below w.heap.size w w' := by
  have H := Lib.hid h
  have HLS := Lib.hid hls
  have HL := Lib.hid h.leng
  have hsm := h.small
  have HW := Lib.hid hw
  have HF := Lib.hid hc
  have hlt0 : hb < w.heap.size := block_lt_of_cell hc
  have eg : ∀ args w, (callFunc 99 args).run Tryz.prog w = .ok (.enter 99 args) w := enters_of Tryz.func99 (by kernel_rfl) rfl
  clear h hw hc hls
  go_enter Tryz.func124, Tryz.ntmps124
  go_wp2_with fail
  go_loopw [8] (fun i wr => ∃ (n : Nat), n ≤ len ∧ i = .int .i64 n ∧ Hid (L.all (fun x => transB x) = (L.drop n).all (fun x => transB x)) ∧ Hid (Below w.heap.size w wr)) (fun i _ => len - (intOf i).toNat)
  case atStart => exact ⟨0, Nat.zero_le _, rfl, Lib.hid rfl, Lib.hid (Below.refl _ _)⟩
  case round =>
    obtain ⟨n, hn, rfl, HT, HB⟩ := hrel
    by_cases hlt : n < len
    case neg =>
      have HX := Lib.hid (all_end HT.out (by rw [HL.out]; omega))
      go_wp2_with fail
      go_ret
      exact ⟨⟨-1, rfl, by rw [HX.out]; rfl⟩, HB.out⟩
    case pos =>
      obtain ⟨x, hx⟩ := at_some HL.out hlt
      have HX := Lib.hid hx
      obtain ⟨g, off, csx, rfl, hg, _, hd, hr, _⟩ := (H.out.belowT HB.out).at' n x hx
      have HC := Lib.hid (allTs1_calls x hb wr csx hr (HLS.out x (List.mem_of_getElem? hx)) (HW.out.below HB.out) ((HB.out.cell (p := ⟨hb, 0, none⟩) hlt0).trans HF.out))
      obtain ⟨oa9, oc9, na9, nc9, sa9, sc9, rfl, g19, g29, g39, g49⟩ := hr
      have c0_ : wr.cell? ⟨g, off + n * 13, none⟩ = some (.string x.f.t) := hd 0 _ rfl
      have c1_ : wr.cell? ⟨g, off + n * 13 + 1, none⟩ = some (.int .i64 x.f.l) := hd 1 _ rfl
      have c2_ : wr.cell? ⟨g, off + n * 13 + 2, none⟩ = some (.int .i64 x.f.c) := hd 2 _ rfl
      have c3_ : wr.cell? ⟨g, off + n * 13 + 3, none⟩ = some (.string x.t.t) := hd 3 _ rfl
      have c4_ : wr.cell? ⟨g, off + n * 13 + 4, none⟩ = some (.int .i64 x.t.l) := hd 4 _ rfl
      have c5_ : wr.cell? ⟨g, off + n * 13 + 5, none⟩ = some (.int .i64 x.t.c) := hd 5 _ rfl
      have c6_ : wr.cell? ⟨g, off + n * 13 + 6, none⟩ = some (.string x.on.n) := hd 6 _ rfl
      have c7_ : wr.cell? ⟨g, off + n * 13 + 7, none⟩ = some (.slice oa9 x.on.ar.length oc9) := hd 7 _ rfl
      have c8_ : wr.cell? ⟨g, off + n * 13 + 8, none⟩ = some (.int .i64 x.on.l) := hd 8 _ rfl
      have c9_ : wr.cell? ⟨g, off + n * 13 + 9, none⟩ = some (.int .i64 x.on.c) := hd 9 _ rfl
      have c10_ : wr.cell? ⟨g, off + n * 13 + 10, none⟩ = some (.slice na9 x.ns.length nc9) := hd 10 _ rfl
      have c11_ : wr.cell? ⟨g, off + n * 13 + 11, none⟩ = some (.int .i64 x.g) := hd 11 _ rfl
      have c12_ : wr.cell? ⟨g, off + n * 13 + 12, none⟩ = some (.slice sa9 x.ss.length sc9) := hd 12 _ rfl
      clear hd hx
      cases e : transB x
      · rw [e] at HC
        have HE := Lib.hid (all_hit HT.out HX.out e)
        clear e
        go_wp2_with fail
        refine HC.out.mono ?_
        rintro e w1 ⟨rfl, k1⟩
        have HB1 := Lib.hid (HB.out.trans (k1.mono HB.out.size))
        clear k1
        go_wp2_with fail
        go_ret
        exact ⟨⟨n, rfl, by rw [HE.out]; exact decide_eq_true (by omega)⟩, HB1.out⟩
      · rw [e] at HC
        have HE := Lib.hid (all_step HT.out HX.out e)
        clear e
        go_wp2_with fail
        refine HC.out.mono ?_
        rintro e w1 ⟨rfl, k1⟩
        have HB1 := Lib.hid (HB.out.trans (k1.mono HB.out.size))
        clear k1
        go_wp2_with fail
        go_roundw
        case rel => exact ⟨n + 1, hlt, by go_num, HE, HB1⟩
        case measure => simp [intOf] <;> omega

set_option maxHeartbeats 1000000 in
set_option maxRecDepth 100000 in
theorem containsTs_calls {Y : TyT} {O : Prop} {T : TypeId} {O' : Prop} (a : Option Addr) (len cap : Nat) (L : List Ts) (hb : Nat) (w : World) (h : GIn (rTs Y O) T O' 13 w a len L) (hw : Wds w) (hc : w.cell? ⟨hb, 0, none⟩ = some (.func (.func 48) #[] #[])) (hls : ∀ x ∈ L, x.ns.length ≤ 1000000) :
    Calls Tryz.prog 98 #[.slice a len cap, .func (.func 99) #[] #[.pointer (some ⟨hb, 0, none⟩)]] w fun e w' => e = .returned (.bool (!(L.all (fun x => transB x)))) ∧ Below w.heap.size w w' := by
  have H1 := Lib.hid (indexTs_calls a len cap L hb w h hw hc hls)
  clear h hw hc hls
  go_enter Tryz.func98, Tryz.ntmps98
  go_wp2_with fail
  refine H1.out.mono ?_
  rintro e w1 ⟨⟨i, rfl, hi⟩, k1⟩
  have HI := Lib.hid hi
  clear hi
  go_wp2_with fail
  go_ret
  exact ⟨by rw [← HI.out]; rfl, k1⟩

set_option maxHeartbeats 1000000 in
set_option maxRecDepth 100000 in
theorem allTs_calls {Y : TyT} {O : Prop} {T : TypeId} {O' : Prop} (a : Option Addr) (len cap : Nat) (L : List Ts) (w : World) (h : GIn (rTs Y O) T O' 13 w a len L) (hw : Wds w) (hls : ∀ x ∈ L, x.ns.length ≤ 1000000) :
    Calls Tryz.prog 47 #[.slice a len cap, .func (.func 48) #[] #[]] w fun e w' => e = .returned (.bool (L.all (fun x => transB x))) ∧ Below w.heap.size w w' := by
  have HB : Hid (Below w.heap.size w (w.alloc (.cells #[.func (.func 48) #[] #[]] 61))) := Lib.hid ((Below.refl w.heap.size w).alloc (Nat.le_refl _) _)
  have H1 := Lib.hid (containsTs_calls a len cap L w.heap.size _ (h.belowT HB.out) (hw.below HB.out) (by rw [World.cell?_alloc_at (hn := rfl)]; rfl) hls)
  have HV : Hid (∀ b, (!b) = !(L.all (fun x => transB x)) → b = L.all (fun x => transB x)) := Lib.hid (fun b h => by cases b <;> simp_all)
  clear h hw hls
  generalize L.all (fun x => transB x) = r at H1 HV
  go_enter Tryz.func47, Tryz.ntmps47
  go_wp2_with fail
  refine H1.out.mono ?_
  rintro e w1 ⟨rfl, k1⟩
  go_wp2_with fail
  go_ret
  exact ⟨rfl, HB.out.trans (k1.mono HB.out.size)⟩
end Go.Proofs.YtojabkhfkbfeaaaGreatDoor

/- TreeRightF -/
namespace Go.Proofs.YtojabkhfkbfeaaaGreatDoor
open Go.RowKit
set_option linter.unusedVariables false

theorem right_eq (x : Tr) : rightT x = (nameB x.n.t && (nameB x.s.t && (x.ds.all (fun x => okD x) && (x.qs.all (fun x => okQ x) && (x.fs.all (fun x => okF x) && (x.st.all (fun x => okSt x) && (x.al.all (fun x => symB x) && (x.ts.all (fun x => transB x))))))))) := by
  unfold rightT
  simp only [Bool.and_assoc]
  rfl

set_option maxHeartbeats 8000000 in
set_option maxRecDepth 100000 in
theorem right_calls {Y : TyT} {O : Prop} (x : Tr) (cs : List Value) (w : World) (hx : TrIn Y O w cs x) (hw : Wds w) (hls : ∀ t ∈ x.ts, t.ns.length ≤ 1000000) :
    Calls Tryz.prog 8 #[.agg cs.toArray] w fun e w' => e = .returned (.bool (rightT x)) ∧ Below w.heap.size w w' := by
  obtain ⟨⟨da, dc, qa, qc, fa, fc, ta, tc, la, lc, xa, xc, rfl, g1, g2, g3, g4, g5, g6⟩, hok⟩ := hx
  have HB0 : Hid (Below w.heap.size w (w.alloc (.cells #[.string x.n.t, .int .i64 x.n.l, .int .i64 x.n.c, .slice da x.ds.length dc, .slice qa x.qs.length qc, .slice fa x.fs.length fc, .slice ta x.st.length tc, .string x.s.t, .int .i64 x.s.l, .int .i64 x.s.c, .slice la x.al.length lc, .slice xa x.ts.length xc] 31))) := Lib.hid ((Below.refl w.heap.size w).alloc (Nat.le_refl _) _)
  have HK0 : Hid (Below (w.heap.size + 1) (w.alloc (.cells #[.string x.n.t, .int .i64 x.n.l, .int .i64 x.n.c, .slice da x.ds.length dc, .slice qa x.qs.length qc, .slice fa x.fs.length fc, .slice ta x.st.length tc, .string x.s.t, .int .i64 x.s.l, .int .i64 x.s.c, .slice la x.al.length lc, .slice xa x.ts.length xc] 31)) (w.alloc (.cells #[.string x.n.t, .int .i64 x.n.l, .int .i64 x.n.c, .slice da x.ds.length dc, .slice qa x.qs.length qc, .slice fa x.fs.length fc, .slice ta x.st.length tc, .string x.s.t, .int .i64 x.s.l, .int .i64 x.s.c, .slice la x.al.length lc, .slice xa x.ts.length xc] 31))) := Lib.hid (Below.refl _ _)
  have HBK : Hid (∀ w1, Hid (Below (w.heap.size + 1) (w.alloc (.cells #[.string x.n.t, .int .i64 x.n.l, .int .i64 x.n.c, .slice da x.ds.length dc, .slice qa x.qs.length qc, .slice fa x.fs.length fc, .slice ta x.st.length tc, .string x.s.t, .int .i64 x.s.l, .int .i64 x.s.c, .slice la x.al.length lc, .slice xa x.ts.length xc] 31)) w1) → Below w.heap.size w w1) := Lib.hid (fun _ h => HB0.out.trans (h.out.mono (Nat.le_succ _)))
  have HV := Lib.hid (right_eq x)
  have H0 := Lib.hid (fun w1 (h : Hid (Below (w.heap.size + 1) (w.alloc (.cells #[.string x.n.t, .int .i64 x.n.l, .int .i64 x.n.c, .slice da x.ds.length dc, .slice qa x.qs.length qc, .slice fa x.fs.length fc, .slice ta x.st.length tc, .string x.s.t, .int .i64 x.s.l, .int .i64 x.s.c, .slice la x.al.length lc, .slice xa x.ts.length xc] 31)) w1)) => rightName_calls x.n w1 hok.1 (hw.below (HBK.out _ h)))
  have H1 := Lib.hid (fun w1 (h : Hid (Below (w.heap.size + 1) (w.alloc (.cells #[.string x.n.t, .int .i64 x.n.l, .int .i64 x.n.c, .slice da x.ds.length dc, .slice qa x.qs.length qc, .slice fa x.fs.length fc, .slice ta x.st.length tc, .string x.s.t, .int .i64 x.s.l, .int .i64 x.s.c, .slice la x.al.length lc, .slice xa x.ts.length xc] 31)) w1)) => rightName_calls x.s w1 hok.2 (hw.below (HBK.out _ h)))
  have H2 := Lib.hid (fun w1 (h : Hid (Below (w.heap.size + 1) (w.alloc (.cells #[.string x.n.t, .int .i64 x.n.l, .int .i64 x.n.c, .slice da x.ds.length dc, .slice qa x.qs.length qc, .slice fa x.fs.length fc, .slice ta x.st.length tc, .string x.s.t, .int .i64 x.s.l, .int .i64 x.s.c, .slice la x.al.length lc, .slice xa x.ts.length xc] 31)) w1)) => allDe_calls da _ dc x.ds w1 (g1.belowD (HBK.out _ h)) (hw.below (HBK.out _ h)))
  have H3 := Lib.hid (fun w1 (h : Hid (Below (w.heap.size + 1) (w.alloc (.cells #[.string x.n.t, .int .i64 x.n.l, .int .i64 x.n.c, .slice da x.ds.length dc, .slice qa x.qs.length qc, .slice fa x.fs.length fc, .slice ta x.st.length tc, .string x.s.t, .int .i64 x.s.l, .int .i64 x.s.c, .slice la x.al.length lc, .slice xa x.ts.length xc] 31)) w1)) => allQu_calls qa _ qc x.qs w1 (g2.belowF (HBK.out _ h)) (hw.below (HBK.out _ h)))
  have H4 := Lib.hid (fun w1 (h : Hid (Below (w.heap.size + 1) (w.alloc (.cells #[.string x.n.t, .int .i64 x.n.l, .int .i64 x.n.c, .slice da x.ds.length dc, .slice qa x.qs.length qc, .slice fa x.fs.length fc, .slice ta x.st.length tc, .string x.s.t, .int .i64 x.s.l, .int .i64 x.s.c, .slice la x.al.length lc, .slice xa x.ts.length xc] 31)) w1)) => allFr_calls fa _ fc x.fs w1 (g3.belowF (HBK.out _ h)) (hw.below (HBK.out _ h)))
  have H5 := Lib.hid (fun w1 (h : Hid (Below (w.heap.size + 1) (w.alloc (.cells #[.string x.n.t, .int .i64 x.n.l, .int .i64 x.n.c, .slice da x.ds.length dc, .slice qa x.qs.length qc, .slice fa x.fs.length fc, .slice ta x.st.length tc, .string x.s.t, .int .i64 x.s.l, .int .i64 x.s.c, .slice la x.al.length lc, .slice xa x.ts.length xc] 31)) w1)) => allSta_calls ta _ tc x.st w1 (g4.belowF (HBK.out _ h)) (hw.below (HBK.out _ h)))
  have H6 := Lib.hid (fun w1 (h : Hid (Below (w.heap.size + 1) (w.alloc (.cells #[.string x.n.t, .int .i64 x.n.l, .int .i64 x.n.c, .slice da x.ds.length dc, .slice qa x.qs.length qc, .slice fa x.fs.length fc, .slice ta x.st.length tc, .string x.s.t, .int .i64 x.s.l, .int .i64 x.s.c, .slice la x.al.length lc, .slice xa x.ts.length xc] 31)) w1)) => allSy_calls la _ lc x.al w1 (g5.belowS (HBK.out _ h)) (hw.below (HBK.out _ h)))
  have H7 := Lib.hid (fun w1 (h : Hid (Below (w.heap.size + 1) (w.alloc (.cells #[.string x.n.t, .int .i64 x.n.l, .int .i64 x.n.c, .slice da x.ds.length dc, .slice qa x.qs.length qc, .slice fa x.fs.length fc, .slice ta x.st.length tc, .string x.s.t, .int .i64 x.s.l, .int .i64 x.s.c, .slice la x.al.length lc, .slice xa x.ts.length xc] 31)) w1)) => allTs_calls xa _ xc x.ts w1 (g6.belowT (HBK.out _ h)) (hw.below (HBK.out _ h)) hls)
  have s1 := g1.small
  have s2 := g2.small
  have s3 := g3.small
  have s4 := g4.small
  have s5 := g5.small
  have s6 := g6.small
  clear hok hw hls g1 g2 g3 g4 g5 g6
  cases e0 : nameB x.n.t
  case false =>
    rw [e0] at H0 HV
    clear e0
    go_enter Tryz.func8, Tryz.ntmps8
    go_wp2_with fail
    refine (H0.out _ HK0).mono ?_
    rintro e w1 ⟨rfl, k1⟩
    have HK1 := Lib.hid (below1_step HK0.out (by simp) k1)
    clear k1
    go_wp2_with fail
    go_ret
    exact ⟨by rw [HV.out]; rfl, HBK.out _ HK1⟩
  rw [e0] at H0 HV
  clear e0
  cases e1 : nameB x.s.t
  case false =>
    rw [e1] at H1 HV
    clear e1
    go_enter Tryz.func8, Tryz.ntmps8
    go_wp2_with fail
    refine (H0.out _ HK0).mono ?_
    rintro e w1 ⟨rfl, k1⟩
    have HK1 := Lib.hid (below1_step HK0.out (by simp) k1)
    clear k1
    have y0_7 := box1 HK1.out 7 _ rfl
    have y0_8 := box1 HK1.out 8 _ rfl
    have y0_9 := box1 HK1.out 9 _ rfl
    go_wp2_with fail
    refine (H1.out _ HK1).mono ?_
    rintro e w2 ⟨rfl, k2⟩
    have HK2 := Lib.hid (below1_step HK1.out (by simp) k2)
    clear k2
    go_wp2_with fail
    go_ret
    exact ⟨by rw [HV.out]; rfl, HBK.out _ HK2⟩
  rw [e1] at H1 HV
  clear e1
  cases e2 : x.ds.all (fun x => okD x)
  case false =>
    rw [e2] at H2 HV
    clear e2
    go_enter Tryz.func8, Tryz.ntmps8
    go_wp2_with fail
    refine (H0.out _ HK0).mono ?_
    rintro e w1 ⟨rfl, k1⟩
    have HK1 := Lib.hid (below1_step HK0.out (by simp) k1)
    clear k1
    have y0_7 := box1 HK1.out 7 _ rfl
    have y0_8 := box1 HK1.out 8 _ rfl
    have y0_9 := box1 HK1.out 9 _ rfl
    go_wp2_with fail
    refine (H1.out _ HK1).mono ?_
    rintro e w2 ⟨rfl, k2⟩
    have HK2 := Lib.hid (below1_step HK1.out (by simp) k2)
    clear k2
    have y1_3 := box1 HK2.out 3 _ rfl
    go_wp2_with fail
    refine (H2.out _ HK2).mono ?_
    rintro e w3 ⟨rfl, k3⟩
    have HK3 := Lib.hid (below1_step HK2.out (by simp) k3)
    clear k3
    go_wp2_with fail
    go_ret
    exact ⟨by rw [HV.out]; rfl, HBK.out _ HK3⟩
  rw [e2] at H2 HV
  clear e2
  cases e3 : x.qs.all (fun x => okQ x)
  case false =>
    rw [e3] at H3 HV
    clear e3
    go_enter Tryz.func8, Tryz.ntmps8
    go_wp2_with fail
    refine (H0.out _ HK0).mono ?_
    rintro e w1 ⟨rfl, k1⟩
    have HK1 := Lib.hid (below1_step HK0.out (by simp) k1)
    clear k1
    have y0_7 := box1 HK1.out 7 _ rfl
    have y0_8 := box1 HK1.out 8 _ rfl
    have y0_9 := box1 HK1.out 9 _ rfl
    go_wp2_with fail
    refine (H1.out _ HK1).mono ?_
    rintro e w2 ⟨rfl, k2⟩
    have HK2 := Lib.hid (below1_step HK1.out (by simp) k2)
    clear k2
    have y1_3 := box1 HK2.out 3 _ rfl
    go_wp2_with fail
    refine (H2.out _ HK2).mono ?_
    rintro e w3 ⟨rfl, k3⟩
    have HK3 := Lib.hid (below1_step HK2.out (by simp) k3)
    clear k3
    have y2_4 := box1 HK3.out 4 _ rfl
    go_wp2_with fail
    refine (H3.out _ HK3).mono ?_
    rintro e w4 ⟨rfl, k4⟩
    have HK4 := Lib.hid (below1_step HK3.out (by simp) k4)
    clear k4
    go_wp2_with fail
    go_ret
    exact ⟨by rw [HV.out]; rfl, HBK.out _ HK4⟩
  rw [e3] at H3 HV
  clear e3
  cases e4 : x.fs.all (fun x => okF x)
  case false =>
    rw [e4] at H4 HV
    clear e4
    go_enter Tryz.func8, Tryz.ntmps8
    go_wp2_with fail
    refine (H0.out _ HK0).mono ?_
    rintro e w1 ⟨rfl, k1⟩
    have HK1 := Lib.hid (below1_step HK0.out (by simp) k1)
    clear k1
    have y0_7 := box1 HK1.out 7 _ rfl
    have y0_8 := box1 HK1.out 8 _ rfl
    have y0_9 := box1 HK1.out 9 _ rfl
    go_wp2_with fail
    refine (H1.out _ HK1).mono ?_
    rintro e w2 ⟨rfl, k2⟩
    have HK2 := Lib.hid (below1_step HK1.out (by simp) k2)
    clear k2
    have y1_3 := box1 HK2.out 3 _ rfl
    go_wp2_with fail
    refine (H2.out _ HK2).mono ?_
    rintro e w3 ⟨rfl, k3⟩
    have HK3 := Lib.hid (below1_step HK2.out (by simp) k3)
    clear k3
    have y2_4 := box1 HK3.out 4 _ rfl
    go_wp2_with fail
    refine (H3.out _ HK3).mono ?_
    rintro e w4 ⟨rfl, k4⟩
    have HK4 := Lib.hid (below1_step HK3.out (by simp) k4)
    clear k4
    have y3_5 := box1 HK4.out 5 _ rfl
    go_wp2_with fail
    refine (H4.out _ HK4).mono ?_
    rintro e w5 ⟨rfl, k5⟩
    have HK5 := Lib.hid (below1_step HK4.out (by simp) k5)
    clear k5
    go_wp2_with fail
    go_ret
    exact ⟨by rw [HV.out]; rfl, HBK.out _ HK5⟩
  rw [e4] at H4 HV
  clear e4
  cases e5 : x.st.all (fun x => okSt x)
  case false =>
    rw [e5] at H5 HV
    clear e5
    go_enter Tryz.func8, Tryz.ntmps8
    go_wp2_with fail
    refine (H0.out _ HK0).mono ?_
    rintro e w1 ⟨rfl, k1⟩
    have HK1 := Lib.hid (below1_step HK0.out (by simp) k1)
    clear k1
    have y0_7 := box1 HK1.out 7 _ rfl
    have y0_8 := box1 HK1.out 8 _ rfl
    have y0_9 := box1 HK1.out 9 _ rfl
    go_wp2_with fail
    refine (H1.out _ HK1).mono ?_
    rintro e w2 ⟨rfl, k2⟩
    have HK2 := Lib.hid (below1_step HK1.out (by simp) k2)
    clear k2
    have y1_3 := box1 HK2.out 3 _ rfl
    go_wp2_with fail
    refine (H2.out _ HK2).mono ?_
    rintro e w3 ⟨rfl, k3⟩
    have HK3 := Lib.hid (below1_step HK2.out (by simp) k3)
    clear k3
    have y2_4 := box1 HK3.out 4 _ rfl
    go_wp2_with fail
    refine (H3.out _ HK3).mono ?_
    rintro e w4 ⟨rfl, k4⟩
    have HK4 := Lib.hid (below1_step HK3.out (by simp) k4)
    clear k4
    have y3_5 := box1 HK4.out 5 _ rfl
    go_wp2_with fail
    refine (H4.out _ HK4).mono ?_
    rintro e w5 ⟨rfl, k5⟩
    have HK5 := Lib.hid (below1_step HK4.out (by simp) k5)
    clear k5
    have y4_6 := box1 HK5.out 6 _ rfl
    go_wp2_with fail
    refine (H5.out _ HK5).mono ?_
    rintro e w6 ⟨rfl, k6⟩
    have HK6 := Lib.hid (below1_step HK5.out (by simp) k6)
    clear k6
    go_wp2_with fail
    go_ret
    exact ⟨by rw [HV.out]; rfl, HBK.out _ HK6⟩
  rw [e5] at H5 HV
  clear e5
  cases e6 : x.al.all (fun x => symB x)
  case false =>
    rw [e6] at H6 HV
    clear e6
    go_enter Tryz.func8, Tryz.ntmps8
    go_wp2_with fail
    refine (H0.out _ HK0).mono ?_
    rintro e w1 ⟨rfl, k1⟩
    have HK1 := Lib.hid (below1_step HK0.out (by simp) k1)
    clear k1
    have y0_7 := box1 HK1.out 7 _ rfl
    have y0_8 := box1 HK1.out 8 _ rfl
    have y0_9 := box1 HK1.out 9 _ rfl
    go_wp2_with fail
    refine (H1.out _ HK1).mono ?_
    rintro e w2 ⟨rfl, k2⟩
    have HK2 := Lib.hid (below1_step HK1.out (by simp) k2)
    clear k2
    have y1_3 := box1 HK2.out 3 _ rfl
    go_wp2_with fail
    refine (H2.out _ HK2).mono ?_
    rintro e w3 ⟨rfl, k3⟩
    have HK3 := Lib.hid (below1_step HK2.out (by simp) k3)
    clear k3
    have y2_4 := box1 HK3.out 4 _ rfl
    go_wp2_with fail
    refine (H3.out _ HK3).mono ?_
    rintro e w4 ⟨rfl, k4⟩
    have HK4 := Lib.hid (below1_step HK3.out (by simp) k4)
    clear k4
    have y3_5 := box1 HK4.out 5 _ rfl
    go_wp2_with fail
    refine (H4.out _ HK4).mono ?_
    rintro e w5 ⟨rfl, k5⟩
    have HK5 := Lib.hid (below1_step HK4.out (by simp) k5)
    clear k5
    have y4_6 := box1 HK5.out 6 _ rfl
    go_wp2_with fail
    refine (H5.out _ HK5).mono ?_
    rintro e w6 ⟨rfl, k6⟩
    have HK6 := Lib.hid (below1_step HK5.out (by simp) k6)
    clear k6
    have y5_10 := box1 HK6.out 10 _ rfl
    go_wp2_with fail
    refine (H6.out _ HK6).mono ?_
    rintro e w7 ⟨rfl, k7⟩
    have HK7 := Lib.hid (below1_step HK6.out (by simp) k7)
    clear k7
    go_wp2_with fail
    go_ret
    exact ⟨by rw [HV.out]; rfl, HBK.out _ HK7⟩
  rw [e6] at H6 HV
  clear e6
  generalize x.ts.all (fun x => transB x) = r at H7 HV
  go_enter Tryz.func8, Tryz.ntmps8
  go_wp2_with fail
  refine (H0.out _ HK0).mono ?_
  rintro e w1 ⟨rfl, k1⟩
  have HK1 := Lib.hid (below1_step HK0.out (by simp) k1)
  clear k1
  have y0_7 := box1 HK1.out 7 _ rfl
  have y0_8 := box1 HK1.out 8 _ rfl
  have y0_9 := box1 HK1.out 9 _ rfl
  go_wp2_with fail
  refine (H1.out _ HK1).mono ?_
  rintro e w2 ⟨rfl, k2⟩
  have HK2 := Lib.hid (below1_step HK1.out (by simp) k2)
  clear k2
  have y1_3 := box1 HK2.out 3 _ rfl
  go_wp2_with fail
  refine (H2.out _ HK2).mono ?_
  rintro e w3 ⟨rfl, k3⟩
  have HK3 := Lib.hid (below1_step HK2.out (by simp) k3)
  clear k3
  have y2_4 := box1 HK3.out 4 _ rfl
  go_wp2_with fail
  refine (H3.out _ HK3).mono ?_
  rintro e w4 ⟨rfl, k4⟩
  have HK4 := Lib.hid (below1_step HK3.out (by simp) k4)
  clear k4
  have y3_5 := box1 HK4.out 5 _ rfl
  go_wp2_with fail
  refine (H4.out _ HK4).mono ?_
  rintro e w5 ⟨rfl, k5⟩
  have HK5 := Lib.hid (below1_step HK4.out (by simp) k5)
  clear k5
  have y4_6 := box1 HK5.out 6 _ rfl
  go_wp2_with fail
  refine (H5.out _ HK5).mono ?_
  rintro e w6 ⟨rfl, k6⟩
  have HK6 := Lib.hid (below1_step HK5.out (by simp) k6)
  clear k6
  have y5_10 := box1 HK6.out 10 _ rfl
  go_wp2_with fail
  refine (H6.out _ HK6).mono ?_
  rintro e w7 ⟨rfl, k7⟩
  have HK7 := Lib.hid (below1_step HK6.out (by simp) k7)
  clear k7
  have y6_11 := box1 HK7.out 11 _ rfl
  go_wp2_with fail
  refine (H7.out _ HK7).mono ?_
  rintro e w8 ⟨rfl, k8⟩
  have HK8 := Lib.hid (below1_step HK7.out (by simp) k8)
  clear k8
  go_wp2_with fail
  go_ret
  exact ⟨by rw [HV.out]; rfl, HBK.out _ HK8⟩
end Go.Proofs.YtojabkhfkbfeaaaGreatDoor
