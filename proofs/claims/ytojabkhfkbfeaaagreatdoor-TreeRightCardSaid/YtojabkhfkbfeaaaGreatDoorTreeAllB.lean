/- Which declarations and symbols may be, and what all does with lists of them. -/
import Derived.Test.YtojabkhfkbfeaaaGreatDoorTreeAllA
import Derived.Test.YtojabkhfkbfeaaaGreatDoorTreeSameF
namespace Go.Proofs.YtojabkhfkbfeaaaGreatDoor
open Go.RowKit
set_option linter.unusedVariables false

theorem scName_below (s : ByteArray) (w : World) (hs : s.size ≤ 9223372036854775807) (hw : Wds w) :
    Calls Tryz.prog 79 #[.string s] w fun e w' => e = .returned (.bool (nameB s)) ∧ Below w.heap.size w w' :=
  (scName_calls s w hs hw).mono fun e w2 h => And.intro h.1 (show Below w.heap.size w w2 from h.2 ▸ Below.refl _ _)

def okD (x : De) : Bool := nameB x.n.t && x.ks.all (fun x => kindB x)
set_option maxHeartbeats 1000000 in
set_option maxRecDepth 100000 in
theorem cbDe_calls {Y : TyT} {O : Prop} (x : De) (cs : List Value) (w : World) (hr : (rDe Y O) w cs x) (hw : Wds w) :
    Calls Tryz.prog 35 #[.agg cs.toArray] w fun e w' => e = .returned (.bool (okD x)) ∧ Below w.heap.size w w' := by
  obtain ⟨a, c, rfl, g1, hok⟩ := hr
  have hs : x.n.t.size ≤ 9223372036854775807 := hok
  have HB : Hid (Below w.heap.size w (w.alloc (.cells #[.string x.n.t, .int .i64 x.n.l, .int .i64 x.n.c, .slice a x.ks.length c] 39))) := Lib.hid ((Below.refl w.heap.size w).alloc (Nat.le_refl _) _)
  have HK0 : Hid (Below (w.heap.size + 1) (w.alloc (.cells #[.string x.n.t, .int .i64 x.n.l, .int .i64 x.n.c, .slice a x.ks.length c] 39)) (w.alloc (.cells #[.string x.n.t, .int .i64 x.n.l, .int .i64 x.n.c, .slice a x.ks.length c] 39))) := Lib.hid (Below.refl _ _)
  have HN := Lib.hid (rightName_calls x.n _ hs (hw.below HB.out))
  have HC := Lib.hid (fun w1 (hb : Below w.heap.size w w1) => allInt_calls a _ c x.ks w1 (g1.belowF hb) (hw.below hb))
  have HV : Hid (okD x = (nameB x.n.t && x.ks.all (fun x => kindB x))) := Lib.hid (rfl)
  have hsm := g1.small
  clear hok hw g1
  generalize x.ks.all (fun x => kindB x) = r at HC HV
  cases e : nameB x.n.t
  · rw [e] at HN HV
    clear e
    go_enter Tryz.func35, Tryz.ntmps35
    go_wp2_with fail
    refine HN.out.mono ?_
    rintro e w1 ⟨rfl, k1⟩
    have HB1 := Lib.hid (HB.out.trans (k1.mono HB.out.size))
    have HK1 := Lib.hid (below1_step HK0.out (by simp) k1)
    clear k1
    go_wp2_with fail
    go_ret
    exact ⟨by rw [HV.out]; rfl, HB1.out⟩
  · rw [e] at HN HV
    clear e
    go_enter Tryz.func35, Tryz.ntmps35
    go_wp2_with fail
    refine HN.out.mono ?_
    rintro e w1 ⟨rfl, k1⟩
    have HB1 := Lib.hid (HB.out.trans (k1.mono HB.out.size))
    have HK1 := Lib.hid (below1_step HK0.out (by simp) k1)
    clear k1
    have y := box1 HK1.out 3 _ rfl
    go_wp2_with fail
    refine (HC.out _ HB1.out).mono ?_
    rintro e w2 ⟨rfl, k2⟩
    go_wp2_with fail
    go_ret
    exact ⟨by rw [HV.out]; rfl, HB1.out.trans (k2.mono HB1.out.size)⟩


set_option maxHeartbeats 1000000 in
set_option maxRecDepth 100000 in
theorem cbSy_calls {Y : TyT} {O : Prop} (x : Sy) (cs : List Value) (w : World) (hr : (rSy Y O) w cs x) (hw : Wds w) :
    Calls Tryz.prog 46 #[.agg cs.toArray] w fun e w' => e = .returned (.bool (symB x)) ∧ Below w.heap.size w w' := by
  obtain ⟨a, c, rfl, g1, hok⟩ := hr
  have hs : x.n.size ≤ 9223372036854775807 := hok
  have HB : Hid (Below w.heap.size w (w.alloc (.cells #[.string x.n, .slice a x.ar.length c, .int .i64 x.l, .int .i64 x.c] 47))) := Lib.hid ((Below.refl w.heap.size w).alloc (Nat.le_refl _) _)
  have HK0 : Hid (Below (w.heap.size + 1) (w.alloc (.cells #[.string x.n, .slice a x.ar.length c, .int .i64 x.l, .int .i64 x.c] 47)) (w.alloc (.cells #[.string x.n, .slice a x.ar.length c, .int .i64 x.l, .int .i64 x.c] 47))) := Lib.hid (Below.refl _ _)
  have HN := Lib.hid (scName_below x.n _ hs (hw.below HB.out))
  have HC := Lib.hid (fun w1 (hb : Below w.heap.size w w1) => allAg_calls a _ c x.ar w1 (g1.belowF hb) (hw.below hb))
  have HV : Hid (symB x = (nameB x.n && x.ar.all (fun x => argB x))) := Lib.hid ((by unfold symB; exact Bool.and_comm _ _))
  have hsm := g1.small
  clear hok hw g1
  generalize x.ar.all (fun x => argB x) = r at HC HV
  cases e : nameB x.n
  · rw [e] at HN HV
    clear e
    go_enter Tryz.func46, Tryz.ntmps46
    go_wp2_with fail
    refine HN.out.mono ?_
    rintro e w1 ⟨rfl, k1⟩
    have HB1 := Lib.hid (HB.out.trans (k1.mono HB.out.size))
    have HK1 := Lib.hid (below1_step HK0.out (by simp) k1)
    clear k1
    go_wp2_with fail
    go_ret
    exact ⟨by rw [HV.out]; rfl, HB1.out⟩
  · rw [e] at HN HV
    clear e
    go_enter Tryz.func46, Tryz.ntmps46
    go_wp2_with fail
    refine HN.out.mono ?_
    rintro e w1 ⟨rfl, k1⟩
    have HB1 := Lib.hid (HB.out.trans (k1.mono HB.out.size))
    have HK1 := Lib.hid (below1_step HK0.out (by simp) k1)
    clear k1
    have y := box1 HK1.out 1 _ rfl
    go_wp2_with fail
    refine (HC.out _ HB1.out).mono ?_
    rintro e w2 ⟨rfl, k2⟩
    go_wp2_with fail
    go_ret
    exact ⟨by rw [HV.out]; rfl, HB1.out.trans (k2.mono HB1.out.size)⟩

set_option maxHeartbeats 2000000 in
set_option maxRecDepth 100000 in
theorem allDe1_calls {Y : TyT} {O : Prop} (x : De) (hb : Nat) (w : World) (cs : List Value) (hr : (rDe Y O) w cs x) (hw : Wds w) (hc : w.cell? ⟨hb, 0, none⟩ = some (.func (.func 35) #[] #[])) :
    Calls Tryz.prog 81 #[.agg cs.toArray, .pointer (some ⟨hb, 0, none⟩)] w fun e w' => e = .returned (.bool (!(okD x))) ∧ Below w.heap.size w w' := by
  have eg : ∀ args w, (callFunc 35 args).run Tryz.prog w = .ok (.enter 35 args) w := enters_of Tryz.func35 (by kernel_rfl) rfl
  have hlt : hb < w.heap.size := block_lt_of_cell hc
  have HB : Hid (Below w.heap.size w (w.alloc (.cells cs.toArray 39))) := Lib.hid ((Below.refl w.heap.size w).alloc (Nat.le_refl _) _)
  have HC := Lib.hid (cbDe_calls x cs _ (rDe_below hr HB.out) (hw.below HB.out))
  obtain ⟨a, c, rfl, g1, _⟩ := hr
  clear hw
  generalize okD x = r at HC
  go_enter Tryz.func81, Tryz.ntmps81
  go_wp2_with fail
  refine HC.out.mono ?_
  rintro e w1 ⟨rfl, k1⟩
  have HB1 := Lib.hid (HB.out.trans (k1.mono HB.out.size))
  clear k1
  go_wp2_with fail
  go_ret
  exact ⟨rfl, HB1.out⟩

set_option maxHeartbeats 2000000 in
set_option maxRecDepth 100000 in
theorem indexDe_calls {Y : TyT} {O : Prop} {T : TypeId} {O' : Prop} (a : Option Addr) (len cap : Nat) (L : List De) (hb : Nat) (w : World) (h : GIn (rDe Y O) T O' 4 w a len L) (hw : Wds w) (hc : w.cell? ⟨hb, 0, none⟩ = some (.func (.func 35) #[] #[])) :
    Calls Tryz.prog 116 #[.slice a len cap, .func (.func 81) #[] #[.pointer (some ⟨hb, 0, none⟩)]] w fun e w' => (∃ i : Int, e = .returned (.int .i64 i) ∧ decide (0 ≤ i) = !(L.all (fun x => okD x))) ∧ Below w.heap.size w w' := by
  have H := Lib.hid h
  have HL := Lib.hid h.leng
  have hsm := h.small
  have HW := Lib.hid hw
  have HF := Lib.hid hc
  have hlt0 : hb < w.heap.size := block_lt_of_cell hc
  have eg : ∀ args w, (callFunc 81 args).run Tryz.prog w = .ok (.enter 81 args) w := enters_of Tryz.func81 (by kernel_rfl) rfl
  clear h hw hc
  go_enter Tryz.func116, Tryz.ntmps116
  go_wp2_with fail
  go_loopw [8] (fun i wr => ∃ (n : Nat), n ≤ len ∧ i = .int .i64 n ∧ Hid (L.all (fun x => okD x) = (L.drop n).all (fun x => okD x)) ∧ Hid (Below w.heap.size w wr)) (fun i _ => len - (intOf i).toNat)
  case atStart => exact ⟨0, Nat.zero_le _, rfl, Lib.hid rfl, Lib.hid (Below.refl _ _)⟩
  case round =>
    obtain ⟨n, hn, rfl, HT, HB⟩ := hrel
    by_cases hlt : n < len
    case neg =>
      have HX := Lib.hid (all_end HT.out (by rw [HL.out]; omega))
      go_wp2_with fail
      go_ret
      exact ⟨⟨-1, rfl, by rw [HX.out]; rfl⟩, HB.out⟩
    case pos =>
      obtain ⟨x, hx⟩ := at_some HL.out hlt
      have HX := Lib.hid hx
      obtain ⟨g, off, csx, rfl, hg, _, hd, hr, _⟩ := (H.out.belowD HB.out).at' n x hx
      have HC := Lib.hid (allDe1_calls x hb wr csx hr (HW.out.below HB.out) ((HB.out.cell (p := ⟨hb, 0, none⟩) hlt0).trans HF.out))
      obtain ⟨a9, c9, rfl, g19, _⟩ := hr
      have c0_ : wr.cell? ⟨g, off + n * 4, none⟩ = some (.string x.n.t) := hd 0 _ rfl
      have c1_ : wr.cell? ⟨g, off + n * 4 + 1, none⟩ = some (.int .i64 x.n.l) := hd 1 _ rfl
      have c2_ : wr.cell? ⟨g, off + n * 4 + 2, none⟩ = some (.int .i64 x.n.c) := hd 2 _ rfl
      have c3_ : wr.cell? ⟨g, off + n * 4 + 3, none⟩ = some (.slice a9 x.ks.length c9) := hd 3 _ rfl
      clear hd hx
      cases e : okD x
      · rw [e] at HC
        have HE := Lib.hid (all_hit HT.out HX.out e)
        clear e
        go_wp2_with fail
        refine HC.out.mono ?_
        rintro e w1 ⟨rfl, k1⟩
        have HB1 := Lib.hid (HB.out.trans (k1.mono HB.out.size))
        clear k1
        go_wp2_with fail
        go_ret
        exact ⟨⟨n, rfl, by rw [HE.out]; exact decide_eq_true (by omega)⟩, HB1.out⟩
      · rw [e] at HC
        have HE := Lib.hid (all_step HT.out HX.out e)
        clear e
        go_wp2_with fail
        refine HC.out.mono ?_
        rintro e w1 ⟨rfl, k1⟩
        have HB1 := Lib.hid (HB.out.trans (k1.mono HB.out.size))
        clear k1
        go_wp2_with fail
        go_roundw
        case rel => exact ⟨n + 1, hlt, by go_num, HE, HB1⟩
        case measure => simp [intOf] <;> omega

set_option maxHeartbeats 1000000 in
set_option maxRecDepth 100000 in
theorem containsDe_calls {Y : TyT} {O : Prop} {T : TypeId} {O' : Prop} (a : Option Addr) (len cap : Nat) (L : List De) (hb : Nat) (w : World) (h : GIn (rDe Y O) T O' 4 w a len L) (hw : Wds w) (hc : w.cell? ⟨hb, 0, none⟩ = some (.func (.func 35) #[] #[])) :
    Calls Tryz.prog 80 #[.slice a len cap, .func (.func 81) #[] #[.pointer (some ⟨hb, 0, none⟩)]] w fun e w' => e = .returned (.bool (!(L.all (fun x => okD x)))) ∧ Below w.heap.size w w' := by
  have H1 := Lib.hid (indexDe_calls a len cap L hb w h hw hc)
  clear h hw hc
  go_enter Tryz.func80, Tryz.ntmps80
  go_wp2_with fail
  refine H1.out.mono ?_
  rintro e w1 ⟨⟨i, rfl, hi⟩, k1⟩
  have HI := Lib.hid hi
  clear hi
  go_wp2_with fail
  go_ret
  exact ⟨by rw [← HI.out]; rfl, k1⟩

set_option maxHeartbeats 1000000 in
set_option maxRecDepth 100000 in
theorem allDe_calls {Y : TyT} {O : Prop} {T : TypeId} {O' : Prop} (a : Option Addr) (len cap : Nat) (L : List De) (w : World) (h : GIn (rDe Y O) T O' 4 w a len L) (hw : Wds w) :
    Calls Tryz.prog 34 #[.slice a len cap, .func (.func 35) #[] #[]] w fun e w' => e = .returned (.bool (L.all (fun x => okD x))) ∧ Below w.heap.size w w' := by
  have HB : Hid (Below w.heap.size w (w.alloc (.cells #[.func (.func 35) #[] #[]] 80))) := Lib.hid ((Below.refl w.heap.size w).alloc (Nat.le_refl _) _)
  have H1 := Lib.hid (containsDe_calls a len cap L w.heap.size _ (h.belowD HB.out) (hw.below HB.out) (by rw [World.cell?_alloc_at (hn := rfl)]; rfl))
  have HV : Hid (∀ b, (!b) = !(L.all (fun x => okD x)) → b = L.all (fun x => okD x)) := Lib.hid (fun b h => by cases b <;> simp_all)
  clear h hw
  generalize L.all (fun x => okD x) = r at H1 HV
  go_enter Tryz.func34, Tryz.ntmps34
  go_wp2_with fail
  refine H1.out.mono ?_
  rintro e w1 ⟨rfl, k1⟩
  go_wp2_with fail
  go_ret
  exact ⟨rfl, HB.out.trans (k1.mono HB.out.size)⟩

set_option maxHeartbeats 2000000 in
set_option maxRecDepth 100000 in
theorem allSy1_calls {Y : TyT} {O : Prop} (x : Sy) (hb : Nat) (w : World) (cs : List Value) (hr : (rSy Y O) w cs x) (hw : Wds w) (hc : w.cell? ⟨hb, 0, none⟩ = some (.func (.func 46) #[] #[])) :
    Calls Tryz.prog 95 #[.agg cs.toArray, .pointer (some ⟨hb, 0, none⟩)] w fun e w' => e = .returned (.bool (!(symB x))) ∧ Below w.heap.size w w' := by
  have eg : ∀ args w, (callFunc 46 args).run Tryz.prog w = .ok (.enter 46 args) w := enters_of Tryz.func46 (by kernel_rfl) rfl
  have hlt : hb < w.heap.size := block_lt_of_cell hc
  have HB : Hid (Below w.heap.size w (w.alloc (.cells cs.toArray 47))) := Lib.hid ((Below.refl w.heap.size w).alloc (Nat.le_refl _) _)
  have HC := Lib.hid (cbSy_calls x cs _ (rSy_below hr HB.out) (hw.below HB.out))
  obtain ⟨a, c, rfl, g1, _⟩ := hr
  clear hw
  generalize symB x = r at HC
  go_enter Tryz.func95, Tryz.ntmps95
  go_wp2_with fail
  refine HC.out.mono ?_
  rintro e w1 ⟨rfl, k1⟩
  have HB1 := Lib.hid (HB.out.trans (k1.mono HB.out.size))
  clear k1
  go_wp2_with fail
  go_ret
  exact ⟨rfl, HB1.out⟩

set_option maxHeartbeats 2000000 in
set_option maxRecDepth 100000 in
theorem indexSy_calls {Y : TyT} {O : Prop} {T : TypeId} {O' : Prop} (a : Option Addr) (len cap : Nat) (L : List Sy) (hb : Nat) (w : World) (h : GIn (rSy Y O) T O' 4 w a len L) (hw : Wds w) (hc : w.cell? ⟨hb, 0, none⟩ = some (.func (.func 46) #[] #[])) :
    Calls Tryz.prog 121 #[.slice a len cap, .func (.func 95) #[] #[.pointer (some ⟨hb, 0, none⟩)]] w fun e w' => (∃ i : Int, e = .returned (.int .i64 i) ∧ decide (0 ≤ i) = !(L.all (fun x => symB x))) ∧ Below w.heap.size w w' := by
  have H := Lib.hid h
  have HL := Lib.hid h.leng
  have hsm := h.small
  have HW := Lib.hid hw
  have HF := Lib.hid hc
  have hlt0 : hb < w.heap.size := block_lt_of_cell hc
  have eg : ∀ args w, (callFunc 95 args).run Tryz.prog w = .ok (.enter 95 args) w := enters_of Tryz.func95 (by kernel_rfl) rfl
  clear h hw hc
  go_enter Tryz.func121, Tryz.ntmps121
  go_wp2_with fail
  go_loopw [8] (fun i wr => ∃ (n : Nat), n ≤ len ∧ i = .int .i64 n ∧ Hid (L.all (fun x => symB x) = (L.drop n).all (fun x => symB x)) ∧ Hid (Below w.heap.size w wr)) (fun i _ => len - (intOf i).toNat)
  case atStart => exact ⟨0, Nat.zero_le _, rfl, Lib.hid rfl, Lib.hid (Below.refl _ _)⟩
  case round =>
    obtain ⟨n, hn, rfl, HT, HB⟩ := hrel
    by_cases hlt : n < len
    case neg =>
      have HX := Lib.hid (all_end HT.out (by rw [HL.out]; omega))
      go_wp2_with fail
      go_ret
      exact ⟨⟨-1, rfl, by rw [HX.out]; rfl⟩, HB.out⟩
    case pos =>
      obtain ⟨x, hx⟩ := at_some HL.out hlt
      have HX := Lib.hid hx
      obtain ⟨g, off, csx, rfl, hg, _, hd, hr, _⟩ := (H.out.belowS HB.out).at' n x hx
      have HC := Lib.hid (allSy1_calls x hb wr csx hr (HW.out.below HB.out) ((HB.out.cell (p := ⟨hb, 0, none⟩) hlt0).trans HF.out))
      obtain ⟨a9, c9, rfl, g19, _⟩ := hr
      have c0_ : wr.cell? ⟨g, off + n * 4, none⟩ = some (.string x.n) := hd 0 _ rfl
      have c1_ : wr.cell? ⟨g, off + n * 4 + 1, none⟩ = some (.slice a9 x.ar.length c9) := hd 1 _ rfl
      have c2_ : wr.cell? ⟨g, off + n * 4 + 2, none⟩ = some (.int .i64 x.l) := hd 2 _ rfl
      have c3_ : wr.cell? ⟨g, off + n * 4 + 3, none⟩ = some (.int .i64 x.c) := hd 3 _ rfl
      clear hd hx
      cases e : symB x
      · rw [e] at HC
        have HE := Lib.hid (all_hit HT.out HX.out e)
        clear e
        go_wp2_with fail
        refine HC.out.mono ?_
        rintro e w1 ⟨rfl, k1⟩
        have HB1 := Lib.hid (HB.out.trans (k1.mono HB.out.size))
        clear k1
        go_wp2_with fail
        go_ret
        exact ⟨⟨n, rfl, by rw [HE.out]; exact decide_eq_true (by omega)⟩, HB1.out⟩
      · rw [e] at HC
        have HE := Lib.hid (all_step HT.out HX.out e)
        clear e
        go_wp2_with fail
        refine HC.out.mono ?_
        rintro e w1 ⟨rfl, k1⟩
        have HB1 := Lib.hid (HB.out.trans (k1.mono HB.out.size))
        clear k1
        go_wp2_with fail
        go_roundw
        case rel => exact ⟨n + 1, hlt, by go_num, HE, HB1⟩
        case measure => simp [intOf] <;> omega

set_option maxHeartbeats 1000000 in
set_option maxRecDepth 100000 in
theorem containsSy_calls {Y : TyT} {O : Prop} {T : TypeId} {O' : Prop} (a : Option Addr) (len cap : Nat) (L : List Sy) (hb : Nat) (w : World) (h : GIn (rSy Y O) T O' 4 w a len L) (hw : Wds w) (hc : w.cell? ⟨hb, 0, none⟩ = some (.func (.func 46) #[] #[])) :
    Calls Tryz.prog 94 #[.slice a len cap, .func (.func 95) #[] #[.pointer (some ⟨hb, 0, none⟩)]] w fun e w' => e = .returned (.bool (!(L.all (fun x => symB x)))) ∧ Below w.heap.size w w' := by
  have H1 := Lib.hid (indexSy_calls a len cap L hb w h hw hc)
  clear h hw hc
  go_enter Tryz.func94, Tryz.ntmps94
  go_wp2_with fail
  refine H1.out.mono ?_
  rintro e w1 ⟨⟨i, rfl, hi⟩, k1⟩
  have HI := Lib.hid hi
  clear hi
  go_wp2_with fail
  go_ret
  exact ⟨by rw [← HI.out]; rfl, k1⟩

set_option maxHeartbeats 1000000 in
set_option maxRecDepth 100000 in
theorem allSy_calls {Y : TyT} {O : Prop} {T : TypeId} {O' : Prop} (a : Option Addr) (len cap : Nat) (L : List Sy) (w : World) (h : GIn (rSy Y O) T O' 4 w a len L) (hw : Wds w) :
    Calls Tryz.prog 45 #[.slice a len cap, .func (.func 46) #[] #[]] w fun e w' => e = .returned (.bool (L.all (fun x => symB x))) ∧ Below w.heap.size w w' := by
  have HB : Hid (Below w.heap.size w (w.alloc (.cells #[.func (.func 46) #[] #[]] 44))) := Lib.hid ((Below.refl w.heap.size w).alloc (Nat.le_refl _) _)
  have H1 := Lib.hid (containsSy_calls a len cap L w.heap.size _ (h.belowS HB.out) (hw.below HB.out) (by rw [World.cell?_alloc_at (hn := rfl)]; rfl))
  have HV : Hid (∀ b, (!b) = !(L.all (fun x => symB x)) → b = L.all (fun x => symB x)) := Lib.hid (fun b h => by cases b <;> simp_all)
  clear h hw
  generalize L.all (fun x => symB x) = r at H1 HV
  go_enter Tryz.func45, Tryz.ntmps45
  go_wp2_with fail
  refine H1.out.mono ?_
  rintro e w1 ⟨rfl, k1⟩
  go_wp2_with fail
  go_ret
  exact ⟨rfl, HB.out.trans (k1.mono HB.out.size)⟩
end Go.Proofs.YtojabkhfkbfeaaaGreatDoor
