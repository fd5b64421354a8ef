/- What all does with any list of flat things. -/
import Derived.Test.YtojabkhfkbfeaaaGreatDoorTreeCb
import Derived.Laws.EntriesVeiled
import Derived.Shelf.Abstract
namespace Go.Proofs.YtojabkhfkbfeaaaGreatDoor
open Go.RowKit
set_option linter.unusedVariables false


set_option maxHeartbeats 2000000 in
set_option maxRecDepth 100000 in
theorem allInt1_calls (x : Int) (hb : Nat) (w : World) (hw : Wds w) (hc : w.cell? ⟨hb, 0, none⟩ = some (.func (.func 37) #[] #[])) :
    Calls Tryz.prog 83 #[.int .i64 x, .pointer (some ⟨hb, 0, none⟩)] w fun e w' => e = .returned (.bool (!(kindB x))) ∧ Below w.heap.size w w' := by
  have eg : ∀ args w, (callFunc 37 args).run Tryz.prog w = .ok (.enter 37 args) w := enters_of Tryz.func37 (by kernel_rfl) rfl
  have hlt : hb < w.heap.size := block_lt_of_cell hc
  have HC := Lib.hid (cbInt_calls x w)
  have HB : Hid (Below w.heap.size w w) := Lib.hid (Below.refl _ _)
  clear hw
  generalize kindB x = r at HC
  go_enter Tryz.func83, Tryz.ntmps83
  go_wp2_with fail
  refine HC.out.mono ?_
  rintro e w1 ⟨rfl, k1⟩
  have HB1 := Lib.hid (HB.out.trans (k1.mono HB.out.size))
  clear k1
  go_wp2_with fail
  go_ret
  exact ⟨rfl, HB1.out⟩

set_option maxHeartbeats 2000000 in
set_option maxRecDepth 100000 in
theorem indexInt_calls {T : TypeId} {O' : Prop} (a : Option Addr) (len cap : Nat) (L : List Int) (hb : Nat) (w : World) (h : GIn rInt T O' 1 w a len L) (hw : Wds w) (hc : w.cell? ⟨hb, 0, none⟩ = some (.func (.func 37) #[] #[])) :
    Calls Tryz.prog 117 #[.slice a len cap, .func (.func 83) #[] #[.pointer (some ⟨hb, 0, none⟩)]] w fun e w' => (∃ i : Int, e = .returned (.int .i64 i) ∧ decide (0 ≤ i) = !(L.all (fun x => kindB x))) ∧ Below w.heap.size w w' := by
  have H := Lib.hid h
  have HL := Lib.hid h.leng
  have hsm := h.small
  have HW := Lib.hid hw
  have HF := Lib.hid hc
  have hlt0 : hb < w.heap.size := block_lt_of_cell hc
  have eg : ∀ args w, (callFunc 83 args).run Tryz.prog w = .ok (.enter 83 args) w := enters_of Tryz.func83 (by kernel_rfl) rfl
  clear h hw hc
  go_enter Tryz.func117, Tryz.ntmps117
  go_wp2_with fail
  go_loopw [8] (fun i wr => ∃ (n : Nat), n ≤ len ∧ i = .int .i64 n ∧ Hid (L.all (fun x => kindB x) = (L.drop n).all (fun x => kindB x)) ∧ Hid (Below w.heap.size w wr)) (fun i _ => len - (intOf i).toNat)
  case atStart => exact ⟨0, Nat.zero_le _, rfl, Lib.hid rfl, Lib.hid (Below.refl _ _)⟩
  case round =>
    obtain ⟨n, hn, rfl, HT, HB⟩ := hrel
    by_cases hlt : n < len
    case neg =>
      have HX := Lib.hid (all_end HT.out (by rw [HL.out]; omega))
      go_wp2_with fail
      go_ret
      exact ⟨⟨-1, rfl, by rw [HX.out]; rfl⟩, HB.out⟩
    case pos =>
      obtain ⟨x, hx⟩ := at_some HL.out hlt
      have HX := Lib.hid hx
      obtain ⟨g, off, rfl, hg, hd, hok⟩ := (H.out.belowF HB.out).flat hx
      have c0 : wr.cell? ⟨g, off + n, none⟩ = some (.int .i64 x) := by have := hd 0 _ rfl; rwa [Nat.mul_one, Nat.add_zero] at this
      have HC := Lib.hid (allInt1_calls x hb wr (HW.out.below HB.out) ((HB.out.cell (p := ⟨hb, 0, none⟩) hlt0).trans HF.out))
      clear hd hx hok
      cases e : kindB x
      · rw [e] at HC
        have HE := Lib.hid (all_hit HT.out HX.out e)
        clear e
        go_wp2_with fail
        refine HC.out.mono ?_
        rintro e w1 ⟨rfl, k1⟩
        have HB1 := Lib.hid (HB.out.trans (k1.mono HB.out.size))
        clear k1
        go_wp2_with fail
        go_ret
        exact ⟨⟨n, rfl, by rw [HE.out]; exact decide_eq_true (by omega)⟩, HB1.out⟩
      · rw [e] at HC
        have HE := Lib.hid (all_step HT.out HX.out e)
        clear e
        go_wp2_with fail
        refine HC.out.mono ?_
        rintro e w1 ⟨rfl, k1⟩
        have HB1 := Lib.hid (HB.out.trans (k1.mono HB.out.size))
        clear k1
        go_wp2_with fail
        go_roundw
        case rel => exact ⟨n + 1, hlt, by go_num, HE, HB1⟩
        case measure => simp [intOf] <;> omega

set_option maxHeartbeats 1000000 in
set_option maxRecDepth 100000 in
theorem containsInt_calls {T : TypeId} {O' : Prop} (a : Option Addr) (len cap : Nat) (L : List Int) (hb : Nat) (w : World) (h : GIn rInt T O' 1 w a len L) (hw : Wds w) (hc : w.cell? ⟨hb, 0, none⟩ = some (.func (.func 37) #[] #[])) :
    Calls Tryz.prog 82 #[.slice a len cap, .func (.func 83) #[] #[.pointer (some ⟨hb, 0, none⟩)]] w fun e w' => e = .returned (.bool (!(L.all (fun x => kindB x)))) ∧ Below w.heap.size w w' := by
  have H1 := Lib.hid (indexInt_calls a len cap L hb w h hw hc)
  clear h hw hc
  go_enter Tryz.func82, Tryz.ntmps82
  go_wp2_with fail
  refine H1.out.mono ?_
  rintro e w1 ⟨⟨i, rfl, hi⟩, k1⟩
  have HI := Lib.hid hi
  clear hi
  go_wp2_with fail
  go_ret
  exact ⟨by rw [← HI.out]; rfl, k1⟩

set_option maxHeartbeats 1000000 in
set_option maxRecDepth 100000 in
theorem allInt_calls {T : TypeId} {O' : Prop} (a : Option Addr) (len cap : Nat) (L : List Int) (w : World) (h : GIn rInt T O' 1 w a len L) (hw : Wds w) :
    Calls Tryz.prog 36 #[.slice a len cap, .func (.func 37) #[] #[]] w fun e w' => e = .returned (.bool (L.all (fun x => kindB x))) ∧ Below w.heap.size w w' := by
  have HB : Hid (Below w.heap.size w (w.alloc (.cells #[.func (.func 37) #[] #[]] 79))) := Lib.hid ((Below.refl w.heap.size w).alloc (Nat.le_refl _) _)
  have H1 := Lib.hid (containsInt_calls a len cap L w.heap.size _ (h.belowF HB.out) (hw.below HB.out) (by rw [World.cell?_alloc_at (hn := rfl)]; rfl))
  have HV : Hid (∀ b, (!b) = !(L.all (fun x => kindB x)) → b = L.all (fun x => kindB x)) := Lib.hid (fun b h => by cases b <;> simp_all)
  clear h hw
  generalize L.all (fun x => kindB x) = r at H1 HV
  go_enter Tryz.func36, Tryz.ntmps36
  go_wp2_with fail
  refine H1.out.mono ?_
  rintro e w1 ⟨rfl, k1⟩
  go_wp2_with fail
  go_ret
  exact ⟨rfl, HB.out.trans (k1.mono HB.out.size)⟩

set_option maxHeartbeats 2000000 in
set_option maxRecDepth 100000 in
theorem allQu1_calls (x : Qu) (hb : Nat) (w : World) (hok : okS x.n.t) (hw : Wds w) (hc : w.cell? ⟨hb, 0, none⟩ = some (.func (.func 39) #[] #[])) :
    Calls Tryz.prog 86 #[.agg #[.bool x.all, .string x.n.t, .int .i64 x.n.l, .int .i64 x.n.c, .int .i64 x.t], .pointer (some ⟨hb, 0, none⟩)] w fun e w' => e = .returned (.bool (!(okQ x))) ∧ Below w.heap.size w w' := by
  have eg : ∀ args w, (callFunc 39 args).run Tryz.prog w = .ok (.enter 39 args) w := enters_of Tryz.func39 (by kernel_rfl) rfl
  have hlt : hb < w.heap.size := block_lt_of_cell hc
  have HB : Hid (Below w.heap.size w (w.alloc (.cells #[.bool x.all, .string x.n.t, .int .i64 x.n.l, .int .i64 x.n.c, .int .i64 x.t] 57))) := Lib.hid ((Below.refl w.heap.size w).alloc (Nat.le_refl _) _)
  have HC := Lib.hid (cbQu_calls x _ hok (hw.below HB.out))
  clear hok
  clear hw
  generalize okQ x = r at HC
  go_enter Tryz.func86, Tryz.ntmps86
  go_wp2_with fail
  refine HC.out.mono ?_
  rintro e w1 ⟨rfl, k1⟩
  have HB1 := Lib.hid (HB.out.trans (k1.mono HB.out.size))
  clear k1
  go_wp2_with fail
  go_ret
  exact ⟨rfl, HB1.out⟩

set_option maxHeartbeats 2000000 in
set_option maxRecDepth 100000 in
theorem indexQu_calls {T : TypeId} {O' : Prop} (a : Option Addr) (len cap : Nat) (L : List Qu) (hb : Nat) (w : World) (h : GIn rQu T O' 5 w a len L) (hw : Wds w) (hc : w.cell? ⟨hb, 0, none⟩ = some (.func (.func 39) #[] #[])) :
    Calls Tryz.prog 118 #[.slice a len cap, .func (.func 86) #[] #[.pointer (some ⟨hb, 0, none⟩)]] w fun e w' => (∃ i : Int, e = .returned (.int .i64 i) ∧ decide (0 ≤ i) = !(L.all (fun x => okQ x))) ∧ Below w.heap.size w w' := by
  have H := Lib.hid h
  have HL := Lib.hid h.leng
  have hsm := h.small
  have HW := Lib.hid hw
  have HF := Lib.hid hc
  have hlt0 : hb < w.heap.size := block_lt_of_cell hc
  have eg : ∀ args w, (callFunc 86 args).run Tryz.prog w = .ok (.enter 86 args) w := enters_of Tryz.func86 (by kernel_rfl) rfl
  clear h hw hc
  go_enter Tryz.func118, Tryz.ntmps118
  go_wp2_with fail
  go_loopw [8] (fun i wr => ∃ (n : Nat), n ≤ len ∧ i = .int .i64 n ∧ Hid (L.all (fun x => okQ x) = (L.drop n).all (fun x => okQ x)) ∧ Hid (Below w.heap.size w wr)) (fun i _ => len - (intOf i).toNat)
  case atStart => exact ⟨0, Nat.zero_le _, rfl, Lib.hid rfl, Lib.hid (Below.refl _ _)⟩
  case round =>
    obtain ⟨n, hn, rfl, HT, HB⟩ := hrel
    by_cases hlt : n < len
    case neg =>
      have HX := Lib.hid (all_end HT.out (by rw [HL.out]; omega))
      go_wp2_with fail
      go_ret
      exact ⟨⟨-1, rfl, by rw [HX.out]; rfl⟩, HB.out⟩
    case pos =>
      obtain ⟨x, hx⟩ := at_some HL.out hlt
      have HX := Lib.hid hx
      obtain ⟨g, off, rfl, hg, hd, hok⟩ := (H.out.belowF HB.out).flat hx
      have c0 : wr.cell? ⟨g, off + n * 5, none⟩ = some (.bool x.all) := hd 0 _ rfl
      have c1 : wr.cell? ⟨g, off + n * 5 + 1, none⟩ = some (.string x.n.t) := hd 1 _ rfl
      have c2 : wr.cell? ⟨g, off + n * 5 + 2, none⟩ = some (.int .i64 x.n.l) := hd 2 _ rfl
      have c3 : wr.cell? ⟨g, off + n * 5 + 3, none⟩ = some (.int .i64 x.n.c) := hd 3 _ rfl
      have c4 : wr.cell? ⟨g, off + n * 5 + 4, none⟩ = some (.int .i64 x.t) := hd 4 _ rfl
      have HC := Lib.hid (allQu1_calls x hb wr hok (HW.out.below HB.out) ((HB.out.cell (p := ⟨hb, 0, none⟩) hlt0).trans HF.out))
      clear hd hx hok
      cases e : okQ x
      · rw [e] at HC
        have HE := Lib.hid (all_hit HT.out HX.out e)
        clear e
        go_wp2_with fail
        refine HC.out.mono ?_
        rintro e w1 ⟨rfl, k1⟩
        have HB1 := Lib.hid (HB.out.trans (k1.mono HB.out.size))
        clear k1
        go_wp2_with fail
        go_ret
        exact ⟨⟨n, rfl, by rw [HE.out]; exact decide_eq_true (by omega)⟩, HB1.out⟩
      · rw [e] at HC
        have HE := Lib.hid (all_step HT.out HX.out e)
        clear e
        go_wp2_with fail
        refine HC.out.mono ?_
        rintro e w1 ⟨rfl, k1⟩
        have HB1 := Lib.hid (HB.out.trans (k1.mono HB.out.size))
        clear k1
        go_wp2_with fail
        go_roundw
        case rel => exact ⟨n + 1, hlt, by go_num, HE, HB1⟩
        case measure => simp [intOf] <;> omega

set_option maxHeartbeats 1000000 in
set_option maxRecDepth 100000 in
theorem containsQu_calls {T : TypeId} {O' : Prop} (a : Option Addr) (len cap : Nat) (L : List Qu) (hb : Nat) (w : World) (h : GIn rQu T O' 5 w a len L) (hw : Wds w) (hc : w.cell? ⟨hb, 0, none⟩ = some (.func (.func 39) #[] #[])) :
    Calls Tryz.prog 85 #[.slice a len cap, .func (.func 86) #[] #[.pointer (some ⟨hb, 0, none⟩)]] w fun e w' => e = .returned (.bool (!(L.all (fun x => okQ x)))) ∧ Below w.heap.size w w' := by
  have H1 := Lib.hid (indexQu_calls a len cap L hb w h hw hc)
  clear h hw hc
  go_enter Tryz.func85, Tryz.ntmps85
  go_wp2_with fail
  refine H1.out.mono ?_
  rintro e w1 ⟨⟨i, rfl, hi⟩, k1⟩
  have HI := Lib.hid hi
  clear hi
  go_wp2_with fail
  go_ret
  exact ⟨by rw [← HI.out]; rfl, k1⟩

set_option maxHeartbeats 1000000 in
set_option maxRecDepth 100000 in
theorem allQu_calls {T : TypeId} {O' : Prop} (a : Option Addr) (len cap : Nat) (L : List Qu) (w : World) (h : GIn rQu T O' 5 w a len L) (hw : Wds w) :
    Calls Tryz.prog 38 #[.slice a len cap, .func (.func 39) #[] #[]] w fun e w' => e = .returned (.bool (L.all (fun x => okQ x))) ∧ Below w.heap.size w w' := by
  have HB : Hid (Below w.heap.size w (w.alloc (.cells #[.func (.func 39) #[] #[]] 82))) := Lib.hid ((Below.refl w.heap.size w).alloc (Nat.le_refl _) _)
  have H1 := Lib.hid (containsQu_calls a len cap L w.heap.size _ (h.belowF HB.out) (hw.below HB.out) (by rw [World.cell?_alloc_at (hn := rfl)]; rfl))
  have HV : Hid (∀ b, (!b) = !(L.all (fun x => okQ x)) → b = L.all (fun x => okQ x)) := Lib.hid (fun b h => by cases b <;> simp_all)
  clear h hw
  generalize L.all (fun x => okQ x) = r at H1 HV
  go_enter Tryz.func38, Tryz.ntmps38
  go_wp2_with fail
  refine H1.out.mono ?_
  rintro e w1 ⟨rfl, k1⟩
  go_wp2_with fail
  go_ret
  exact ⟨rfl, HB.out.trans (k1.mono HB.out.size)⟩

set_option maxHeartbeats 2000000 in
set_option maxRecDepth 100000 in
theorem allFr1_calls (x : Fr) (hb : Nat) (w : World) (hok : okS x.n.t ∧ okV x.v) (hw : Wds w) (hc : w.cell? ⟨hb, 0, none⟩ = some (.func (.func 41) #[] #[])) :
    Calls Tryz.prog 88 #[.agg #[.string x.n.t, .int .i64 x.n.l, .int .i64 x.n.c, .int .i64 x.v.k, .int .i64 x.v.i, .string x.v.s, .bool x.v.b], .pointer (some ⟨hb, 0, none⟩)] w fun e w' => e = .returned (.bool (!(okF x))) ∧ Below w.heap.size w w' := by
  have eg : ∀ args w, (callFunc 41 args).run Tryz.prog w = .ok (.enter 41 args) w := enters_of Tryz.func41 (by kernel_rfl) rfl
  have hlt : hb < w.heap.size := block_lt_of_cell hc
  have HB : Hid (Below w.heap.size w (w.alloc (.cells #[.string x.n.t, .int .i64 x.n.l, .int .i64 x.n.c, .int .i64 x.v.k, .int .i64 x.v.i, .string x.v.s, .bool x.v.b] 43))) := Lib.hid ((Below.refl w.heap.size w).alloc (Nat.le_refl _) _)
  have HC := Lib.hid (cbFr_calls x _ hok (hw.below HB.out))
  clear hok
  clear hw
  generalize okF x = r at HC
  go_enter Tryz.func88, Tryz.ntmps88
  go_wp2_with fail
  refine HC.out.mono ?_
  rintro e w1 ⟨rfl, k1⟩
  have HB1 := Lib.hid (HB.out.trans (k1.mono HB.out.size))
  clear k1
  go_wp2_with fail
  go_ret
  exact ⟨rfl, HB1.out⟩

set_option maxHeartbeats 2000000 in
set_option maxRecDepth 100000 in
theorem indexFr_calls {T : TypeId} {O' : Prop} (a : Option Addr) (len cap : Nat) (L : List Fr) (hb : Nat) (w : World) (h : GIn rFr T O' 7 w a len L) (hw : Wds w) (hc : w.cell? ⟨hb, 0, none⟩ = some (.func (.func 41) #[] #[])) :
    Calls Tryz.prog 119 #[.slice a len cap, .func (.func 88) #[] #[.pointer (some ⟨hb, 0, none⟩)]] w fun e w' => (∃ i : Int, e = .returned (.int .i64 i) ∧ decide (0 ≤ i) = !(L.all (fun x => okF x))) ∧ Below w.heap.size w w' := by
  have H := Lib.hid h
  have HL := Lib.hid h.leng
  have hsm := h.small
  have HW := Lib.hid hw
  have HF := Lib.hid hc
  have hlt0 : hb < w.heap.size := block_lt_of_cell hc
  have eg : ∀ args w, (callFunc 88 args).run Tryz.prog w = .ok (.enter 88 args) w := enters_of Tryz.func88 (by kernel_rfl) rfl
  clear h hw hc
  go_enter Tryz.func119, Tryz.ntmps119
  go_wp2_with fail
  go_loopw [8] (fun i wr => ∃ (n : Nat), n ≤ len ∧ i = .int .i64 n ∧ Hid (L.all (fun x => okF x) = (L.drop n).all (fun x => okF x)) ∧ Hid (Below w.heap.size w wr)) (fun i _ => len - (intOf i).toNat)
  case atStart => exact ⟨0, Nat.zero_le _, rfl, Lib.hid rfl, Lib.hid (Below.refl _ _)⟩
  case round =>
    obtain ⟨n, hn, rfl, HT, HB⟩ := hrel
    by_cases hlt : n < len
    case neg =>
      have HX := Lib.hid (all_end HT.out (by rw [HL.out]; omega))
      go_wp2_with fail
      go_ret
      exact ⟨⟨-1, rfl, by rw [HX.out]; rfl⟩, HB.out⟩
    case pos =>
      obtain ⟨x, hx⟩ := at_some HL.out hlt
      have HX := Lib.hid hx
      obtain ⟨g, off, rfl, hg, hd, hok⟩ := (H.out.belowF HB.out).flat hx
      have c0 : wr.cell? ⟨g, off + n * 7, none⟩ = some (.string x.n.t) := hd 0 _ rfl
      have c1 : wr.cell? ⟨g, off + n * 7 + 1, none⟩ = some (.int .i64 x.n.l) := hd 1 _ rfl
      have c2 : wr.cell? ⟨g, off + n * 7 + 2, none⟩ = some (.int .i64 x.n.c) := hd 2 _ rfl
      have c3 : wr.cell? ⟨g, off + n * 7 + 3, none⟩ = some (.int .i64 x.v.k) := hd 3 _ rfl
      have c4 : wr.cell? ⟨g, off + n * 7 + 4, none⟩ = some (.int .i64 x.v.i) := hd 4 _ rfl
      have c5 : wr.cell? ⟨g, off + n * 7 + 5, none⟩ = some (.string x.v.s) := hd 5 _ rfl
      have c6 : wr.cell? ⟨g, off + n * 7 + 6, none⟩ = some (.bool x.v.b) := hd 6 _ rfl
      have HC := Lib.hid (allFr1_calls x hb wr hok (HW.out.below HB.out) ((HB.out.cell (p := ⟨hb, 0, none⟩) hlt0).trans HF.out))
      clear hd hx hok
      cases e : okF x
      · rw [e] at HC
        have HE := Lib.hid (all_hit HT.out HX.out e)
        clear e
        go_wp2_with fail
        refine HC.out.mono ?_
        rintro e w1 ⟨rfl, k1⟩
        have HB1 := Lib.hid (HB.out.trans (k1.mono HB.out.size))
        clear k1
        go_wp2_with fail
        go_ret
        exact ⟨⟨n, rfl, by rw [HE.out]; exact decide_eq_true (by omega)⟩, HB1.out⟩
      · rw [e] at HC
        have HE := Lib.hid (all_step HT.out HX.out e)
        clear e
        go_wp2_with fail
        refine HC.out.mono ?_
        rintro e w1 ⟨rfl, k1⟩
        have HB1 := Lib.hid (HB.out.trans (k1.mono HB.out.size))
        clear k1
        go_wp2_with fail
        go_roundw
        case rel => exact ⟨n + 1, hlt, by go_num, HE, HB1⟩
        case measure => simp [intOf] <;> omega

set_option maxHeartbeats 1000000 in
set_option maxRecDepth 100000 in
theorem containsFr_calls {T : TypeId} {O' : Prop} (a : Option Addr) (len cap : Nat) (L : List Fr) (hb : Nat) (w : World) (h : GIn rFr T O' 7 w a len L) (hw : Wds w) (hc : w.cell? ⟨hb, 0, none⟩ = some (.func (.func 41) #[] #[])) :
    Calls Tryz.prog 87 #[.slice a len cap, .func (.func 88) #[] #[.pointer (some ⟨hb, 0, none⟩)]] w fun e w' => e = .returned (.bool (!(L.all (fun x => okF x)))) ∧ Below w.heap.size w w' := by
  have H1 := Lib.hid (indexFr_calls a len cap L hb w h hw hc)
  clear h hw hc
  go_enter Tryz.func87, Tryz.ntmps87
  go_wp2_with fail
  refine H1.out.mono ?_
  rintro e w1 ⟨⟨i, rfl, hi⟩, k1⟩
  have HI := Lib.hid hi
  clear hi
  go_wp2_with fail
  go_ret
  exact ⟨by rw [← HI.out]; rfl, k1⟩

set_option maxHeartbeats 1000000 in
set_option maxRecDepth 100000 in
theorem allFr_calls {T : TypeId} {O' : Prop} (a : Option Addr) (len cap : Nat) (L : List Fr) (w : World) (h : GIn rFr T O' 7 w a len L) (hw : Wds w) :
    Calls Tryz.prog 40 #[.slice a len cap, .func (.func 41) #[] #[]] w fun e w' => e = .returned (.bool (L.all (fun x => okF x))) ∧ Below w.heap.size w w' := by
  have HB : Hid (Below w.heap.size w (w.alloc (.cells #[.func (.func 41) #[] #[]] 84))) := Lib.hid ((Below.refl w.heap.size w).alloc (Nat.le_refl _) _)
  have H1 := Lib.hid (containsFr_calls a len cap L w.heap.size _ (h.belowF HB.out) (hw.below HB.out) (by rw [World.cell?_alloc_at (hn := rfl)]; rfl))
  have HV : Hid (∀ b, (!b) = !(L.all (fun x => okF x)) → b = L.all (fun x => okF x)) := Lib.hid (fun b h => by cases b <;> simp_all)
  clear h hw
  generalize L.all (fun x => okF x) = r at H1 HV
  go_enter Tryz.func40, Tryz.ntmps40
  go_wp2_with fail
  refine H1.out.mono ?_
  rintro e w1 ⟨rfl, k1⟩
  go_wp2_with fail
  go_ret
  exact ⟨rfl, HB.out.trans (k1.mono HB.out.size)⟩

set_option maxHeartbeats 2000000 in
set_option maxRecDepth 100000 in
theorem allSta1_calls (x : Sta) (hb : Nat) (w : World) (hok : okS x.n.t) (hw : Wds w) (hc : w.cell? ⟨hb, 0, none⟩ = some (.func (.func 44) #[] #[])) :
    Calls Tryz.prog 93 #[.agg #[.string x.n.t, .int .i64 x.n.l, .int .i64 x.n.c, .bool x.nx, .bool x.ac], .pointer (some ⟨hb, 0, none⟩)] w fun e w' => e = .returned (.bool (!(okSt x))) ∧ Below w.heap.size w w' := by
  have eg : ∀ args w, (callFunc 44 args).run Tryz.prog w = .ok (.enter 44 args) w := enters_of Tryz.func44 (by kernel_rfl) rfl
  have hlt : hb < w.heap.size := block_lt_of_cell hc
  have HB : Hid (Below w.heap.size w (w.alloc (.cells #[.string x.n.t, .int .i64 x.n.l, .int .i64 x.n.c, .bool x.nx, .bool x.ac] 60))) := Lib.hid ((Below.refl w.heap.size w).alloc (Nat.le_refl _) _)
  have HC := Lib.hid (cbSta_calls x _ hok (hw.below HB.out))
  clear hok
  clear hw
  generalize okSt x = r at HC
  go_enter Tryz.func93, Tryz.ntmps93
  go_wp2_with fail
  refine HC.out.mono ?_
  rintro e w1 ⟨rfl, k1⟩
  have HB1 := Lib.hid (HB.out.trans (k1.mono HB.out.size))
  clear k1
  go_wp2_with fail
  go_ret
  exact ⟨rfl, HB1.out⟩

set_option maxHeartbeats 2000000 in
set_option maxRecDepth 100000 in
theorem indexSta_calls {T : TypeId} {O' : Prop} (a : Option Addr) (len cap : Nat) (L : List Sta) (hb : Nat) (w : World) (h : GIn rSta T O' 5 w a len L) (hw : Wds w) (hc : w.cell? ⟨hb, 0, none⟩ = some (.func (.func 44) #[] #[])) :
    Calls Tryz.prog 120 #[.slice a len cap, .func (.func 93) #[] #[.pointer (some ⟨hb, 0, none⟩)]] w fun e w' => (∃ i : Int, e = .returned (.int .i64 i) ∧ decide (0 ≤ i) = !(L.all (fun x => okSt x))) ∧ Below w.heap.size w w' := by
  have H := Lib.hid h
  have HL := Lib.hid h.leng
  have hsm := h.small
  have HW := Lib.hid hw
  have HF := Lib.hid hc
  have hlt0 : hb < w.heap.size := block_lt_of_cell hc
  have eg : ∀ args w, (callFunc 93 args).run Tryz.prog w = .ok (.enter 93 args) w := enters_of Tryz.func93 (by kernel_rfl) rfl
  clear h hw hc
  go_enter Tryz.func120, Tryz.ntmps120
  go_wp2_with fail
  go_loopw [8] (fun i wr => ∃ (n : Nat), n ≤ len ∧ i = .int .i64 n ∧ Hid (L.all (fun x => okSt x) = (L.drop n).all (fun x => okSt x)) ∧ Hid (Below w.heap.size w wr)) (fun i _ => len - (intOf i).toNat)
  case atStart => exact ⟨0, Nat.zero_le _, rfl, Lib.hid rfl, Lib.hid (Below.refl _ _)⟩
  case round =>
    obtain ⟨n, hn, rfl, HT, HB⟩ := hrel
    by_cases hlt : n < len
    case neg =>
      have HX := Lib.hid (all_end HT.out (by rw [HL.out]; omega))
      go_wp2_with fail
      go_ret
      exact ⟨⟨-1, rfl, by rw [HX.out]; rfl⟩, HB.out⟩
    case pos =>
      obtain ⟨x, hx⟩ := at_some HL.out hlt
      have HX := Lib.hid hx
      obtain ⟨g, off, rfl, hg, hd, hok⟩ := (H.out.belowF HB.out).flat hx
      have c0 : wr.cell? ⟨g, off + n * 5, none⟩ = some (.string x.n.t) := hd 0 _ rfl
      have c1 : wr.cell? ⟨g, off + n * 5 + 1, none⟩ = some (.int .i64 x.n.l) := hd 1 _ rfl
      have c2 : wr.cell? ⟨g, off + n * 5 + 2, none⟩ = some (.int .i64 x.n.c) := hd 2 _ rfl
      have c3 : wr.cell? ⟨g, off + n * 5 + 3, none⟩ = some (.bool x.nx) := hd 3 _ rfl
      have c4 : wr.cell? ⟨g, off + n * 5 + 4, none⟩ = some (.bool x.ac) := hd 4 _ rfl
      have HC := Lib.hid (allSta1_calls x hb wr hok (HW.out.below HB.out) ((HB.out.cell (p := ⟨hb, 0, none⟩) hlt0).trans HF.out))
      clear hd hx hok
      cases e : okSt x
      · rw [e] at HC
        have HE := Lib.hid (all_hit HT.out HX.out e)
        clear e
        go_wp2_with fail
        refine HC.out.mono ?_
        rintro e w1 ⟨rfl, k1⟩
        have HB1 := Lib.hid (HB.out.trans (k1.mono HB.out.size))
        clear k1
        go_wp2_with fail
        go_ret
        exact ⟨⟨n, rfl, by rw [HE.out]; exact decide_eq_true (by omega)⟩, HB1.out⟩
      · rw [e] at HC
        have HE := Lib.hid (all_step HT.out HX.out e)
        clear e
        go_wp2_with fail
        refine HC.out.mono ?_
        rintro e w1 ⟨rfl, k1⟩
        have HB1 := Lib.hid (HB.out.trans (k1.mono HB.out.size))
        clear k1
        go_wp2_with fail
        go_roundw
        case rel => exact ⟨n + 1, hlt, by go_num, HE, HB1⟩
        case measure => simp [intOf] <;> omega

set_option maxHeartbeats 1000000 in
set_option maxRecDepth 100000 in
theorem containsSta_calls {T : TypeId} {O' : Prop} (a : Option Addr) (len cap : Nat) (L : List Sta) (hb : Nat) (w : World) (h : GIn rSta T O' 5 w a len L) (hw : Wds w) (hc : w.cell? ⟨hb, 0, none⟩ = some (.func (.func 44) #[] #[])) :
    Calls Tryz.prog 92 #[.slice a len cap, .func (.func 93) #[] #[.pointer (some ⟨hb, 0, none⟩)]] w fun e w' => e = .returned (.bool (!(L.all (fun x => okSt x)))) ∧ Below w.heap.size w w' := by
  have H1 := Lib.hid (indexSta_calls a len cap L hb w h hw hc)
  clear h hw hc
  go_enter Tryz.func92, Tryz.ntmps92
  go_wp2_with fail
  refine H1.out.mono ?_
  rintro e w1 ⟨⟨i, rfl, hi⟩, k1⟩
  have HI := Lib.hid hi
  clear hi
  go_wp2_with fail
  go_ret
  exact ⟨by rw [← HI.out]; rfl, k1⟩

set_option maxHeartbeats 1000000 in
set_option maxRecDepth 100000 in
theorem allSta_calls {T : TypeId} {O' : Prop} (a : Option Addr) (len cap : Nat) (L : List Sta) (w : World) (h : GIn rSta T O' 5 w a len L) (hw : Wds w) :
    Calls Tryz.prog 43 #[.slice a len cap, .func (.func 44) #[] #[]] w fun e w' => e = .returned (.bool (L.all (fun x => okSt x))) ∧ Below w.heap.size w w' := by
  have HB : Hid (Below w.heap.size w (w.alloc (.cells #[.func (.func 44) #[] #[]] 86))) := Lib.hid ((Below.refl w.heap.size w).alloc (Nat.le_refl _) _)
  have H1 := Lib.hid (containsSta_calls a len cap L w.heap.size _ (h.belowF HB.out) (hw.below HB.out) (by rw [World.cell?_alloc_at (hn := rfl)]; rfl))
  have HV : Hid (∀ b, (!b) = !(L.all (fun x => okSt x)) → b = L.all (fun x => okSt x)) := Lib.hid (fun b h => by cases b <;> simp_all)
  clear h hw
  generalize L.all (fun x => okSt x) = r at H1 HV
  go_enter Tryz.func43, Tryz.ntmps43
  go_wp2_with fail
  refine H1.out.mono ?_
  rintro e w1 ⟨rfl, k1⟩
  go_wp2_with fail
  go_ret
  exact ⟨rfl, HB.out.trans (k1.mono HB.out.size)⟩

set_option maxHeartbeats 2000000 in
set_option maxRecDepth 100000 in
theorem allAg1_calls (x : Ag) (hb : Nat) (w : World) (hok : okA x) (hw : Wds w) (hc : w.cell? ⟨hb, 0, none⟩ = some (.func (.func 97) #[] #[])) :
    Calls Tryz.prog 123 #[.agg #[.int .i64 x.k, .string x.n, .int .i64 x.v.k, .int .i64 x.v.i, .string x.v.s, .bool x.v.b, .int .i64 x.l, .int .i64 x.c], .pointer (some ⟨hb, 0, none⟩)] w fun e w' => e = .returned (.bool (!(argB x))) ∧ Below w.heap.size w w' := by
  have eg : ∀ args w, (callFunc 97 args).run Tryz.prog w = .ok (.enter 97 args) w := enters_of Tryz.func97 (by kernel_rfl) rfl
  have hlt : hb < w.heap.size := block_lt_of_cell hc
  have HB : Hid (Below w.heap.size w (w.alloc (.cells #[.int .i64 x.k, .string x.n, .int .i64 x.v.k, .int .i64 x.v.i, .string x.v.s, .bool x.v.b, .int .i64 x.l, .int .i64 x.c] 101))) := Lib.hid ((Below.refl w.heap.size w).alloc (Nat.le_refl _) _)
  have HC := Lib.hid (cbAg_calls x _ hok (hw.below HB.out))
  clear hok
  clear hw
  generalize argB x = r at HC
  go_enter Tryz.func123, Tryz.ntmps123
  go_wp2_with fail
  refine HC.out.mono ?_
  rintro e w1 ⟨rfl, k1⟩
  have HB1 := Lib.hid (HB.out.trans (k1.mono HB.out.size))
  clear k1
  go_wp2_with fail
  go_ret
  exact ⟨rfl, HB1.out⟩

set_option maxHeartbeats 2000000 in
set_option maxRecDepth 100000 in
theorem indexAg_calls {T : TypeId} {O' : Prop} (a : Option Addr) (len cap : Nat) (L : List Ag) (hb : Nat) (w : World) (h : GIn rAg T O' 8 w a len L) (hw : Wds w) (hc : w.cell? ⟨hb, 0, none⟩ = some (.func (.func 97) #[] #[])) :
    Calls Tryz.prog 131 #[.slice a len cap, .func (.func 123) #[] #[.pointer (some ⟨hb, 0, none⟩)]] w fun e w' => (∃ i : Int, e = .returned (.int .i64 i) ∧ decide (0 ≤ i) = !(L.all (fun x => argB x))) ∧ Below w.heap.size w w' := by
  have H := Lib.hid h
  have HL := Lib.hid h.leng
  have hsm := h.small
  have HW := Lib.hid hw
  have HF := Lib.hid hc
  have hlt0 : hb < w.heap.size := block_lt_of_cell hc
  have eg : ∀ args w, (callFunc 123 args).run Tryz.prog w = .ok (.enter 123 args) w := enters_of Tryz.func123 (by kernel_rfl) rfl
  clear h hw hc
  go_enter Tryz.func131, Tryz.ntmps131
  go_wp2_with fail
  go_loopw [8] (fun i wr => ∃ (n : Nat), n ≤ len ∧ i = .int .i64 n ∧ Hid (L.all (fun x => argB x) = (L.drop n).all (fun x => argB x)) ∧ Hid (Below w.heap.size w wr)) (fun i _ => len - (intOf i).toNat)
  case atStart => exact ⟨0, Nat.zero_le _, rfl, Lib.hid rfl, Lib.hid (Below.refl _ _)⟩
  case round =>
    obtain ⟨n, hn, rfl, HT, HB⟩ := hrel
    by_cases hlt : n < len
    case neg =>
      have HX := Lib.hid (all_end HT.out (by rw [HL.out]; omega))
      go_wp2_with fail
      go_ret
      exact ⟨⟨-1, rfl, by rw [HX.out]; rfl⟩, HB.out⟩
    case pos =>
      obtain ⟨x, hx⟩ := at_some HL.out hlt
      have HX := Lib.hid hx
      obtain ⟨g, off, rfl, hg, hd, hok⟩ := (H.out.belowF HB.out).flat hx
      have c0 : wr.cell? ⟨g, off + n * 8, none⟩ = some (.int .i64 x.k) := hd 0 _ rfl
      have c1 : wr.cell? ⟨g, off + n * 8 + 1, none⟩ = some (.string x.n) := hd 1 _ rfl
      have c2 : wr.cell? ⟨g, off + n * 8 + 2, none⟩ = some (.int .i64 x.v.k) := hd 2 _ rfl
      have c3 : wr.cell? ⟨g, off + n * 8 + 3, none⟩ = some (.int .i64 x.v.i) := hd 3 _ rfl
      have c4 : wr.cell? ⟨g, off + n * 8 + 4, none⟩ = some (.string x.v.s) := hd 4 _ rfl
      have c5 : wr.cell? ⟨g, off + n * 8 + 5, none⟩ = some (.bool x.v.b) := hd 5 _ rfl
      have c6 : wr.cell? ⟨g, off + n * 8 + 6, none⟩ = some (.int .i64 x.l) := hd 6 _ rfl
      have c7 : wr.cell? ⟨g, off + n * 8 + 7, none⟩ = some (.int .i64 x.c) := hd 7 _ rfl
      have HC := Lib.hid (allAg1_calls x hb wr hok (HW.out.below HB.out) ((HB.out.cell (p := ⟨hb, 0, none⟩) hlt0).trans HF.out))
      clear hd hx hok
      cases e : argB x
      · rw [e] at HC
        have HE := Lib.hid (all_hit HT.out HX.out e)
        clear e
        go_wp2_with fail
        refine HC.out.mono ?_
        rintro e w1 ⟨rfl, k1⟩
        have HB1 := Lib.hid (HB.out.trans (k1.mono HB.out.size))
        clear k1
        go_wp2_with fail
        go_ret
        exact ⟨⟨n, rfl, by rw [HE.out]; exact decide_eq_true (by omega)⟩, HB1.out⟩
      · rw [e] at HC
        have HE := Lib.hid (all_step HT.out HX.out e)
        clear e
        go_wp2_with fail
        refine HC.out.mono ?_
        rintro e w1 ⟨rfl, k1⟩
        have HB1 := Lib.hid (HB.out.trans (k1.mono HB.out.size))
        clear k1
        go_wp2_with fail
        go_roundw
        case rel => exact ⟨n + 1, hlt, by go_num, HE, HB1⟩
        case measure => simp [intOf] <;> omega

set_option maxHeartbeats 1000000 in
set_option maxRecDepth 100000 in
theorem containsAg_calls {T : TypeId} {O' : Prop} (a : Option Addr) (len cap : Nat) (L : List Ag) (hb : Nat) (w : World) (h : GIn rAg T O' 8 w a len L) (hw : Wds w) (hc : w.cell? ⟨hb, 0, none⟩ = some (.func (.func 97) #[] #[])) :
    Calls Tryz.prog 122 #[.slice a len cap, .func (.func 123) #[] #[.pointer (some ⟨hb, 0, none⟩)]] w fun e w' => e = .returned (.bool (!(L.all (fun x => argB x)))) ∧ Below w.heap.size w w' := by
  have H1 := Lib.hid (indexAg_calls a len cap L hb w h hw hc)
  clear h hw hc
  go_enter Tryz.func122, Tryz.ntmps122
  go_wp2_with fail
  refine H1.out.mono ?_
  rintro e w1 ⟨⟨i, rfl, hi⟩, k1⟩
  have HI := Lib.hid hi
  clear hi
  go_wp2_with fail
  go_ret
  exact ⟨by rw [← HI.out]; rfl, k1⟩

set_option maxHeartbeats 1000000 in
set_option maxRecDepth 100000 in
theorem allAg_calls {T : TypeId} {O' : Prop} (a : Option Addr) (len cap : Nat) (L : List Ag) (w : World) (h : GIn rAg T O' 8 w a len L) (hw : Wds w) :
    Calls Tryz.prog 96 #[.slice a len cap, .func (.func 97) #[] #[]] w fun e w' => e = .returned (.bool (L.all (fun x => argB x))) ∧ Below w.heap.size w w' := by
  have HB : Hid (Below w.heap.size w (w.alloc (.cells #[.func (.func 97) #[] #[]] 124))) := Lib.hid ((Below.refl w.heap.size w).alloc (Nat.le_refl _) _)
  have H1 := Lib.hid (containsAg_calls a len cap L w.heap.size _ (h.belowF HB.out) (hw.below HB.out) (by rw [World.cell?_alloc_at (hn := rfl)]; rfl))
  have HV : Hid (∀ b, (!b) = !(L.all (fun x => argB x)) → b = L.all (fun x => argB x)) := Lib.hid (fun b h => by cases b <;> simp_all)
  clear h hw
  generalize L.all (fun x => argB x) = r at H1 HV
  go_enter Tryz.func96, Tryz.ntmps96
  go_wp2_with fail
  refine H1.out.mono ?_
  rintro e w1 ⟨rfl, k1⟩
  go_wp2_with fail
  go_ret
  exact ⟨rfl, HB.out.trans (k1.mono HB.out.size)⟩
end Go.Proofs.YtojabkhfkbfeaaaGreatDoor
