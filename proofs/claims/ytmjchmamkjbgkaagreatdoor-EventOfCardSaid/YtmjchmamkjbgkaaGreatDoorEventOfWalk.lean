/- The walk of the law EventOf: with any schema and any row it answers true. -/
import Derived.Test.YtmjchmamkjbgkaaGreatDoorEvAwake
import Derived.Test.YtmjchmamkjbgkaaGreatDoorLowEvR
import Derived.Deep.RegionHeld3
import Derived.BigQuiet
namespace Go.Proofs.YtmjchmamkjbgkaaGreatDoor.eventOf
open Go.RowKit
set_option linter.unusedVariables false

/-- What the law keeps of both answers: an event, a failure, and the reference's event. -/
structure OfSt (w0 : World) (p r : Nat) (y : ByteArray) (s : Value) (fe fc : Nat) (z : ByteArray) (u : Value) (W : World) : Prop where
  below : Below w0.heap.size w0 W
  e : EBx p y s W
  f : W.cell? ⟨p + 1, 0, none⟩ = some (.int .i64 (fe : Nat)) ∧ W.cell? ⟨p + 1, 1, none⟩ = some (.int .i64 0) ∧ W.cell? ⟨p + 1, 2, none⟩ = some (.int .i64 (fc : Nat))
  x : EBx r z u W
structure OfPre (w0 : World) (p : Nat) (y : ByteArray) (s : Value) (fe fc : Nat) (W : World) : Prop where
  below : Below w0.heap.size w0 W
  e : EBx p y s W
  f : W.cell? ⟨p + 1, 0, none⟩ = some (.int .i64 (fe : Nat)) ∧ W.cell? ⟨p + 1, 1, none⟩ = some (.int .i64 0) ∧ W.cell? ⟨p + 1, 2, none⟩ = some (.int .i64 (fc : Nat))
theorem OfPre.lt {w0 W : World} {p : Nat} {y : ByteArray} {s : Value} {fe fc : Nat} (h : OfPre w0 p y s fe fc W) : p + 1 < W.heap.size := block_lt_of_cell h.f.1
theorem OfSt.step {w0 W W' : World} {p r : Nat} {y z : ByteArray} {s u : Value} {fe fc : Nat} (h : OfSt w0 p r y s fe fc z u W) (k : Below W.heap.size W W') : OfSt w0 p r y s fe fc z u W' :=
  ⟨h.below.trans (k.mono h.below.size), h.e.below k (block_lt_of_cell h.e.1), ⟨(k.cell (block_lt_of_cell h.f.1)).trans h.f.1, (k.cell (block_lt_of_cell h.f.2.1)).trans h.f.2.1, (k.cell (block_lt_of_cell h.f.2.2)).trans h.f.2.2⟩, h.x.below k (block_lt_of_cell h.x.1)⟩
theorem OfPre.new {w0 w1 w2 : World} {y : ByteArray} {s : Value} {fe fc : Nat} (h1 : Below w0.heap.size w0 w1) (k2 : Below ((w1.alloc (.cells #[.string y, s] 29)).alloc (.cells #[.int .i64 (fe : Nat), .int .i64 0, .int .i64 (fc : Nat)] 32)).heap.size ((w1.alloc (.cells #[.string y, s] 29)).alloc (.cells #[.int .i64 (fe : Nat), .int .i64 0, .int .i64 (fc : Nat)] 32)) w2) :
    OfPre w0 w1.heap.size y s fe fc w2 := by
  have hz : (w1.alloc (.cells #[.string y, s] 29)).heap.size = w1.heap.size + 1 := by simp
  have hb2 := (h1.alloc h1.size (.cells #[.string y, s] 29)).alloc (by have := h1.size; simp; omega) (.cells #[.int .i64 (fe : Nat), .int .i64 0, .int .i64 (fc : Nat)] 32)
  have hb3 := hb2.trans (k2.mono hb2.size)
  have e0 := (EBx.new y s w1 29).below ((Below.refl (w1.alloc (.cells #[.string y, s] 29)).heap.size _).alloc (Nat.le_refl _) (.cells #[.int .i64 (fe : Nat), .int .i64 0, .int .i64 (fc : Nat)] 32)) (by simp)
  have f0 : ∀ j v, (#[.int .i64 (fe : Nat), .int .i64 0, .int .i64 (fc : Nat)] : Array Value)[j]? = some v → ((w1.alloc (.cells #[.string y, s] 29)).alloc (.cells #[.int .i64 (fe : Nat), .int .i64 0, .int .i64 (fc : Nat)] 32)).cell? ⟨w1.heap.size + 1, j, none⟩ = some v := fun j v hj => by rw [← hz]; exact cell_new _ _ _ hj
  have hl1 : w1.heap.size + 1 < ((w1.alloc (.cells #[.string y, s] 29)).alloc (.cells #[.int .i64 (fe : Nat), .int .i64 0, .int .i64 (fc : Nat)] 32)).heap.size := by simp
  exact ⟨hb3, e0.below k2 (by simp; omega), (k2.cell (p := ⟨w1.heap.size + 1, 0, none⟩) hl1).trans (f0 0 _ rfl), (k2.cell (p := ⟨w1.heap.size + 1, 1, none⟩) hl1).trans (f0 1 _ rfl), (k2.cell (p := ⟨w1.heap.size + 1, 2, none⟩) hl1).trans (f0 2 _ rfl)⟩
theorem OfPre.st {w0 w2 : World} {p : Nat} {y z : ByteArray} {s u : Value} {fe fc : Nat} (h : OfPre w0 p y s fe fc w2) : OfSt w0 p w2.heap.size y s fe fc z u (w2.alloc (.cells #[.string z, u] 29)) :=
  ⟨h.below.alloc h.below.size _, ⟨cell_alloc h.e.1 _, cell_alloc h.e.2 _⟩, ⟨cell_alloc h.f.1 _, cell_alloc h.f.2.1 _, cell_alloc h.f.2.2 _⟩, EBx.new z u w2 29⟩

/-- .. with both lists of arguments. -/
structure St17 (w0 : World) (p r : Nat) (y : ByteArray) (a : Option Addr) (n c : Nat) (a' : Option Addr) (c' : Nat) (A : List Vd) (W : World) : Prop where
  st : OfSt w0 p r y (.slice a n c) 0 0 y (.slice a' n c') W
  v1 : VIn W a n A
  v2 : VIn W a' n A
theorem St17.step {w0 W W' : World} {p r : Nat} {y : ByteArray} {a a' : Option Addr} {n c c' : Nat} {A : List Vd} (h : St17 w0 p r y a n c a' c' A W) (k : Below W.heap.size W W') : St17 w0 p r y a n c a' c' A W' :=
  ⟨h.st.step k, h.v1.below k, h.v2.below k⟩
theorem St17.drew {w0 W : World} {p r : Nat} {y : ByteArray} {a a' : Option Addr} {n c c' : Nat} {A : List Vd} (h : St17 w0 p r y a n c a' c' A W) : St17 w0 p r y a n c a' c' A W.drew := h.step ((Below.refl W.heap.size W).drew)
theorem St17.limbs {w0 W : World} {p r : Nat} {y : ByteArray} {a a' : Option Addr} {n c c' : Nat} {A : List Vd} (h : St17 w0 p r y a n c a' c' A W) :
    W.cell? ⟨p, 0, none⟩ = some (.string y) ∧ W.cell? ⟨p, 1, none⟩ = some (.slice a n c) ∧ W.cell? ⟨r, 0, none⟩ = some (.string y) ∧ W.cell? ⟨r, 1, none⟩ = some (.slice a' n c') := ⟨h.st.e.1, h.st.e.2, h.st.x.1, h.st.x.2⟩

set_option maxHeartbeats 8000000 in
set_option maxRecDepth 100000 in
theorem walk (la : Option Addr) (llen lcap : Nat) (L : List Dc) (ra : Option Addr) (rlen rcap : Nat) (row : List (List UInt8)) (w : World) (hl : DIn w la llen L) (hr : TIn w ra rlen row) (hc : rlen ≤ rcap ∧ rcap ≤ 9223372036854775807) (hL : Laid w) (het : ErrT w) (hm : MaxC w) :
    Calls Tryz.prog 3 #[.slice la llen lcap, .slice ra rlen rcap] w fun e w' => e = .returned (.bool true) ∧ Below w.heap.size w w' := by
  have HAw := Lib.hid (fun w1 (hb : Below w.heap.size w w1) => evAwake_calls w1 (hL.below hb) (het.below hb))
  have HR := Lib.hid (evR_calls la llen lcap L w hl)
  have HFw := Lib.hid (fun w1 (hb : Below w.heap.size w w1) => evFew_calls ra rlen rcap row w1 (hr.below hb))
  cases hrs : rightS L with
  | false =>
    rw [hrs] at HR
    clear hl hr hc hL het hm hrs
    go_enter Tryz.func3, Tryz.ntmps3
    go_wp2_with fail
    refine HR.out.mono ?_
    rintro e w1 ⟨rfl, k1⟩
    have HB1 := Lib.hid k1
    clear k1
    go_wp2_with fail
    refine (HAw.out _ HB1.out).mono ?_
    rintro e w2 ⟨rfl, k2⟩
    go_wp2_with fail
    go_ret
    exact ⟨rfl, HB1.out.trans (k2.mono HB1.out.size)⟩
  | true =>
    rw [hrs] at HR
    obtain ⟨hsch, hl32⟩ := sch_of hrs
    cases hfw : fewR row with
    | false =>
      rw [hfw] at HFw
      clear hl hr hc hL het hm hrs hsch hl32 hfw
      go_enter Tryz.func3, Tryz.ntmps3
      go_wp2_with fail
      refine HR.out.mono ?_
      rintro e w1 ⟨rfl, k1⟩
      have HB1 := Lib.hid k1
      clear k1
      go_wp2_with fail
      refine (HFw.out _ HB1.out).mono ?_
      rintro e w1' ⟨rfl, hw⟩
      subst hw
      go_wp2_with fail
      refine (HAw.out _ HB1.out).mono ?_
      rintro e w2 ⟨rfl, k2⟩
      go_wp2_with fail
      go_ret
      exact ⟨rfl, HB1.out.trans (k2.mono HB1.out.size)⟩
    | true =>
      rw [hfw] at HFw
      obtain ⟨hf1, hf2⟩ := fewR_facts hfw
      have hrl : rlen ≤ 12 := by rw [← hr.leng]; exact hf1
      have HO := Lib.hid (fun w1 (hb : Below w.heap.size w w1) => of_calls' la llen lcap L ra rlen rcap row w1 (hl.below hb) (hr.below hb) hsch (fun f hf => by have := hf2 f hf; omega) hc (hL.below hb) (het.below hb))
      have HQ := Lib.hid (fun w1 (hb : Below w.heap.size w w1) => refOf_calls la llen lcap L ra rlen rcap row w1 (hl.below hb) (hr.below hb) hsch (fun f hf => by have := hf2 f hf; omega) (by omega))
      cases hx : ofL L row with
      | error e0 =>
        obtain ⟨er, ec⟩ := e0
        rw [hx] at HO HQ
        have her := (of_errs hx).1
        have t1 : ((er : Int) != 0) = true := by simpa using her
        clear hl hr hc hL het hm hrs hsch hl32 hfw hf1 hf2 hrl hx her
        go_enter Tryz.func3, Tryz.ntmps3
        go_wp2_with fail
        refine HR.out.mono ?_
        rintro e w1 ⟨rfl, k1⟩
        have HB1 := Lib.hid k1
        clear k1
        go_wp2_with fail
        refine (HFw.out _ HB1.out).mono ?_
        rintro e w1' ⟨rfl, hw⟩
        subst hw
        go_wp2_with fail
        refine (HO.out _ HB1.out).mono ?_
        rintro e w2 ⟨he, k2⟩
        simp only [failV] at he
        subst he
        have HB2 := Lib.hid (HB1.out.trans (k2.mono HB1.out.size))
        have HB2' := Lib.hid ((HB2.out.alloc HB2.out.size (.cells #[.string ⟨#[]⟩, .slice none 0 0] 29)).alloc (by have := HB2.out.size; simp; omega) (.cells #[.int .i64 (er : Nat), .int .i64 0, .int .i64 (ec : Nat)] 32))
        clear k2
        go_wp2_with fail
        refine (HQ.out _ HB2'.out).mono ?_
        rintro e w3 ⟨he, k3⟩
        subst he
        have hP := OfPre.new HB2.out k3
        have HS := Lib.hid (hP.st (z := ⟨#[]⟩) (u := .slice none 0 0))
        have H1 := Lib.hid (fun w4 => refEvSame_calls ⟨#[]⟩ none 0 0 [] ⟨#[]⟩ none 0 0 [] w4 VIn.nil VIn.nil)
        rw [show sameE ((⟨#[]⟩ : ByteArray), ([] : List Vd)) (⟨#[]⟩, []) = true from sameE_refl _] at H1
        obtain ⟨d0, d1⟩ := hP.e
        have hz1 := hP.lt
        have hz0 : w2.heap.size < w3.heap.size := by omega
        clear k3 hP
        go_wp2_with fail
        refine (H1.out _).mono ?_
        rintro e w4 ⟨rfl, k4⟩
        have hS4 := HS.out.step k4
        obtain ⟨f0, f1, f2⟩ := hS4.f
        have HB4 := Lib.hid hS4.below
        clear hS4 k4 d0 d1
        go_wp2_with fail
        refine (HAw.out _ HB4.out).mono ?_
        rintro e w5 ⟨rfl, k5⟩
        go_wp2_with fail
        go_ret
        exact ⟨rfl, HB4.out.trans (k5.mono HB4.out.size)⟩
      | ok y =>
        obtain ⟨nm, A⟩ := y
        rw [hx] at HO HQ
        obtain ⟨hrE, hrow, hAll⟩ := of_right hsch.1 hx
        have hAl : A.length + 1 = row.length := by rw [← hrow]; exact (rowE_len nm A).symm
        have hrow0 : row = nm.data.toList :: A.map fieldE := hrow.symm
        have hnm : nm.size ≤ 5000 := by
          rw [sc_size]; exact hf2 _ (by rw [hrow0]; simp)
        have hcost : costF row ≤ 3000000 := by
          have := cost_le row 5000 hf2
          have h2 : (2 * 5000 + 3) * row.length ≤ (2 * 5000 + 3) * 12 := Nat.mul_le_mul_left _ hf1
          omega
        obtain ⟨n, hn⟩ : ∃ n, n = A.length := ⟨_, rfl⟩
        have hn12 : n ≤ 12 := by omega
        have hrn : rlen = n + 1 := by rw [← hr.leng]; omega
        have HSame := Lib.hid (fun (a : Option Addr) (c : Nat) (a' : Option Addr) (c' : Nat) w4 (v1 : VIn w4 a n A) (v2 : VIn w4 a' n A) => refEvSame_calls nm a n c A nm a' n c' A w4 v1 v2)
        rw [sameE_refl] at HSame
        have HRow : Hid (∀ (a : Option Addr) (c : Nat) w4, VIn w4 a n A → Below w.heap.size w w4 → Calls Tryz.prog 14 #[.agg #[.string nm, .slice a n c]] w4 fun e w' => ∃ b cb, e = .returned (.slice b rlen cb) ∧ TIn w' b rlen row ∧ Below w4.heap.size w4 w') := Lib.hid (fun a c w4 v1 hb => (evRow_calls nm a n c A w4 v1 (by omega) (hL.below hb)).mono (by
          rintro e w' ⟨b, cb, e1, e2, _, e3⟩
          rw [hrow, ← hAl, ← hn, ← hrn] at e1 e2
          exact ⟨b, cb, e1, e2, e3⟩))
        have HTI := Lib.hid (fun w4 (hb : Below w.heap.size w w4) => hr.below hb)
        have HRi := Lib.hid (fun (a : Option Addr) (c : Nat) w4 (v1 : VIn w4 a n A) (hb : Below w.heap.size w w4) => evRight_calls la llen lcap L nm a n c A w4 (hl.below hb) v1)
        rw [hrE] at HRi
        have HTx := Lib.hid (fun (a : Option Addr) (c : Nat) w4 (v1 : VIn w4 a n A) (hb : Below w.heap.size w w4) => evText_calls nm a n c A w4 v1 (by omega) (by omega) (allD_vt hAll) (hL.below hb))
        have HTr := Lib.hid (fun (a : Option Addr) (c : Nat) w4 (v1 : VIn w4 a n A) => refEvText_calls nm a n c A w4 v1 (by omega) (by omega) (allD_vt hAll) (allD_right hAll))
        have HLn := Lib.hid (fun (a : Option Addr) (c : Nat) w4 (v1 : VIn w4 a n A) (hb : Below w.heap.size w w4) => evLine_calls nm a n c A w4 v1 (by omega) (by rw [hrow]; exact hcost) (hL.below hb) (hm.below hb))
        rw [hrow] at HLn
        have HLr := Lib.hid (fun w4 (hb : Below w.heap.size w w4) => refLine_calls ra rlen rcap row w4 (hr.below hb) (by omega) hcost)
        have HRl := Lib.hid hr.leng
        rw [show (OfPost (Except.ok (nm, A)) : World → Ending → World → Prop) = fun w1 e w' => (∃ a cap, e = .returned (.tuple #[.agg #[.string nm, .slice a n cap], .agg #[.int .i64 0, .int .i64 0, .int .i64 0]]) ∧ VIn w' a n A ∧ VObj w' a) ∧ Below w1.heap.size w1 w' by rw [hn]; rfl] at HO
        rw [show (RefOfPost (Except.ok (nm, A)) : World → Ending → World → Prop) = fun w1 e w' => (∃ a cap, e = .returned (.tuple #[.agg #[.string nm, .slice a n cap], .int .i64 0, .int .i64 0]) ∧ VIn w' a n A ∧ VObj w' a) ∧ Below w1.heap.size w1 w' by rw [hn]; rfl] at HQ
        obtain ⟨TX, hTX⟩ : ∃ TX, TX = etT (nm, A) := ⟨_, rfl⟩
        rw [← hTX] at HTx HTr
        obtain ⟨LN, hLN⟩ : ∃ LN : ByteArray, LN = ⟨(lineL row).toArray⟩ := ⟨_, rfl⟩
        rw [← hLN] at HLn HLr
        clear hl hr hc hL het hm hrs hsch hl32 hfw hf1 hf2 hx hrE hrow hAll hAl hrow0 hnm hcost hn hrn hTX hLN
        go_enter Tryz.func3, Tryz.ntmps3
        go_wp2_with fail
        refine HR.out.mono ?_
        rintro e w1 ⟨rfl, k1⟩
        have HB1 := Lib.hid k1
        clear k1
        go_wp2_with fail
        refine (HFw.out _ HB1.out).mono ?_
        rintro e w1' ⟨rfl, hw⟩
        subst hw
        go_wp2_with fail
        refine (HO.out _ HB1.out).mono ?_
        rintro e w2 ⟨⟨a, c, rfl, hv, _⟩, k2⟩
        have HB2 := Lib.hid (HB1.out.trans (k2.mono HB1.out.size))
        have hx2 := ((Below.refl w2.heap.size w2).alloc (Nat.le_refl _) (.cells #[.string nm, .slice a n c] 29)).alloc (by simp) (.cells #[.int .i64 0, .int .i64 0, .int .i64 0] 32)
        have HB2' := Lib.hid (HB2.out.trans (hx2.mono HB2.out.size))
        have HV2 := Lib.hid (hv.below hx2)
        clear k2 hx2 hv
        go_wp2_with fail
        refine (HQ.out _ HB2'.out).mono ?_
        rintro e w3 ⟨⟨a', c', rfl, hv', _⟩, k3⟩
        have hP := OfPre.new (fe := 0) (fc := 0) HB2.out k3
        have hx3 := (Below.refl w3.heap.size w3).alloc (Nat.le_refl _) (.cells #[.string nm, .slice a' n c'] 29)
        have HS3 : Hid (St17 w w2.heap.size w3.heap.size nm a n c a' c' A (w3.alloc (.cells #[.string nm, .slice a' n c'] 29))) := Lib.hid ⟨hP.st, (HV2.out.below k3).below hx3, hv'.below hx3⟩
        obtain ⟨d0, d1⟩ := hP.e
        have hz1 := hP.lt
        have hz0 : w2.heap.size < w3.heap.size := by omega
        clear k3 hP hx3 hv' HV2 HB2' HB2 HB1
        go_wp2_with fail
        refine (HSame.out _ _ _ _ _ HS3.out.v1 HS3.out.v2).mono ?_
        rintro e w4 ⟨rfl, k4⟩
        have hS4 := HS3.out.step k4
        obtain ⟨f0, f1, f2⟩ := hS4.st.f
        obtain ⟨d0', d1'⟩ := hS4.st.e
        have HS4 := Lib.hid hS4
        clear hS4 k4 d0 d1 HS3 hz0 hz1
        go_wp2_with fail
        refine (HRow.out _ _ _ HS4.out.v1 HS4.out.st.below).mono ?_
        rintro e w5 ⟨b, cb, rfl, hT5, k5⟩
        have HS5 := Lib.hid (HS4.out.step k5)
        have HT5 := Lib.hid hT5
        clear f0 f1 f2 d0' d1' k5 hT5 HS4
        go_wp2_with fail
        go_loopw [11] (fun q wr => ∃ (j : Nat), j ≤ rlen ∧ q = .int .i64 j ∧ Hid (Below w5.heap.size w5 wr)) (fun q _ => rlen - (intOf q).toNat)
        case atStart => exact ⟨0, Nat.zero_le _, rfl, Lib.hid (Below.refl _ _)⟩
        case round =>
          obtain ⟨j, hj, rfl, HW⟩ := hrel
          by_cases hlt : j < rlen
          case pos =>
            obtain ⟨g1, o1, rfl, x1⟩ := HT5.out.at' HW.out hlt
            obtain ⟨g2, o2, rfl, x2⟩ := (HTI.out _ HS5.out.st.below).at' HW.out hlt
            generalize row.getD j [] = fj at x1 x2
            obtain ⟨F, hF⟩ : ∃ F : ByteArray, F = ⟨fj.toArray⟩ := ⟨_, rfl⟩
            rw [← hF] at x1 x2
            clear hF
            have i1 : (0 : Int) ≤ (j : Int) := by omega
            have i2 : (j : Int) < (rlen : Int) := by omega
            go_wp2_with fail
            go_quiet (fail)
            go_wp2_with fail
            go_roundw
            case rel => exact ⟨j + 1, hlt, by go_num, Lib.hid (below_drewN _ HW.out)⟩
            case measure => simp [intOf]; omega
          case neg =>
            have HS6 := Lib.hid (HS5.out.step HW.out)
            have HS7 := Lib.hid HS6.out.drew
            go_wp2_with fail
            go_region_held3 (fun W => W.cell? ⟨w2.heap.size, 0, none⟩ = some (.string nm) ∧ W.cell? ⟨w2.heap.size, 1, none⟩ = some (.slice a n c) ∧ W.cell? ⟨w3.heap.size, 0, none⟩ = some (.string nm) ∧ W.cell? ⟨w3.heap.size, 1, none⟩ = some (.slice a' n c')) (first | exact HS6.out.limbs | exact HS7.out.limbs | exact HS8.out.limbs | exact HS9.out.limbs | exact HS10.out.limbs | exact HS11.out.limbs | exact HS12.out.limbs) (first
              | (go_at_call 15; refine (HRi.out _ _ _ HS7.out.v1 HS7.out.st.below).mono ?_; rintro e w8 ⟨rfl, k8⟩; have HS8 := Lib.hid (HS7.out.step k8); clear k8)
              | (go_at_call 16; refine (HTx.out _ _ _ HS8.out.v1 HS8.out.st.below).mono ?_; rintro e w9 ⟨rfl, k9⟩; have HS9 := Lib.hid (HS8.out.step k9); clear k9)
              | (go_at_call 17; refine (HTr.out _ _ _ HS9.out.v2).mono ?_; rintro e w10 ⟨rfl, k10⟩; have HS10 := Lib.hid (HS9.out.step k10); clear k10)
              | (go_at_call 18; refine (HLn.out _ _ _ HS10.out.v1 HS10.out.st.below).mono ?_; rintro e w11 ⟨rfl, k11⟩; have HS11 := Lib.hid (HS10.out.step k11); clear k11)
              | (go_at_call 19; refine (HLr.out _ HS11.out.st.below).mono ?_; rintro e w12 ⟨rfl, hw12⟩; subst hw12)
              | (go_at_call 10; refine (HAw.out _ HS11.out.st.below).mono ?_; rintro e w12 ⟨rfl, k12⟩; have HS12 := Lib.hid (HS11.out.step k12); clear k12))
            all_goals (go_wp2_with fail)
            all_goals go_ret
            all_goals exact ⟨rfl, HS12.out.st.below⟩
end Go.Proofs.YtmjchmamkjbgkaaGreatDoor.eventOf
