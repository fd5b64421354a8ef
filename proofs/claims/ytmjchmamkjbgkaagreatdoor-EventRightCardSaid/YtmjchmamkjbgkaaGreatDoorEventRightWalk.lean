/- The walk of the law EventRight: with any schema and any two events it answers true. -/
import Derived.Test.YtmjchmamkjbgkaaGreatDoorEvAwake
import Derived.Test.YtmjchmamkjbgkaaGreatDoorLowEvR
import Derived.Deep.RegionHeld3
import Derived.BigQuiet
namespace Go.Proofs.YtmjchmamkjbgkaaGreatDoor.eventRight
open Go.RowKit
set_option linter.unusedVariables false

/-- What the law keeps: both events, each in a block of its own. -/
structure St (w0 : World) (p q : Nat) (x : ByteArray) (a : Option Addr) (la ca : Nat) (A : List Vd) (y : ByteArray) (b : Option Addr) (lb cb : Nat) (B : List Vd) (W : World) : Prop where
  below : Below w0.heap.size w0 W
  e : EBx p x (.slice a la ca) W
  x : EBx q y (.slice b lb cb) W
  v1 : VIn W a la A
  v2 : VIn W b lb B
theorem St.step {w0 W W' : World} {p q : Nat} {x y : ByteArray} {a b : Option Addr} {la ca lb cb : Nat} {A B : List Vd} (h : St w0 p q x a la ca A y b lb cb B W) (k : Below W.heap.size W W') : St w0 p q x a la ca A y b lb cb B W' :=
  ⟨h.below.trans (k.mono h.below.size), h.e.below k (block_lt_of_cell h.e.1), h.x.below k (block_lt_of_cell h.x.1), h.v1.below k, h.v2.below k⟩
theorem St.limbs {w0 W : World} {p q : Nat} {x y : ByteArray} {a b : Option Addr} {la ca lb cb : Nat} {A B : List Vd} (h : St w0 p q x a la ca A y b lb cb B W) :
    W.cell? ⟨p, 0, none⟩ = some (.string x) ∧ W.cell? ⟨p, 1, none⟩ = some (.slice a la ca) ∧ W.cell? ⟨q, 0, none⟩ = some (.string y) ∧ W.cell? ⟨q, 1, none⟩ = some (.slice b lb cb) := ⟨h.e.1, h.e.2, h.x.1, h.x.2⟩
theorem field_len {v : Vd} (h : rightD v) : (fieldE v).length ≤ 100000 := by
  unfold fieldE
  split
  · have := right_size h.1
    rw [sc_size] at this; omega
  · exact vt_len h

set_option maxHeartbeats 8000000 in
set_option maxRecDepth 100000 in
theorem walk (l : Option Addr) (llen lcap : Nat) (L : List Dc) (x : ByteArray) (a : Option Addr) (ca : Nat) (A : List Vd) (y : ByteArray) (b : Option Addr) (cb : Nat) (B : List Vd) (w : World) (hl : DIn w l llen L) (hA : VIn w a A.length A) (hx : x.size ≤ 9223372036854775807) (hB : VIn w b B.length B) (hy : y.size ≤ 9223372036854775807) (hL : Laid w) (het : ErrT w) :
    Calls Tryz.prog 4 #[.slice l llen lcap, .agg #[.string x, .slice a A.length ca], .agg #[.string y, .slice b B.length cb]] w fun e w' => e = .returned (.bool true) ∧ Below w.heap.size w w' := by
  have HAw := Lib.hid (fun w1 (hb : Below w.heap.size w w1) => evAwake_calls w1 (hL.below hb) (het.below hb))
  have hb0 := ((Below.refl w.heap.size w).alloc (Nat.le_refl _) (.cells #[.string x, .slice a A.length ca] 29)).alloc (by simp) (.cells #[.string y, .slice b B.length cb] 29)
  have HS0 : Hid (St w w.heap.size (w.heap.size + 1) x a A.length ca A y b B.length cb B ((w.alloc (.cells #[.string x, .slice a A.length ca] 29)).alloc (.cells #[.string y, .slice b B.length cb] 29))) := Lib.hid ⟨hb0, ⟨cell_alloc (EBx.new x (.slice a A.length ca) w 29).1 _, cell_alloc (EBx.new x (.slice a A.length ca) w 29).2 _⟩, by have := EBx.new y (.slice b B.length cb) (w.alloc (.cells #[.string x, .slice a A.length ca] 29)) 29; rw [World.size_alloc] at this; exact this, hA.below hb0, hB.below hb0⟩
  have HR := Lib.hid (evR_calls l llen lcap L _ (hl.below hb0))
  obtain ⟨la, hla⟩ : ∃ la, la = A.length := ⟨_, rfl⟩
  obtain ⟨lb, hlb⟩ : ∃ lb, lb = B.length := ⟨_, rfl⟩
  rw [← hla] at HS0 HR ⊢
  rw [← hlb] at HS0 HR ⊢
  cases hrs : rightS L with
  | false =>
    rw [hrs] at HR
    clear hl hA hB hL het hrs hb0 hx hy hla hlb
    go_enter Tryz.func4, Tryz.ntmps4
    go_wp2_with fail
    refine HR.out.mono ?_
    rintro e w1 ⟨rfl, k1⟩
    have HB1 := Lib.hid (HS0.out.step k1).below
    clear k1
    go_wp2_with fail
    refine (HAw.out _ HB1.out).mono ?_
    rintro e w2 ⟨rfl, k2⟩
    go_wp2_with fail
    go_ret
    exact ⟨rfl, HB1.out.trans (k2.mono HB1.out.size)⟩
  | true =>
    rw [hrs] at HR
    obtain ⟨hsch, hl32⟩ := sch_of hrs
    by_cases h1 : 12 < la
    · have t1 : decide ((12 : Int) < (la : Int)) = true := by simp; omega
      clear hl hA hB hL het hrs hb0 hx hy hsch hl32 h1 hla hlb
      go_enter Tryz.func4, Tryz.ntmps4
      go_wp2_with fail
      refine HR.out.mono ?_
      rintro e w1 ⟨rfl, k1⟩
      have hS := HS0.out.step k1
      obtain ⟨d0, d1, d2, d3⟩ := hS.limbs
      have HB1 := Lib.hid hS.below
      clear k1 hS
      go_wp2_with fail
      refine (HAw.out _ HB1.out).mono ?_
      rintro e w2 ⟨rfl, k2⟩
      go_wp2_with fail
      go_ret
      exact ⟨rfl, HB1.out.trans (k2.mono HB1.out.size)⟩
    have t1 : decide ((12 : Int) < (la : Int)) = false := by simp; omega
    by_cases h2 : 12 < lb
    · have t2 : decide ((12 : Int) < (lb : Int)) = true := by simp; omega
      clear hl hA hB hL het hrs hb0 hx hy hsch hl32 h1 h2 hla hlb
      go_enter Tryz.func4, Tryz.ntmps4
      go_wp2_with fail
      refine HR.out.mono ?_
      rintro e w1 ⟨rfl, k1⟩
      have hS := HS0.out.step k1
      obtain ⟨d0, d1, d2, d3⟩ := hS.limbs
      have HB1 := Lib.hid hS.below
      clear k1 hS
      go_wp2_with fail
      refine (HAw.out _ HB1.out).mono ?_
      rintro e w2 ⟨rfl, k2⟩
      go_wp2_with fail
      go_ret
      exact ⟨rfl, HB1.out.trans (k2.mono HB1.out.size)⟩
    have t2 : decide ((12 : Int) < (lb : Int)) = false := by simp; omega
    have HAl := Lib.hid hla
    have hfit : ∀ n, n < A.length → -9223372036854775808 ≤ (A.getD n default).i ∧ (A.getD n default).i ≤ 9223372036854775807 := fun n hn => (hA.fits n hn).2
    have HBk := Lib.hid (fun h => of_back (L := L) (e := (x, A)) hfit h)
    have HAD : Hid (rightE L (x, A) = true → allD A) := Lib.hid (fun h => by
      obtain ⟨i, _, h3⟩ := right_args h
      have h4 := (rightA_len h3).2
      intro v hv
      obtain ⟨n, hn, rfl⟩ := List.mem_iff_getElem.1 hv
      have e : A.getD n default = A[n] := by simp [List.getD, hn]
      have h5 := h4 n hn
      have h6 := hfit n hn
      rw [e] at h5 h6
      exact ⟨h5, h6⟩)
    have HNm : Hid (rightE L (x, A) = true → x.size ≤ 32) := Lib.hid (fun h => by
      obtain ⟨i, h2, _⟩ := right_args h
      obtain ⟨h3, h4⟩ := find_lt h2
      have h5 : nmAt L i = x := h4
      rw [← h5]
      exact (hsch.2 i h3).2)
    have HRR := Lib.hid (fun w4 (hb : Below w.heap.size w w4) (v1 : VIn w4 a la A) => refEvRight_calls l llen lcap L x a la ca A w4 (hl.below hb) v1)
    have HRe := Lib.hid (fun w4 (hb : Below w.heap.size w w4) (v1 : VIn w4 a la A) => evRight_calls l llen lcap L x a la ca A w4 (hl.below hb) v1)
    have HSe := Lib.hid (fun w4 (v1 : VIn w4 a la A) (v2 : VIn w4 b lb B) => evSame_calls x a la ca A y b lb cb B w4 v1 v2)
    have HSr := Lib.hid (fun w4 (v1 : VIn w4 a la A) (v2 : VIn w4 b lb B) => refEvSame_calls x a la ca A y b lb cb B w4 v1 v2)
    have HSs := Lib.hid (fun w4 (v1 : VIn w4 a la A) => evSame_calls x a la ca A x a la ca A w4 v1 v1)
    rw [sameE_refl] at HSs
    have HRow := Lib.hid (fun w4 (hb : Below w.heap.size w w4) (v1 : VIn w4 a la A) => evRow_calls x a la ca A w4 v1 (by omega) (hL.below hb))
    have HOf := Lib.hid (fun (h : rightE L (x, A) = true) (ra : Option Addr) (rc : Nat) w4 (hb : Below w.heap.size w w4) (ht : TIn w4 ra (rowE (x, A)).length (rowE (x, A))) (hc : (rowE (x, A)).length ≤ rc ∧ rc ≤ 9223372036854775807) => of_calls' l llen lcap L ra (rowE (x, A)).length rc (rowE (x, A)) w4 (hl.below hb) ht hsch (fun f hf => by
      have hD := HAD.out h
      have hn := HNm.out h
      rcases List.mem_cons.1 hf with rfl | hf
      · rw [← sc_size]; show x.size ≤ _; omega
      · obtain ⟨v, hv, rfl⟩ := List.mem_map.1 hf
        have := field_len (hD v hv)
        omega) hc (hL.below hb) (het.below hb))
    have HSy := Lib.hid (fun (a2 : Option Addr) (c2 : Nat) w4 (v1 : VIn w4 a la A) (v2 : VIn w4 a2 la A) => refEvSame_calls x a la ca A x a2 la c2 A w4 v1 v2)
    rw [sameE_refl] at HSy
    have q1 : ∀ w1, (Op.equalIn 10000 32 (.agg #[.int .i64 0, .int .i64 0, .int .i64 0]) (.agg #[.int .i64 0, .int .i64 0, .int .i64 0])).run Tryz.prog w1 = .ok true w1 := fun w1 => failEq 0 0 0 0 0 0 w1
    have q2 := failGuard
    clear hl hA hB hL het hrs hb0 hx hy hsch hl32 h2 hla hlb hfit
    go_enter Tryz.func4, Tryz.ntmps4
    go_wp2_with fail
    refine HR.out.mono ?_
    rintro e w1 ⟨rfl, k1⟩
    have hS := HS0.out.step k1
    obtain ⟨d0, d1, d2, d3⟩ := hS.limbs
    have HS1 := Lib.hid hS
    clear k1 hS HS0
    go_wp2_with fail
    go_loopw [7] (fun i wr => ∃ (j : Nat), j ≤ la ∧ i = .int .i64 j ∧ w1 = wr) (fun i _ => la - (intOf i).toNat)
    case atStart => exact ⟨0, Nat.zero_le _, rfl, rfl⟩
    case round =>
      obtain ⟨j, hj, rfl, rfl⟩ := hrel
      by_cases hlt : j < la
      case pos =>
        obtain ⟨ga, oa, rfl, a0, a1, a2, a3⟩ := HS1.out.v1.at' hlt
        obtain ⟨⟨k, i, s, z⟩, hv⟩ : ∃ v, v = A.getD j default := ⟨_, rfl⟩
        rw [← hv] at a0 a1 a2 a3
        clear hv
        simp only at a0 a1 a2 a3
        have i1 : (0 : Int) ≤ (j : Int) := by omega
        have i2 : (j : Int) < (la : Int) := by omega
        by_cases h5 : 5000 < s.size
        · have t3 : decide ((5000 : Int) < (s.size : Int)) = true := by simp; omega
          clear h5
          go_wp2_with fail
          refine (HAw.out _ HS1.out.below).mono ?_
          rintro e w2 ⟨rfl, k2⟩
          go_wp2_with fail
          go_ret
          exact ⟨rfl, HS1.out.below.trans (k2.mono HS1.out.below.size)⟩
        · have t3 : decide ((5000 : Int) < (s.size : Int)) = false := by simp; omega
          clear h5
          go_wp2_with fail
          go_roundw
          case rel => exact ⟨j + 1, hlt, by go_num, trivial⟩
          case measure => simp [intOf]; omega
      case neg =>
        go_wp2_with fail
        refine (HRR.out _ HS1.out.below HS1.out.v1).mono ?_
        rintro e w2 ⟨rfl, k2⟩
        have HS2 := Lib.hid (HS1.out.step k2)
        have HS3 := Lib.hid (HS2.out.step ((Below.refl w2.heap.size w2).drew))
        clear k2 d0 d1 d2 d3
        obtain ⟨sm, hsm⟩ : ∃ sm, sm = sameE (x, A) (y, B) := ⟨_, rfl⟩
        rw [← hsm] at HSe HSr
        obtain ⟨ok, hok⟩ : ∃ ok, ok = rightE L (x, A) := ⟨_, rfl⟩
        rw [← hok] at HRe HBk HAD HNm HOf ⊢
        clear hsm hok HRR HAD HNm
        have t4 : (ok != ok) = false := by simp
        have t5 : (sm != sm) = false := by simp
        go_wp2_with fail
        go_region_held3 (fun W => W.cell? ⟨w.heap.size, 0, none⟩ = some (.string x) ∧ W.cell? ⟨w.heap.size, 1, none⟩ = some (.slice a la ca) ∧ W.cell? ⟨w.heap.size + 1, 0, none⟩ = some (.string y) ∧ W.cell? ⟨w.heap.size + 1, 1, none⟩ = some (.slice b lb cb)) (first | exact HS2.out.limbs | exact HS3.out.limbs | exact HS4.out.limbs | exact HS5.out.limbs | exact HS6.out.limbs | exact HS7.out.limbs) (first
          | (go_at_call 15; refine (HRe.out _ HS3.out.below HS3.out.v1).mono ?_; rintro e w4 ⟨rfl, k4⟩; have HS4 := Lib.hid (HS3.out.step k4); clear k4)
          | (go_at_call 13; refine (HSr.out _ HS5.out.v1 HS5.out.v2).mono ?_; rintro e w6 ⟨rfl, k6⟩; have HS6 := Lib.hid (HS5.out.step k6); clear k6)
          | (go_at_call 21; refine (HSs.out _ HS6.out.v1).mono ?_; rintro e w7 ⟨rfl, k7⟩; have HS7 := Lib.hid (HS6.out.step k7); clear k7)
          | (go_at_call 21; refine (HSe.out _ HS4.out.v1 HS4.out.v2).mono ?_; rintro e w5 ⟨rfl, k5⟩; have HS5 := Lib.hid (HS4.out.step k5); clear k5))
        have hlb := HS7.out.limbs
        obtain ⟨d0, d1, d2, d3⟩ := hlb
        cases ok
        · go_wp2_with fail
          refine (HAw.out _ HS7.out.below).mono ?_
          rintro e w8 ⟨rfl, k8⟩
          go_wp2_with fail
          go_ret
          exact ⟨rfl, HS7.out.below.trans (k8.mono HS7.out.below.size)⟩
        · have HBk2 := Lib.hid (HBk.out rfl)
          have HOf2 := Lib.hid (HOf.out rfl)
          go_wp2_with fail
          refine (HRow.out _ HS7.out.below HS7.out.v1).mono ?_
          rintro e w8 ⟨ra, rc, rfl, ht, hc, k8⟩
          have HS8 := Lib.hid (HS7.out.step k8)
          have HT8 := Lib.hid (And.intro ht hc)
          clear k8 ht hc d0 d1 d2 d3
          go_wp2_with fail
          refine (HOf2.out _ _ _ HS8.out.below HT8.out.1 HT8.out.2).mono ?_
          intro e w9 h9
          rw [HBk2.out] at h9
          obtain ⟨⟨a2, c2, he, hv2, _⟩, k9⟩ := h9
          simp only [failV] at he hv2
          rw [← HAl.out] at he hv2
          subst he
          have HS9 := Lib.hid (HS8.out.step k9)
          have hx9 := ((Below.refl w9.heap.size w9).alloc (Nat.le_refl _) (.cells #[.string x, .slice a2 la c2] 29)).alloc (by simp) (.cells #[.int .i64 0, .int .i64 0, .int .i64 0] 32)
          have HS10 := Lib.hid (HS9.out.step hx9)
          have HV10 := Lib.hid (hv2.below hx9)
          have hlb9 := HS9.out.limbs
          obtain ⟨d0, d1, d2, d3⟩ := hlb9
          have hz : w.heap.size < w9.heap.size := block_lt_of_cell d0
          have hz1 : w.heap.size + 1 < w9.heap.size := block_lt_of_cell d2
          clear k9 hx9 hv2
          go_wp2_with fail
          refine (HSy.out _ _ _ HS10.out.v1 HV10.out).mono ?_
          rintro e w11 ⟨rfl, k11⟩
          have HS11 := Lib.hid (HS10.out.step k11)
          clear k11
          go_wp2_with fail
          refine (HAw.out _ HS11.out.below).mono ?_
          rintro e w12 ⟨rfl, k12⟩
          go_wp2_with fail
          go_ret
          exact ⟨rfl, HS11.out.below.trans (k12.mono HS11.out.below.size)⟩
end Go.Proofs.YtmjchmamkjbgkaaGreatDoor.eventRight
