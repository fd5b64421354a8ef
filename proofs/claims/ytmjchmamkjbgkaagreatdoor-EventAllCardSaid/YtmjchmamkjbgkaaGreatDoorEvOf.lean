/- A row's event, or what is wrong: event.Of. -/
import Derived.Test.YtmjchmamkjbgkaaGreatDoorLowEv1
import Derived.Test.YtmjchmamkjbgkaaGreatDoorEvAs
import Derived.Test.YtmjchmamkjbgkaaGreatDoorLowCsvN
namespace Go.Proofs.YtmjchmamkjbgkaaGreatDoor
open Go.RowKit
set_option linter.unusedVariables false

/-- But for some blocks, the world is as it was. -/
structure Kp (S : Nat → Prop) (w w' : World) : Prop where
  os : w'.os = w.os
  tape : w'.tape = w.tape
  output : w'.output = w.output
  size : w.heap.size ≤ w'.heap.size
  block : ∀ k, k < w.heap.size → ¬ S k → w'.heap[k]? = w.heap[k]?
theorem Kp.refl (S : Nat → Prop) (w : World) : Kp S w w := ⟨rfl, rfl, rfl, Nat.le_refl _, fun _ _ _ => rfl⟩
theorem Kp.trans {S : Nat → Prop} {a b c : World} (h : Kp S a b) (k : Kp S b c) : Kp S a c :=
  ⟨k.os.trans h.os, k.tape.trans h.tape, k.output.trans h.output, Nat.le_trans h.size k.size, fun i hi hn => (k.block i (Nat.lt_of_lt_of_le hi h.size) hn).trans (h.block i hi hn)⟩
theorem Kp.of_below {S : Nat → Prop} {a b : World} (k : Below a.heap.size a b) : Kp S a b := ⟨k.os, k.tape, k.output, k.size, fun i hi _ => k.block i hi⟩
theorem Kp.of_grown {S : Nat → Prop} {a b : World} {r : Nat} (k : a.grownBy b (some r)) (hr : S r) : Kp S a b :=
  ⟨k.os, k.tape, k.output, k.size, fun i hi hn => k.block i hi (fun e => hn (by cases e; exact hr))⟩
theorem Kp.below {S : Nat → Prop} {a b c : World} (h : Kp S a b) (k : Below b.heap.size b c) : Kp S a c := h.trans (Kp.of_below k)
theorem Kp.grown {S : Nat → Prop} {a b c : World} {r : Nat} (h : Kp S a b) (k : b.grownBy c (some r)) (hr : S r) : Kp S a c := h.trans (Kp.of_grown k hr)
theorem Kp.alloc {S : Nat → Prop} {a b : World} (h : Kp S a b) (o : Obj) : Kp S a (b.alloc o) := h.below ((Below.refl _ _).alloc (Nat.le_refl _) _)
theorem Kp.drew {S : Nat → Prop} {a b : World} (h : Kp S a b) : Kp S a b.drew := ⟨h.os, h.tape, h.output, h.size, h.block⟩
theorem Kp.set {S : Nat → Prop} {a b : World} (h : Kp S a b) {g o : Nat} (hr : S g) (v : Value) : Kp S a (b.setCell ⟨g, o, none⟩ v) := h.grown (cs_set (a := ⟨g, o, none⟩)) hr
theorem Kp.to_below {S : Nat → Prop} {w a b : World} {B : Nat} (h : Kp S a b) (hb : Below B w a) (hB : B ≤ a.heap.size) (hS : ∀ k, S k → B ≤ k) : Below B w b :=
  ⟨h.os.trans hb.os, h.tape.trans hb.tape, h.output.trans hb.output, Nat.le_trans hb.size h.size, fun k hk => (h.block k (Nat.lt_of_lt_of_le hk hB) (fun hs => absurd (hS k hs) (by omega))).trans (hb.block k hk)⟩
theorem VIn.kp {S : Nat → Prop} {w w' : World} {a : Option Addr} {len : Nat} {A : List Vd} (h : VIn w a len A) (ho : VObj w a) (hk : Kp S w w') (hS : ∀ g, S g → ¬ CBlk w g 44) : VIn w' a len A :=
  h.kept hk.size (fun g off e hl => hk.block g hl (fun hs => hS g hs (ho g off e)))
theorem VObj.kp {S : Nat → Prop} {w w' : World} {a : Option Addr} (ho : VObj w a) (hk : Kp S w w') (hS : ∀ g, S g → ¬ CBlk w g 44) : VObj w' a := fun g off e =>
  (ho g off e).same (hk.block g (ho g off e).lt (fun hs => hS g hs (ho g off e)))
theorem CBlk.un {w : World} {g : Nat} {t u : TypeId} (h : CBlk w g t) (hne : t ≠ u) : ¬ CBlk w g u := fun k => h.ne k hne rfl

theorem ea_hits (e : Nat) (t : Nat) (w : World) (hg : ErrT w) (ht : w.heap[t]? = some (.cells #[.pointer none] 76 (0, 0))) :
    Calls Tryz.prog 30 #[.iface 76 (.pointer (some ⟨e, 0, none⟩)), .iface 78 (.pointer (some ⟨t, 0, none⟩))] w fun ev w' => ev = .returned (.bool true) ∧ w'.heap[t]? = some (.cells #[.pointer (some ⟨e, 0, none⟩)] 76 (0, 0)) ∧ w.grownBy w' (some t) := by
  have hc : w.cell? ⟨t, 0, none⟩ = some (.pointer none) := by rw [cell_of_row w t 0 _ _ _ ht]; rfl
  have hl : t < w.heap.size := (Array.getElem?_eq_some_iff.1 ht).1
  refine (ea_hit ⟨e, 0, none⟩ ⟨t, 0, none⟩ (.pointer none) w hg hc (frozen_of_row w t 0 _ _ ht)).mono ?_
  rintro ev w' ⟨rfl, rfl⟩
  refine ⟨rfl, ?_, ?_⟩
  · refine (heap_setCell_same _ t 0 #[.pointer none] _ _ ?_).trans rfl
    rw [heap_alloc_old _ _ (by simp; omega), heap_alloc_old _ _ (by simp; omega), heap_alloc_old _ _ (by simp; omega), heap_alloc_old _ _ hl]
    exact ht
  · exact cs_gtrans (cs_gtrans (cs_gtrans (cs_gtrans (World.grownBy_alloc _ _ _) (World.grownBy_alloc _ _ _)) (World.grownBy_alloc _ _ _)) (World.grownBy_alloc _ _ _)) cs_set
theorem er_hits (N : Nat) (d : Int) (t : Nat) (w : World) (hN : w.cell? ⟨N, 1, none⟩ = some (.iface 30 (.int .i64 d))) (hg : ErrT w) (ht : w.heap[t]? = some (.cells #[.int .i64 0] 30 (0, 0))) :
    Calls Tryz.prog 30 #[.iface 76 (.pointer (some ⟨N, 0, none⟩)), .iface 79 (.pointer (some ⟨t, 0, none⟩))] w fun ev w' => ev = .returned (.bool true) ∧ w'.heap[t]? = some (.cells #[.int .i64 d] 30 (0, 0)) ∧ w.grownBy w' (some t) := by
  have hc : w.cell? ⟨t, 0, none⟩ = some (.int .i64 0) := by rw [cell_of_row w t 0 _ _ _ ht]; rfl
  have hl : t < w.heap.size := (Array.getElem?_eq_some_iff.1 ht).1
  refine (er_hit N d ⟨t, 0, none⟩ (.int .i64 0) w hN hg hc (frozen_of_row w t 0 _ _ ht)).mono ?_
  rintro ev w' ⟨rfl, rfl⟩
  refine ⟨rfl, ?_, ?_⟩
  · refine (heap_setCell_same _ t 0 #[.int .i64 0] _ _ ?_).trans rfl
    rw [heap_alloc_old _ _ (by simp; omega), heap_alloc_old _ _ (by simp; omega), heap_alloc_old _ _ (by simp; omega), heap_alloc_old _ _ hl]
    exact ht
  · exact cs_gtrans (cs_gtrans (cs_gtrans (cs_gtrans (World.grownBy_alloc _ _ _) (World.grownBy_alloc _ _ _)) (World.grownBy_alloc _ _ _)) (World.grownBy_alloc _ _ _)) cs_set
theorem cs_result22 {fn : Func} {p q : Tmp} {ty tz : TypeId} (h : fn.results = #[.cell p ty, .cell q tz]) (tmps : Array Value) (P : Program) (w : World) {a b : Addr} {u v : Value}
    (h0 : (asAddr (tmps.getD p undef)).run P w = .ok a w) (h1 : (loadVar ty a).run P w = .ok u w) (h2 : (asAddr (tmps.getD q undef)).run P w = .ok b w) (h3 : (loadVar tz b).run P w = .ok v w) : (results fn tmps).run P w = .ok (.tuple #[u, v]) w := by
  rw [Array.getD_eq_getD_getElem?] at h0 h2
  simp [results, h, Sem.run_bind, Result.andThen, h0, h1, h2, h3]

/-- What is told of a row, as an event and a failure. -/
def OfPost (x : Except (Nat × Nat) Ev) (w : World) (e : Ending) (w' : World) : Prop :=
  (match x with
   | .ok y => ∃ a cap, e = .returned (.tuple #[.agg #[.string y.1, .slice a y.2.length cap], failV 0 0 0]) ∧ VIn w' a y.2.length y.2 ∧ VObj w' a
   | .error (er, c) => e = .returned (.tuple #[.agg #[.string ⟨#[]⟩, .slice none 0 0], failV er 0 c])) ∧ Below w.heap.size w w'
theorem of_ok {x : Except (Nat × Nat) Ev} {y : ByteArray} {A : List Vd} {w w' : World} {e : Ending} (hx : x = .ok (y, A)) (h : ∃ a cap, e = .returned (.tuple #[.agg #[.string y, .slice a A.length cap], failV 0 0 0]) ∧ VIn w' a A.length A ∧ VObj w' a) (hb : Below w.heap.size w w') : OfPost x w e w' := by
  subst hx; exact ⟨h, hb⟩
theorem of_no {x : Except (Nat × Nat) Ev} {er c : Nat} {w w' : World} {e : Ending} (hx : x = .error (er, c)) (h : e = .returned (.tuple #[.agg #[.string ⟨#[]⟩, .slice none 0 0], failV er 0 c])) (hb : Below w.heap.size w w') : OfPost x w e w' := by
  subst hx; exact ⟨h, hb⟩
/-- The results' own blocks, an event's and a failure's, as they were made. -/
structure OfBox (N : Nat) (w W : World) : Prop where
  below : Below N w W
  ev : W.heap[N]? = some (.cells #[.string ⟨#[]⟩, .slice none 0 0] 29 (0, 0))
  fl : W.heap[N + 1]? = some (.cells #[.int .i64 0, .int .i64 0, .int .i64 0] 32 (0, 0))
theorem OfBox.new (w : World) : OfBox w.heap.size w ((w.alloc (.cells #[.string ⟨#[]⟩, .slice none 0 0] 29)).alloc (.cells #[.int .i64 0, .int .i64 0, .int .i64 0] 32)) :=
  ⟨((Below.refl _ _).alloc (Nat.le_refl _) _).alloc (by simp) _, by rw [heap_alloc_old _ _ (by simp)]; exact heap_alloc_new _ _, by have := heap_alloc_new (w.alloc (.cells #[.string ⟨#[]⟩, .slice none 0 0] 29)) (.cells #[.int .i64 0, .int .i64 0, .int .i64 0] 32); simpa using this⟩
theorem OfBox.lt {N : Nat} {w W : World} (h : OfBox N w W) : N + 1 < W.heap.size := (Array.getElem?_eq_some_iff.1 h.fl).1
theorem OfBox.step {N : Nat} {w W W' : World} (h : OfBox N w W) (k : Below W.heap.size W W') : OfBox N w W' := by
  have := h.lt
  exact ⟨h.below.trans (k.mono (by omega)), (k.block _ (by omega)).trans h.ev, (k.block _ h.lt).trans h.fl⟩
theorem OfBox.grown {N r : Nat} {w W W' : World} (h : OfBox N w W) (k : W.grownBy W' (some r)) (hr : N + 1 < r) : OfBox N w W' := by
  have := h.lt
  exact ⟨h.below.grown k (by omega) (fun j hj => by cases hj; omega), (k.block _ (by omega) (fun e => by cases e; omega)).trans h.ev, (k.block _ h.lt (fun e => by cases e; omega)).trans h.fl⟩
theorem OfBox.cells {N : Nat} {w W : World} (h : OfBox N w W) : (W.cell? ⟨N, 0, none⟩ = some (.string ⟨#[]⟩) ∧ W.cell? ⟨N, 1, none⟩ = some (.slice none 0 0) ∧ W.cell? ⟨N + 1, 0, none⟩ = some (.int .i64 0) ∧ W.cell? ⟨N + 1, 1, none⟩ = some (.int .i64 0) ∧ W.cell? ⟨N + 1, 2, none⟩ = some (.int .i64 0)) ∧ W.frozen? ⟨N, 0, none⟩ = false ∧ W.frozen? ⟨N, 1, none⟩ = false ∧ W.frozen? ⟨N + 1, 0, none⟩ = false ∧ W.frozen? ⟨N + 1, 1, none⟩ = false ∧ W.frozen? ⟨N + 1, 2, none⟩ = false :=
  ⟨⟨by rw [cell_of_row W _ 0 _ _ _ h.ev]; rfl, by rw [cell_of_row W _ 1 _ _ _ h.ev]; rfl, by rw [cell_of_row W _ 0 _ _ _ h.fl]; rfl, by rw [cell_of_row W _ 1 _ _ _ h.fl]; rfl, by rw [cell_of_row W _ 2 _ _ _ h.fl]; rfl⟩, frozen_of_row W _ 0 _ _ h.ev, frozen_of_row W _ 1 _ _ h.ev, frozen_of_row W _ 0 _ _ h.fl, frozen_of_row W _ 1 _ _ h.fl, frozen_of_row W _ 2 _ _ h.fl⟩

theorem of_fin {N : Nat} {w w2 W : World} {y : ByteArray} {A : List Vd} {a : Option Addr} {cap : Nat} (hN : N = w.heap.size) (hO : OfBox N w w2) (hv : VIn w2 a A.length A ∧ VObj w2 a) (hK : Kp (fun k => k = N ∨ k = N + 1) w2 W) :
    OfPost (.ok (y, A)) w (.returned (.tuple #[.agg #[.string y, .slice a A.length cap], failV 0 0 0])) W := by
  have hl := hO.lt
  have hS : ∀ g, (g = N ∨ g = N + 1) → ¬ CBlk w2 g 44 := by
    rintro g (rfl | rfl)
    · exact CBlk.un ⟨_, _, hO.ev⟩ (by decide)
    · exact CBlk.un ⟨_, _, hO.fl⟩ (by decide)
  refine of_ok rfl ⟨a, cap, rfl, hv.1.kp hv.2 hK hS, hv.2.kp hK hS⟩ ?_
  rw [← hN]
  exact hK.to_below hO.below (by omega) (by rintro k (rfl | rfl) <;> omega)

set_option maxHeartbeats 4000000 in
set_option maxRecDepth 100000 in
theorem of_calls' (la : Option Addr) (llen lcap : Nat) (L : List Dc) (ra : Option Addr) (rlen rcap : Nat) (row : List (List UInt8)) (w : World) (hl : DIn w la llen L) (hr : TIn w ra rlen row) (hL : SchOk L) (hs : ∀ f ∈ row, f.length ≤ 4294967296) (hc : rlen ≤ rcap ∧ rcap ≤ 9223372036854775807) (hLa : Laid w) (het : ErrT w) :
    Calls Tryz.prog 11 #[.slice la llen lcap, .slice ra rlen rcap] w (OfPost (ofL L row) w) := by
  have hO := OfBox.new w
  obtain ⟨N, hN⟩ : ∃ N, N = w.heap.size := ⟨_, rfl⟩
  have hb0 : Below w.heap.size w ((w.alloc (.cells #[.string ⟨#[]⟩, .slice none 0 0] 29)).alloc (.cells #[.int .i64 0, .int .i64 0, .int .i64 0] 32)) := hO.below
  have HR := readRow_calls la llen lcap L ra rlen rcap row _ (hl.below hb0) (hr.below hb0) hL hs hc (hLa.below hb0)
  have HO := Lib.hid hO
  cases hx : ofL L row with
  | ok y =>
    obtain ⟨x, A⟩ := y
    rw [hx] at HR
    have HR := Lib.hid HR
    have HNi := Lib.hid (fun t w1 => as_nil t w1)
    clear hl hr hL hs hc hLa het hO hb0 hx
    go_enter Tryz.func11, Tryz.ntmps11
    go_wp2_with fail
    refine HR.out.mono ?_
    rintro e w2 ⟨⟨a, cap, rfl, hv1, hv2⟩, k2⟩
    have hO2 := HO.out.step k2
    have HO2 := Lib.hid hO2
    have HVs := Lib.hid (And.intro hv1 hv2)
    have hsz := hO2.lt
    have hsz0 : w.heap.size < w2.heap.size := by omega
    have hsz1 : w.heap.size ≤ w2.heap.size := by omega
    have hsz2 : w.heap.size ≤ w2.heap.size + 1 := by omega
    have hsz3 : w.heap.size < w2.heap.size + 1 := by omega
    have hsz4 : w.heap.size < w2.heap.size + 1 + 1 := by omega
    have hsz5 : w.heap.size + 1 < w2.heap.size + 1 + 1 := by omega
    have hsz6 : w.heap.size + 1 ≤ w2.heap.size := by omega
    obtain ⟨⟨c0, c1, c2, c3, c4⟩, f0, f1, f2, f3, f4⟩ := hO2.cells
    clear k2 hO2 hv1 hv2 HR HO
    go_wp2_with fail
    refine (HNi.out _ _).mono ?_
    rintro e w3 ⟨rfl, hw3⟩
    subst hw3
    go_wp2_with fail
    (try simp only [Exit.inBlock, Exit.then])
    refine bodyPost_ret (v := .tuple #[.agg #[.string x, .slice a A.length cap], failV 0 0 0]) ?_ rfl ?_
    · refine cs_result22 rfl _ _ _ (a := ⟨w.heap.size, 0, none⟩) (b := ⟨w.heap.size + 1, 0, none⟩) (by rfl) ?_ (by rfl) ?_
      · go_simp
      · unfold failV; go_simp
    · refine of_fin rfl HO2.out HVs.out ?_
      repeat' (first | exact Kp.refl _ _ | refine Kp.alloc ?_ _ | refine Kp.set ?_ (.inl rfl) _ | refine Kp.set ?_ (.inr rfl) _ | refine Kp.drew ?_)
  | error e0 =>
    obtain ⟨er, ec⟩ := e0
    rw [hx] at HR
    have HR := Lib.hid HR
    have HT := Lib.hid (fun w1 (hb : Below w.heap.size w w1) => het.below hb)
    clear hl hr hL hs hc hLa het hO hb0 hx
    go_enter Tryz.func11, Tryz.ntmps11
    go_wp2_with fail
    refine HR.out.mono ?_
    rintro e w2 ⟨⟨v, rfl, hv⟩, k2⟩
    obtain ⟨ge, rfl, hge, hgc⟩ := hv
    have hO2 := HO.out.step k2
    have hsz := hO2.lt
    have hgel : ge < w2.heap.size := (Array.getElem?_eq_some_iff.1 hgc).1
    have hb3 := (((Below.refl w2.heap.size w2).alloc (Nat.le_refl _) (.cells #[.string ⟨#[]⟩, .slice none 0 0] 29)).alloc (by simp) (.cells #[.pointer none] 76)).alloc (by simp; omega) (.cells #[.int .i64 0] 30)
    have hO3 := hO2.step hb3
    have hge3 := (hb3.block ge hgel).trans hgc
    obtain ⟨M, hM⟩ : ∃ M, M = w2.heap.size := ⟨_, rfl⟩
    have hp3 : (((w2.alloc (.cells #[.string ⟨#[]⟩, .slice none 0 0] 29)).alloc (.cells #[.pointer none] 76)).alloc (.cells #[.int .i64 0] 30)).heap[M + 1]? = some (.cells #[.pointer none] 76 (0, 0)) := by
      rw [heap_alloc_old _ _ (by simp; omega)]
      have := heap_alloc_new (w2.alloc (.cells #[.string ⟨#[]⟩, .slice none 0 0] 29)) (.cells #[.pointer none] 76)
      rw [World.size_alloc, ← hM] at this
      exact this
    have hi3 : (((w2.alloc (.cells #[.string ⟨#[]⟩, .slice none 0 0] 29)).alloc (.cells #[.pointer none] 76)).alloc (.cells #[.int .i64 0] 30)).heap[M + 1 + 1]? = some (.cells #[.int .i64 0] 30 (0, 0)) := by
      have := heap_alloc_new ((w2.alloc (.cells #[.string ⟨#[]⟩, .slice none 0 0] 29)).alloc (.cells #[.pointer none] 76)) (.cells #[.int .i64 0] 30)
      rw [World.size_alloc, World.size_alloc, ← hM] at this
      exact this
    have HO3 := Lib.hid hO3
    have HGe3 := Lib.hid hge3
    have HP3 := Lib.hid hp3
    have HI3 := Lib.hid hi3
    have HMs := Lib.hid (show w.heap.size + 1 < M ∧ ge < M ∧ w.heap.size + 1 < ge by rw [hM]; simp at hge; omega)
    clear k2 hO2 hb3 hO3 hge3 hp3 hi3 hgc hge hgel hsz HR HO
    go_wp2_with fail
    rw [← hM]
    obtain ⟨W3, hW3⟩ : ∃ W3, ((w2.alloc (.cells #[.string ⟨#[]⟩, .slice none 0 0] 29)).alloc (.cells #[.pointer none] 76)).alloc (.cells #[.int .i64 0] 30) = W3 := ⟨_, rfl⟩
    rw [hW3] at HO3 HGe3 HP3 HI3 ⊢
    clear hW3 hM
    refine (ea_hits ge (M + 1) W3 (HT.out _ HO3.out.below) HP3.out).mono ?_
    rintro e w4 ⟨rfl, hT4, hg4⟩
    have hO4 := HO3.out.grown hg4 (by have := HMs.out; omega)
    have hge4 := (hg4.block ge (Array.getElem?_eq_some_iff.1 HGe3.out).1 (by have := HMs.out; intro k; cases k; omega)).trans HGe3.out
    have hi4 := (hg4.block (M + 1 + 1) (Array.getElem?_eq_some_iff.1 HI3.out).1 (by intro k; cases k)).trans HI3.out
    have x0 : w4.cell? ⟨M + 1, 0, none⟩ = some (.pointer (some ⟨ge, 0, none⟩)) := by rw [cell_of_row w4 _ 0 _ _ _ hT4]; rfl
    have HO4 := Lib.hid hO4
    have HGe4 := Lib.hid hge4
    have HI4 := Lib.hid hi4
    have HT4 := Lib.hid hT4
    clear hO4 hge4 hi4 hT4 hg4
    go_wp2_with fail
    refine (er_hits ge er (M + 1 + 1) w4 (by rw [cell_of_row w4 _ 1 _ _ _ HGe4.out]; rfl) (HT.out _ HO4.out.below) HI4.out).mono ?_
    rintro e w5 ⟨rfl, hi5, hg5⟩
    have hO5 := HO4.out.grown hg5 (by have := HMs.out; omega)
    have hge5 := (hg5.block ge (Array.getElem?_eq_some_iff.1 HGe4.out).1 (by have := HMs.out; intro k; cases k; omega)).trans HGe4.out
    have hT5 := (hg5.block (M + 1) (Array.getElem?_eq_some_iff.1 HT4.out).1 (by intro k; cases k)).trans HT4.out
    obtain ⟨⟨c0, c1, c2, c3, c4⟩, f0, f1, f2, f3, f4⟩ := hO5.cells
    have y0 : w5.cell? ⟨M + 1, 0, none⟩ = some (.pointer (some ⟨ge, 0, none⟩)) := by rw [cell_of_row w5 _ 0 _ _ _ hT5]; rfl
    have y1 : w5.cell? ⟨M + 1 + 1, 0, none⟩ = some (.int .i64 (er : Nat)) := by rw [cell_of_row w5 _ 0 _ _ _ hi5]; rfl
    have y2 : w5.cell? ⟨ge, 0, none⟩ = some (.int .i64 (ec : Nat)) := by rw [cell_of_row w5 _ 0 _ _ _ hge5]; rfl
    have HO5 := Lib.hid hO5
    clear hO5 hge5 hT5 hi5 hg5 x0
    have hgl : ge < w5.heap.size := block_lt_of_cell y2
    have hml : M + 1 + 1 < w5.heap.size := block_lt_of_cell y1
    have HS : Hid (∀ W, Kp (fun k => k = w.heap.size ∨ k = w.heap.size + 1) w5 W → (W.cell? ⟨M + 1, 0, none⟩ = some (.pointer (some ⟨ge, 0, none⟩)) ∧ W.cell? ⟨M + 1 + 1, 0, none⟩ = some (.int .i64 (er : Nat)) ∧ W.cell? ⟨ge, 0, none⟩ = some (.int .i64 (ec : Nat)))) := Lib.hid (fun W h => by
      have := HMs.out
      refine ⟨(World.cell?_of_block (a := ⟨M + 1, 0, none⟩) (h.block _ (by simp; omega) (by simp; omega))).trans y0, (World.cell?_of_block (a := ⟨M + 1 + 1, 0, none⟩) (h.block _ (by simp; omega) (by simp; omega))).trans y1, (World.cell?_of_block (a := ⟨ge, 0, none⟩) (h.block _ hgl (by simp; omega))).trans y2⟩)
    clear hgl hml
    go_wp2_with fail
    go_region_held3 (fun W => W.cell? ⟨M + 1, 0, none⟩ = some (.pointer (some ⟨ge, 0, none⟩)) ∧ W.cell? ⟨M + 1 + 1, 0, none⟩ = some (.int .i64 (er : Nat)) ∧ W.cell? ⟨ge, 0, none⟩ = some (.int .i64 (ec : Nat))) (exact HS.out _ (by repeat' (first | exact Kp.refl _ _ | refine Kp.set ?_ (.inl rfl) _ | refine Kp.set ?_ (.inr rfl) _ | refine Kp.drew ?_))) (first | fail)
    all_goals (go_wp2_with fail)
    all_goals (try simp only [Exit.inBlock, Exit.then])
    all_goals (refine bodyPost_ret (v := .tuple #[.agg #[.string ⟨#[]⟩, .slice none 0 0], failV er 0 ec]) ?_ rfl ?_)
    · refine cs_result22 rfl _ _ _ (a := ⟨w.heap.size, 0, none⟩) (b := ⟨w.heap.size + 1, 0, none⟩) (by rfl) ?_ (by rfl) ?_
      · go_simp
      · unfold failV; go_simp
    · have hlt5 := HO5.out.lt
      have hk := ((((((Kp.refl (fun k => k = w.heap.size ∨ k = w.heap.size + 1) w5).set (g := w.heap.size) (o := 0) (.inl rfl) (.string ⟨#[]⟩)).set (g := w.heap.size) (o := 1) (.inl rfl) (.slice none 0 0)).set (g := w.heap.size + 1) (o := 0) (.inr rfl) (.int .i64 (er : Nat))).set (g := w.heap.size + 1) (o := 1) (.inr rfl) (.int .i64 0)).set (g := w.heap.size + 1) (o := 2) (.inr rfl) (.int .i64 (ec : Nat))).drew
      exact of_no rfl rfl (hk.to_below HO5.out.below (by omega) (by rintro k (rfl | rfl) <;> omega))
end Go.Proofs.YtmjchmamkjbgkaaGreatDoor
