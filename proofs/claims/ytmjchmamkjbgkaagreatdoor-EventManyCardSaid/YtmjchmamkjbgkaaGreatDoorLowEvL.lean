/- Contracts of a lower layer, several texts in one. -/
import Derived.Test.YtmjchmamkjbgkaaGreatDoorLowEv1
import Derived.Test.YtmjchmamkjbgkaaGreatDoorEvOf
/- EvLogMath -/
namespace Go.Proofs.YtmjchmamkjbgkaaGreatDoor
open Go.RowKit
set_option linter.unusedVariables false

/-- Events of rows, from a row's number on; fin: what is wrong behind all rows. -/
def evN (L : List Dc) (fin : Nat × Nat × Nat) : List (List (List UInt8)) → Nat → List Ev × Nat × Nat × Nat
  | [], _ => ([], fin)
  | r :: rs, i => match ofL L r with
    | .error (e, c) => ([], e, i + 1, c)
    | .ok x => if i = 16384 then ([], 14, i + 1, 1) else (x :: (evN L fin rs (i + 1)).1, (evN L fin rs (i + 1)).2)
/-- All events of a log, and what is first wrong: the error, the row, the field. -/
def evR (L : List Dc) (l : List UInt8) : List Ev × Nat × Nat × Nat := evN L (allR l).2 (allR l).1 0
def finAt (k : Nat) (x : List UInt8) : Nat × Nat × Nat := ((allR x).2.1, if (allR x).2.1 = 0 then 0 else (allR x).2.2.1 + k, (allR x).2.2.2)
/-- .. of what is left, behind k rows. -/
def evT (L : List Dc) (k : Nat) (x : List UInt8) : List Ev × Nat × Nat × Nat := evN L (finAt k x) (allR x).1 k
theorem evT_zero (L : List Dc) (l : List UInt8) : evT L 0 l = evR L l := by
  have h : finAt 0 l = (allR l).2 := by
    unfold finAt
    by_cases h0 : (allR l).2.1 = 0
    · have := allN_zero _ l h0
      rw [if_pos h0]
      exact Prod.ext rfl (Prod.ext this.1.symm rfl)
    · rw [if_neg h0]; rfl
  rw [evT, evR, h]
/-- The next event of what is left, behind k rows; or what is wrong; no error: nothing is left. -/
def stepL (L : List Dc) (k : Nat) (x : List UInt8) : Except (Nat × Nat × Nat) (Ev × List UInt8) :=
  if x = [] then .error (0, 0, 0) else match rowR x with
    | .error (e, c) => .error (e, k + 1, c)
    | .ok (fs, r) => match ofL L fs with
      | .error (e, c) => .error (e, k + 1, c)
      | .ok y => if k = 16384 then .error (14, k + 1, 1) else .ok (y, r)
theorem step_nil (L : List Dc) (k : Nat) : stepL L k [] = .error (0, 0, 0) := by rw [stepL, if_pos rfl]
theorem step_row {L : List Dc} {k e c : Nat} {x : List UInt8} (hx : x ≠ []) (h : rowR x = .error (e, c)) : stepL L k x = .error (e, k + 1, c) := by
  rw [stepL, if_neg hx, h]
theorem step_of {L : List Dc} {k e c : Nat} {x r : List UInt8} {fs : List (List UInt8)} (hx : x ≠ []) (h : rowR x = .ok (fs, r)) (h2 : ofL L fs = .error (e, c)) : stepL L k x = .error (e, k + 1, c) := by
  rw [stepL, if_neg hx, h]; simp only; rw [h2]
theorem step_many {L : List Dc} {k : Nat} {x r : List UInt8} {fs : List (List UInt8)} {y : Ev} (hx : x ≠ []) (h : rowR x = .ok (fs, r)) (h2 : ofL L fs = .ok y) (hk : k = 16384) : stepL L k x = .error (14, k + 1, 1) := by
  rw [stepL, if_neg hx, h]; simp only; rw [h2]; simp only; rw [if_pos hk]
theorem step_ok {L : List Dc} {k : Nat} {x r : List UInt8} {fs : List (List UInt8)} {y : Ev} (hx : x ≠ []) (h : rowR x = .ok (fs, r)) (h2 : ofL L fs = .ok y) (hk : k ≠ 16384) : stepL L k x = .ok (y, r) := by
  rw [stepL, if_neg hx, h]; simp only; rw [h2]; simp only; rw [if_neg hk]
theorem fin_next {k : Nat} {x r : List UInt8} {fs : List (List UInt8)} (hx : x ≠ []) (h : rowR x = .ok (fs, r)) : finAt k x = finAt (k + 1) r := by
  unfold finAt
  rw [allR_ok hx h]
  simp only
  by_cases h0 : (allR r).2.1 = 0
  · rw [if_pos h0, if_pos h0]
  · rw [if_neg h0, if_neg h0, if_neg h0]
    refine Prod.ext rfl (Prod.ext ?_ rfl)
    show (allR r).2.2.1 + 1 + k = (allR r).2.2.1 + (k + 1)
    omega
theorem evT_step (L : List Dc) (k : Nat) (x : List UInt8) : evT L k x = match stepL L k x with
    | .error f => ([], f)
    | .ok (y, r) => (y :: (evT L (k + 1) r).1, (evT L (k + 1) r).2) := by
  by_cases hx : x = []
  · subst hx
    rw [step_nil, evT]
    have : finAt k [] = (0, 0, 0) := by unfold finAt; rw [allR_nil]; rfl
    rw [this, allR_nil]
    rfl
  · cases h : rowR x with
    | error e =>
      obtain ⟨e, c⟩ := e
      have he := (rowR_errs h).1
      rw [step_row hx h, evT, finAt, allR_err hx h]
      simp only
      rw [if_neg (by omega), evN, Nat.add_comm 1 k]
    | ok p =>
      obtain ⟨fs, r⟩ := p
      rw [evT, fin_next hx h, allR_ok hx h, evN]
      cases h2 : ofL L fs with
      | error e =>
        obtain ⟨e, c⟩ := e
        rw [step_of hx h h2]
      | ok y =>
        simp only
        by_cases hk : k = 16384
        · rw [if_pos hk, step_many hx h h2 hk]
        · rw [if_neg hk, step_ok hx h h2 hk]
          rfl
theorem evT_stop {L : List Dc} {k : Nat} {x : List UInt8} {f : Nat × Nat × Nat} (h : stepL L k x = .error f) : evT L k x = ([], f) := by rw [evT_step, h]
theorem evT_more {L : List Dc} {k : Nat} {x r : List UInt8} {y : Ev} (h : stepL L k x = .ok (y, r)) : evT L k x = (y :: (evT L (k + 1) r).1, (evT L (k + 1) r).2) := by rw [evT_step, h]
/-- So far, these events. -/
def evX (L : List Dc) (l0 : List UInt8) (M : List Ev) (x : List UInt8) : Prop := evR L l0 = (M ++ (evT L M.length x).1, (evT L M.length x).2)
theorem evX_zero (L : List Dc) (l : List UInt8) : evX L l [] l := by rw [evX, List.nil_append, List.length_nil, evT_zero]
theorem evX_more {L : List Dc} {l0 x r : List UInt8} {M : List Ev} {y : Ev} (h : evX L l0 M x) (h2 : stepL L M.length x = .ok (y, r)) : evX L l0 (M ++ [y]) r := by
  rw [evX] at h ⊢
  rw [h, evT_more h2, List.length_append, List.length_singleton]
  simp
theorem evX_end {L : List Dc} {l0 x : List UInt8} {M : List Ev} {f : Nat × Nat × Nat} (h : evX L l0 M x) (h2 : stepL L M.length x = .error f) : evR L l0 = (M, f) := by
  rw [evX] at h
  rw [h, evT_stop h2]
  simp
theorem step_facts {L : List Dc} {k : Nat} {x r : List UInt8} {y : Ev} (h : stepL L k x = .ok (y, r)) : r.length < x.length ∧ k ≠ 16384 ∧ ∃ fs, rowR x = .ok (fs, r) ∧ ofL L fs = .ok y := by
  by_cases hx : x = []
  · subst hx; rw [step_nil] at h; cases h
  · cases h1 : rowR x with
    | error e => obtain ⟨e, c⟩ := e; rw [step_row hx h1] at h; cases h
    | ok p =>
      obtain ⟨fs, r'⟩ := p
      cases h2 : ofL L fs with
      | error e => obtain ⟨e, c⟩ := e; rw [step_of hx h1 h2] at h; cases h
      | ok y' =>
        by_cases hk : k = 16384
        · rw [step_many hx h1 h2 hk] at h; cases h
        · rw [step_ok hx h1 h2 hk] at h
          cases h
          exact ⟨(rowR_facts h1).1 hx, hk, fs, rfl, h2⟩
end Go.Proofs.YtmjchmamkjbgkaaGreatDoor

/- EvReader -/
namespace Go.Proofs.YtmjchmamkjbgkaaGreatDoor
open Go.RowKit
set_option linter.unusedVariables false

/-- A reader of events in memory: the reader of rows, the schema, and what is wrong. -/
def EvRd (w : World) (E R : Nat) (la : Option Addr) (llen lcap : Nat) (we wl wc : Nat) : Prop :=
  w.heap[E]? = some (.cells #[.pointer (some ⟨R, 0, none⟩), .slice la llen lcap, .int .i64 (we : Nat), .int .i64 (wl : Nat), .int .i64 (wc : Nat)] 58 (0, 0))
theorem EvRd.cblk {w : World} {E R llen lcap we wl wc : Nat} {la : Option Addr} (h : EvRd w E R la llen lcap we wl wc) : CBlk w E 58 := ⟨_, _, h⟩
theorem EvRd.same {w w' : World} {E R llen lcap we wl wc : Nat} {la : Option Addr} (h : EvRd w E R la llen lcap we wl wc) (e : w'.heap[E]? = w.heap[E]?) : EvRd w' E R la llen lcap we wl wc := e.trans h
theorem EvRd.below {w w' : World} {E R llen lcap we wl wc : Nat} {la : Option Addr} (h : EvRd w E R la llen lcap we wl wc) (k : Below w.heap.size w w') : EvRd w' E R la llen lcap we wl wc := h.same (k.block E h.cblk.lt)
theorem EvRd.cells {w : World} {E R llen lcap we wl wc : Nat} {la : Option Addr} (h : EvRd w E R la llen lcap we wl wc) :
    w.cell? ⟨E, 0, none⟩ = some (.pointer (some ⟨R, 0, none⟩)) ∧ w.cell? ⟨E, 1, none⟩ = some (.slice la llen lcap) ∧ w.cell? ⟨E, 2, none⟩ = some (.int .i64 (we : Nat)) ∧ w.cell? ⟨E, 3, none⟩ = some (.int .i64 (wl : Nat)) ∧ w.cell? ⟨E, 4, none⟩ = some (.int .i64 (wc : Nat)) := by
  unfold EvRd at h
  refine ⟨?_, ?_, ?_, ?_, ?_⟩
  · rw [cell_of_row w E 0 _ _ _ h]; rfl
  · rw [cell_of_row w E 1 _ _ _ h]; rfl
  · rw [cell_of_row w E 2 _ _ _ h]; rfl
  · rw [cell_of_row w E 3 _ _ _ h]; rfl
  · rw [cell_of_row w E 4 _ _ _ h]; rfl
theorem EvRd.froz {w : World} {E R llen lcap we wl wc : Nat} {la : Option Addr} (h : EvRd w E R la llen lcap we wl wc) (j : Nat) : w.frozen? ⟨E, j, none⟩ = false := frozen_of_row w E j _ _ h
theorem EvRd.set {w : World} {E R llen lcap we wl wc : Nat} {la : Option Addr} (h : EvRd w E R la llen lcap we wl wc) (a b c : Nat) :
    EvRd (((w.setCell ⟨E, 2, none⟩ (.int .i64 (a : Nat))).setCell ⟨E, 3, none⟩ (.int .i64 (b : Nat))).setCell ⟨E, 4, none⟩ (.int .i64 (c : Nat))) E R la llen lcap a b c := by
  unfold EvRd at h ⊢
  have h1 := heap_setCell_same w E 2 _ _ (.int .i64 (a : Nat)) h
  have h2 := heap_setCell_same _ E 3 _ _ (.int .i64 (b : Nat)) h1
  have h3 := heap_setCell_same _ E 4 _ _ (.int .i64 (c : Nat)) h2
  rw [h3]; rfl
/-- A reader that goes on: behind k rows, with what is left. -/
structure Live (w : World) (E R P : Nat) (la : Option Addr) (llen lcap k : Nat) (x : ByteArray) : Prop where
  ev : EvRd w E R la llen lcap 0 0 0
  rd : RdAt w R P k x 0 0 0
/-- .. that has ended, and tells this. -/
def Done (w : World) (E R P : Nat) (la : Option Addr) (llen lcap : Nat) (f : Nat × Nat × Nat) : Prop :=
  (f.1 ≠ 0 ∧ EvRd w E R la llen lcap f.1 f.2.1 f.2.2) ∨ (EvRd w E R la llen lcap 0 0 0 ∧ ∃ k x, RdAt w R P k x f.1 f.2.1 f.2.2 ∧ (f.1 ≠ 0 ∨ x.size = 0))
theorem Live.below {w w' : World} {E R P llen lcap k : Nat} {la : Option Addr} {x : ByteArray} (h : Live w E R P la llen lcap k x) (b : Below w.heap.size w w') : Live w' E R P la llen lcap k x := ⟨h.ev.below b, h.rd.below b⟩
theorem Done.below {w w' : World} {E R P llen lcap : Nat} {la : Option Addr} {f : Nat × Nat × Nat} (h : Done w E R P la llen lcap f) (b : Below w.heap.size w w') : Done w' E R P la llen lcap f := by
  rcases h with ⟨h1, h2⟩ | ⟨h1, k, x, h2, h3⟩
  · exact .inl ⟨h1, h2.below b⟩
  · exact .inr ⟨h1.below b, k, x, h2.below b, h3⟩
def rdS (E R P : Nat) : Nat → Prop := fun k => k = E ∨ k = R ∨ k = P
theorem Kp.setNew {S : Nat → Prop} {a b : World} (h : Kp S a b) {g o : Nat} (hg : a.heap.size ≤ g) (v : Value) : Kp S a (b.setCell ⟨g, o, none⟩ v) :=
  ⟨h.os, h.tape, h.output, by rw [World.size_setCell]; exact h.size, fun k hk hn => (heap_setCell_other b _ k v (by simp; omega)).trans (h.block k hk hn)⟩

set_option maxHeartbeats 1000000 in
theorem newEv_calls (la : Option Addr) (llen lcap : Nat) (s : ByteArray) (w : World) :
    Calls Tryz.prog 24 #[.slice la llen lcap, .string s] w fun e w' => ∃ E, e = .returned (.pointer (some ⟨E, 0, none⟩)) ∧ w.heap.size ≤ E ∧ Live w' E (w.heap.size + 1) w.heap.size la llen lcap 0 s ∧ Below w.heap.size w w' := by
  have HN := Lib.hid (new_calls s w)
  go_enter Tryz.func24, Tryz.ntmps24
  go_wp2_with fail
  refine HN.out.mono ?_
  rintro e w1 ⟨rfl, h1, k1⟩
  have HR := Lib.hid h1
  have HB := Lib.hid k1
  clear h1 k1
  go_wp2_with fail
  go_ret
  exact ⟨w1.heap.size, rfl, HB.out.size, ⟨heap_alloc_new _ _, HR.out.alloc _⟩, HB.out.alloc HB.out.size _⟩

set_option maxHeartbeats 1000000 in
theorem failWrong_calls (E R : Nat) (la : Option Addr) (llen lcap we wl wc : Nat) (w : World) (h : EvRd w E R la llen lcap we wl wc) (hwe : we ≠ 0) :
    Calls Tryz.prog 27 #[.pointer (some ⟨E, 0, none⟩)] w fun e w' => e = .returned (failV we wl wc) ∧ Below w.heap.size w w' := by
  have h2 := h.below ((Below.refl w.heap.size w).alloc (Nat.le_refl _) (.cells #[.int .i64 0, .int .i64 0, .int .i64 0] 32))
  obtain ⟨c0, c1, c2, c3, c4⟩ := h.cells
  have hE := h.cblk.lt
  have t1 : ((we : Int) != 0) = true := by simpa using hwe
  clear h h2 hwe
  go_enter Tryz.func27, Tryz.ntmps27
  go_wp2_with fail
  (try simp only [Exit.inBlock, Exit.then])
  refine bodyPost_ret (v := failV we wl wc) ?_ rfl ⟨rfl, ?_⟩
  · refine cs_result1 rfl _ _ _ (a := ⟨w.heap.size, 0, none⟩) (by rfl) ?_
    unfold failV
    go_simp
  · repeat' (first | exact Below.refl _ _ | refine Below.alloc ?_ (by simp <;> omega) _ | refine Below.setCell ?_ (by simp) _)
set_option maxHeartbeats 1000000 in
theorem failRd_calls (E R P : Nat) (la : Option Addr) (llen lcap k e line col : Nat) (rest : ByteArray) (w : World) (h : EvRd w E R la llen lcap 0 0 0) (hr : RdAt w R P k rest e line col) :
    Calls Tryz.prog 27 #[.pointer (some ⟨E, 0, none⟩)] w fun ev w' => ev = .returned (failV e line col) ∧ Below w.heap.size w w' := by
  have HB := Lib.hid ((Below.refl w.heap.size w).alloc (Nat.le_refl _) (.cells #[.int .i64 0, .int .i64 0, .int .i64 0] 32))
  have HF := Lib.hid (fail_calls R P k e line col rest _ (hr.below HB.out))
  obtain ⟨c0, c1, c2, c3, c4⟩ := h.cells
  have hE := h.cblk.lt
  have hN := heap_alloc_new w (.cells #[.int .i64 0, .int .i64 0, .int .i64 0] 32)
  have HN := Lib.hid hN
  clear h hr hN
  go_enter Tryz.func27, Tryz.ntmps27
  go_wp2_with fail
  refine HF.out.mono ?_
  rintro ev w1 ⟨he, k1⟩
  simp only [failV] at he
  subst he
  have hN1 := (k1.block w.heap.size (by simp)).trans HN.out
  have d0 : w1.cell? ⟨w.heap.size, 0, none⟩ = some (.int .i64 0) := by rw [cell_of_row w1 _ 0 _ _ _ hN1]; rfl
  have d1 : w1.cell? ⟨w.heap.size, 1, none⟩ = some (.int .i64 0) := by rw [cell_of_row w1 _ 1 _ _ _ hN1]; rfl
  have d2 : w1.cell? ⟨w.heap.size, 2, none⟩ = some (.int .i64 0) := by rw [cell_of_row w1 _ 2 _ _ _ hN1]; rfl
  have f0 := frozen_of_row w1 _ 0 _ _ hN1
  have f1 := frozen_of_row w1 _ 1 _ _ hN1
  have f2 := frozen_of_row w1 _ 2 _ _ hN1
  have HB1 := Lib.hid (HB.out.trans (k1.mono HB.out.size))
  clear k1 hN1
  go_wp2_with fail
  (try simp only [Exit.inBlock, Exit.then])
  refine bodyPost_ret (v := failV e line col) ?_ rfl ⟨rfl, ?_⟩
  · refine cs_result1 rfl _ _ _ (a := ⟨w.heap.size, 0, none⟩) (by rfl) ?_
    unfold failV
    go_simp
  · repeat' (first | exact HB1.out | refine Below.setCell ?_ (by simp) _)
theorem failDone_calls (E R P : Nat) (la : Option Addr) (llen lcap : Nat) (f : Nat × Nat × Nat) (w : World) (h : Done w E R P la llen lcap f) :
    Calls Tryz.prog 27 #[.pointer (some ⟨E, 0, none⟩)] w fun ev w' => ev = .returned (failV f.1 f.2.1 f.2.2) ∧ Below w.heap.size w w' := by
  rcases h with ⟨h1, h2⟩ | ⟨h1, k, x, h2, h3⟩
  · exact failWrong_calls E R la llen lcap _ _ _ w h2 h1
  · exact failRd_calls E R P la llen lcap k _ _ _ x w h1 h2
end Go.Proofs.YtmjchmamkjbgkaaGreatDoor

/- EvEvent -/
namespace Go.Proofs.YtmjchmamkjbgkaaGreatDoor
open Go.RowKit
set_option linter.unusedVariables false

/-- The result's block, as it was made. -/
def NB (w W : World) : Prop := W.heap[w.heap.size]? = some (.cells #[.string ⟨#[]⟩, .slice none 0 0] 29 (0, 0))
theorem NB.new (w : World) : NB w (w.alloc (.cells #[.string ⟨#[]⟩, .slice none 0 0] 29)) := heap_alloc_new _ _
theorem NB.cells {w W : World} (h : NB w W) : W.cell? ⟨w.heap.size, 0, none⟩ = some (.string ⟨#[]⟩) ∧ W.cell? ⟨w.heap.size, 1, none⟩ = some (.slice none 0 0) ∧ W.frozen? ⟨w.heap.size, 0, none⟩ = false ∧ W.frozen? ⟨w.heap.size, 1, none⟩ = false := by
  unfold NB at h
  exact ⟨by rw [cell_of_row W _ 0 _ _ _ h]; rfl, by rw [cell_of_row W _ 1 _ _ _ h]; rfl, frozen_of_row W _ 0 _ _ h, frozen_of_row W _ 1 _ _ h⟩
theorem NB.lt {w W : World} (h : NB w W) : w.heap.size < W.heap.size := (Array.getElem?_eq_some_iff.1 h).1
theorem NB.below {w W W' : World} (h : NB w W) (k : Below W.heap.size W W') : NB w W' := (k.block _ h.lt).trans h
theorem NB.grown {w W W' : World} {r : Nat} (h : NB w W) (k : W.grownBy W' (some r)) (hr : r < w.heap.size) : NB w W' := (k.block _ h.lt (fun e => by cases e; omega)).trans h
/-- No event. -/
def noEv : Value := .tuple #[.agg #[.string ⟨#[]⟩, .slice none 0 0], .bool false]

set_option maxHeartbeats 1000000 in
theorem eventWrong_calls (E R P : Nat) (la : Option Addr) (llen lcap we wl wc : Nat) (w : World) (h : EvRd w E R la llen lcap we wl wc) (hwe : we ≠ 0) :
    Calls Tryz.prog 25 #[.pointer (some ⟨E, 0, none⟩)] w fun e w' => e = .returned noEv ∧ Below w.heap.size w w' := by
  obtain ⟨c0, c1, c2, c3, c4⟩ := h.cells
  have hE := h.cblk.lt
  have t1 : ((we : Int) != 0) = true := by simpa using hwe
  clear h hwe
  go_enter Tryz.func25, Tryz.ntmps25
  go_wp2_with fail
  (try simp only [Exit.inBlock, Exit.then])
  refine bodyPost_ret (v := noEv) ?_ rfl ⟨rfl, ?_⟩
  · rw [results_cell_tmp rfl]
    unfold noEv
    go_simp
  · repeat' (first | exact Below.refl _ _ | refine Below.alloc ?_ (by simp <;> omega) _ | refine Below.setCell ?_ (by simp) _)
set_option maxHeartbeats 1000000 in
theorem eventStop_calls (E R P k e line col : Nat) (rest : ByteArray) (la : Option Addr) (llen lcap : Nat) (w : World) (h : EvRd w E R la llen lcap 0 0 0) (hr : RdAt w R P k rest e line col) (hs : e ≠ 0 ∨ rest.size = 0) :
    Calls Tryz.prog 25 #[.pointer (some ⟨E, 0, none⟩)] w fun ev w' => ev = .returned noEv ∧ Below w.heap.size w w' := by
  obtain ⟨c0, c1, c2, c3, c4⟩ := h.cells
  have hE := h.cblk.lt
  have HN := Lib.hid (nextStop_calls R P k e line col rest _ (hr.alloc (.cells #[.string ⟨#[]⟩, .slice none 0 0] 29)) hs)
  clear h hr hs
  go_enter Tryz.func25, Tryz.ntmps25
  go_wp2_with fail
  refine HN.out.mono ?_
  rintro ev w1 ⟨rfl, hw1⟩
  subst hw1
  go_wp2_with fail
  (try simp only [Exit.inBlock, Exit.then])
  refine bodyPost_ret (v := noEv) ?_ rfl ⟨rfl, ?_⟩
  · rw [results_cell_tmp rfl]
    unfold noEv
    go_simp
  · repeat' (first | exact Below.refl _ _ | refine Below.alloc ?_ (by simp <;> omega) _ | refine Below.setCell ?_ (by simp) _)
theorem eventDone_calls (E R P : Nat) (la : Option Addr) (llen lcap : Nat) (f : Nat × Nat × Nat) (w : World) (h : Done w E R P la llen lcap f) :
    Calls Tryz.prog 25 #[.pointer (some ⟨E, 0, none⟩)] w fun ev w' => ev = .returned noEv ∧ Below w.heap.size w w' := by
  rcases h with ⟨h1, h2⟩ | ⟨h1, k, x, h2, h3⟩
  · exact eventWrong_calls E R P la llen lcap _ _ _ w h2 h1
  · exact eventStop_calls E R P k _ _ _ x la llen lcap w h1 h2 h3
theorem rd_apart {w : World} {E R P llen lcap k e line col we wl wc : Nat} {la : Option Addr} {x : ByteArray} (h : EvRd w E R la llen lcap we wl wc) (hr : RdAt w R P k x e line col) : E ≠ R ∧ E ≠ P ∧ R ≠ P :=
  ⟨h.cblk.ne hr.blkR (by decide), h.cblk.ne hr.blkP (by decide), hr.ne⟩

set_option maxHeartbeats 2000000 in
theorem eventRow_calls (E R P k er c : Nat) (x : ByteArray) (la : Option Addr) (llen lcap : Nat) (w : World) (h : Live w E R P la llen lcap k x) (hk : k ≤ 16384) (hs0 : 0 < x.size) (hs : x.size ≤ 4000000) (hm : MaxC w) (het : ErrT w) (hr : rowR x.data.toList = .error (er, c)) :
    Calls Tryz.prog 25 #[.pointer (some ⟨E, 0, none⟩)] w fun ev w' => ev = .returned noEv ∧ Done w' E R P la llen lcap (er, k + 1, c) ∧ Kp (rdS E R P) w w' := by
  obtain ⟨c0, c1, c2, c3, c4⟩ := h.ev.cells
  have hE := h.ev.cblk.lt
  have hap := rd_apart h.ev h.rd
  have hb := (Below.refl w.heap.size w).alloc (Nat.le_refl _) (.cells #[.string ⟨#[]⟩, .slice none 0 0] 29)
  have HN := Lib.hid (nextErr_calls R P k 0 0 x er c _ (h.rd.alloc (.cells #[.string ⟨#[]⟩, .slice none 0 0] 29)) (by omega) hs0 hs (hm.below hb) (het.below hb) hr)
  have HEv := Lib.hid (h.ev.below hb)
  have HX := Lib.hid (rowR_errs hr).1
  have hRl := h.rd.blkR.lt
  clear h hk hs0 hs hm het hr hb
  go_enter Tryz.func25, Tryz.ntmps25
  go_wp2_with fail
  refine HN.out.mono ?_
  rintro ev w2 ⟨rfl, hrd, w1, k1, g1⟩
  have hN2 := ((NB.new w).below k1).grown g1 hRl
  obtain ⟨n0, n1, n2, n3⟩ := hN2.cells
  have hE1 := HEv.out.below k1
  have HE2 := Lib.hid (hE1.same (g1.block E hE1.cblk.lt (fun e => hap.1 (Option.some.inj e))))
  have HR2 := Lib.hid hrd
  have HK := Lib.hid ((((Kp.refl (rdS E R P) w).alloc (.cells #[.string ⟨#[]⟩, .slice none 0 0] 29)).below k1).grown g1 (.inr (.inl rfl)))
  have hzN := hN2.lt
  have HNB := Lib.hid hN2
  clear hN2 hE1 hrd k1 g1
  go_wp2_with fail
  (try simp only [Exit.inBlock, Exit.then])
  refine bodyPost_ret (v := noEv) ?_ rfl ?_
  · rw [results_cell_tmp rfl]
    unfold noEv
    go_simp
  · have hg := ev_set2 w2 w.heap.size (.string ⟨#[]⟩) (.slice none 0 0)
    have hR2 := HR2.out.blkR.lt
    have hE2l := HE2.out.cblk.lt
    have hRn : R ≠ w.heap.size := by omega
    have hPl : P ≠ w.heap.size := fun e => by have := HR2.out.blkP; rw [e] at this; exact (CBlk.ne this ⟨_, _, HNB.out⟩ (by decide)) rfl
    refine ⟨rfl, .inr ⟨HE2.out.same (hg.block E hE2l (fun e => by have := Option.some.inj e; omega)), k, x, HR2.out.grown hg (fun e => hRn (Option.some.inj e)) (fun e => hPl (Option.some.inj e)), .inl ?_⟩, (HK.out.setNew (Nat.le_refl _) _).setNew (Nat.le_refl _) _⟩
    have := HX.out
    simp only
    omega
end Go.Proofs.YtmjchmamkjbgkaaGreatDoor

/- EvEvent2 -/
namespace Go.Proofs.YtmjchmamkjbgkaaGreatDoor
open Go.RowKit
set_option linter.unusedVariables false

theorem Kp.setN {N o : Nat} {a b : World} (h : Kp (fun g => g = N) a b) (v : Value) : Kp (fun g => g = N) a (b.setCell ⟨N, o, none⟩ v) := h.set (g := N) (Eq.refl N) v
/-- The end of a round that has read an event. -/
theorem ev_fin {w w3 W : World} {E R P K llen lcap : Nat} {la : Option Addr} {x nm : ByteArray} {A : List Vd} {a : Option Addr} {c : Nat} (hN : NB w w3) (hE : EvRd w3 E R la llen lcap 0 0 0) (hR : RdAt w3 R P K x 0 0 0) (hv : VIn w3 a A.length A ∧ VObj w3 a) (hk : Kp (rdS E R P) w w3) (hRl : R < w.heap.size) (hPl : P < w.heap.size) (hz : w.heap.size < w3.heap.size)
    (hK : Kp (fun g => g = w.heap.size) w3 W) :
    (∃ a' cap, (Ending.returned (.tuple #[.agg #[.string nm, .slice a A.length c], .bool true])) = .returned (.tuple #[.agg #[.string nm, .slice a' A.length cap], .bool true]) ∧ VIn W a' A.length A ∧ VObj W a') ∧ Live W E R P la llen lcap K x ∧ Kp (rdS E R P) w W := by
  have hS : ∀ g, g = w.heap.size → ¬ CBlk w3 g 44 := by
    rintro g rfl
    exact CBlk.un ⟨_, _, hN⟩ (by decide)
  have hE1 : E ≠ w.heap.size := fun e => by have h1 := hE.cblk; rw [e] at h1; exact (CBlk.ne h1 ⟨_, _, hN⟩ (by decide)) rfl
  refine ⟨⟨a, c, rfl, hv.1.kp hv.2 hK hS, hv.2.kp hK hS⟩, ⟨hE.same (hK.block E hE.cblk.lt hE1), ⟨(hK.block R hR.blkR.lt (by omega)).trans hR.rd, (hK.block P hR.blkP.lt (by omega)).trans hR.pl⟩⟩, ?_⟩
  exact ⟨hK.os.trans hk.os, hK.tape.trans hk.tape, hK.output.trans hk.output, Nat.le_trans hk.size hK.size, fun g hg hn => (hK.block g (Nat.lt_of_lt_of_le hg hk.size) (by omega)).trans (hk.block g hg hn)⟩

/-- The end of a round that has found something wrong. -/
theorem ev_done {w w3 : World} {E R P er K c llen lcap : Nat} {la : Option Addr} (hE : EvRd w3 E R la llen lcap 0 0 0) (hne : er ≠ 0) (hk : Kp (rdS E R P) w w3) (hEN : E ≠ w.heap.size) (x y : Value) (o1 o2 : Obj) :
    Done (((((((w3.setCell ⟨E, 2, none⟩ (.int .i64 (er : Nat))).setCell ⟨E, 3, none⟩ (.int .i64 (K : Nat))).setCell ⟨E, 4, none⟩ (.int .i64 (c : Nat))).setCell ⟨w.heap.size, 0, none⟩ x).setCell ⟨w.heap.size, 1, none⟩ y).alloc o1).alloc o2) E R P la llen lcap (er, K, c) ∧
    Kp (rdS E R P) w (((((((w3.setCell ⟨E, 2, none⟩ (.int .i64 (er : Nat))).setCell ⟨E, 3, none⟩ (.int .i64 (K : Nat))).setCell ⟨E, 4, none⟩ (.int .i64 (c : Nat))).setCell ⟨w.heap.size, 0, none⟩ x).setCell ⟨w.heap.size, 1, none⟩ y).alloc o1).alloc o2) := by
  have h1 := hE.set er K c
  have hg := ev_set2 (((w3.setCell ⟨E, 2, none⟩ (.int .i64 (er : Nat))).setCell ⟨E, 3, none⟩ (.int .i64 (K : Nat))).setCell ⟨E, 4, none⟩ (.int .i64 (c : Nat))) w.heap.size x y
  have h2 := h1.same (hg.block E h1.cblk.lt (fun e => hEN (Option.some.inj e)))
  have h3 := h2.below ((Below.refl _ _).alloc (Nat.le_refl _) o1)
  have h4 := h3.below ((Below.refl _ _).alloc (Nat.le_refl _) o2)
  exact ⟨.inl ⟨hne, h4⟩, (((((((hk.set (.inl rfl) _).set (.inl rfl) _).set (.inl rfl) _).setNew (Nat.le_refl _) _).setNew (Nat.le_refl _) _).alloc o1).alloc o2)⟩

set_option maxHeartbeats 4000000 in
set_option maxRecDepth 100000 in
theorem eventOk_calls (w0 : World) (E R P k : Nat) (x : ByteArray) (la : Option Addr) (llen lcap : Nat) (L : List Dc) (fs : List (List UInt8)) (r : List UInt8) (nm : ByteArray) (A : List Vd) (w : World) (hD : DIn w0 la llen L) (hsch : SchOk L) (hL : Laid w0) (het : ErrT w0) (hm : MaxC w0) (hb0 : Below w0.heap.size w0 w) (hbase : w0.heap.size ≤ E ∧ w0.heap.size ≤ R ∧ w0.heap.size ≤ P) (h : Live w E R P la llen lcap k x) (hk : k ≤ 16384) (hk2 : k ≠ 16384) (hs0 : 0 < x.size) (hs : x.size ≤ 4000000) (hr : rowR x.data.toList = .ok (fs, r)) (hof : ofL L fs = .ok (nm, A)) :
    Calls Tryz.prog 25 #[.pointer (some ⟨E, 0, none⟩)] w fun ev w' => (∃ a cap, ev = .returned (.tuple #[.agg #[.string nm, .slice a A.length cap], .bool true]) ∧ VIn w' a A.length A ∧ VObj w' a) ∧ Live w' E R P la llen lcap (k + 1) ⟨r.toArray⟩ ∧ Kp (rdS E R P) w w' := by
  obtain ⟨c0, c1, c2, c3, c4⟩ := h.ev.cells
  have hE := h.ev.cblk.lt
  have hap := rd_apart h.ev h.rd
  have hb := (Below.refl w.heap.size w).alloc (Nat.le_refl _) (.cells #[.string ⟨#[]⟩, .slice none 0 0] 29)
  have hb1 := hb0.trans (hb.mono hb0.size)
  have hfa := (rowR_facts hr).2.2.1
  have HN := Lib.hid (nextOkC_calls R P k 0 0 x fs r _ (h.rd.alloc (.cells #[.string ⟨#[]⟩, .slice none 0 0] 29)) (by omega) hs0 hs (hm.below hb1) hr)
  have HO := Lib.hid (fun a cap w2 (hB2 : Below w0.heap.size w0 w2) (ht : TIn w2 a fs.length fs) hc => of_calls' la llen lcap L a fs.length cap fs w2 (hD.below hB2) ht hsch (fun f hf => by have := hfa f hf; omega) hc (hL.below hB2) (het.below hB2))
  rw [hof] at HO
  have HEv := Lib.hid (h.ev.below hb)
  have HB1 := Lib.hid hb1
  have hPl := h.rd.blkP.lt
  have hRl := h.rd.blkR.lt

  obtain ⟨K, hK⟩ : ∃ K, K = k + 1 := ⟨_, rfl⟩
  have HKe := Lib.hid hK
  rw [← hK] at HN
  have t1 : decide ((16384 : Int) < (K : Int)) = false := by simp; omega
  obtain ⟨n, hn⟩ : ∃ n, n = fs.length := ⟨_, rfl⟩
  rw [← hn] at HN HO
  clear h hs0 hs hm het hr hb hb1 hfa hL hD hof hb0 hK hn hsch hk hk2
  go_enter Tryz.func25, Tryz.ntmps25
  go_wp2_with fail
  refine HN.out.mono ?_
  rintro ev w2 ⟨ra, rc, rfl, hc, hT, _, hrd, w1, k1, g1⟩
  have hN2 := ((NB.new w).below k1).grown g1 hPl
  have hE1 := HEv.out.below k1
  have hE2 := hE1.same (g1.block E hE1.cblk.lt (fun e => hap.2.1 (Option.some.inj e)))
  obtain ⟨e0, e1, e2, e3, e4⟩ := hE2.cells
  have hz2 := hE2.cblk.lt
  have HK2 := Lib.hid ((((Kp.refl (rdS E R P) w).alloc (.cells #[.string ⟨#[]⟩, .slice none 0 0] 29)).below k1).grown g1 (.inr (.inr rfl)))
  have HB2 := Lib.hid ((HB1.out.trans (k1.mono HB1.out.size)).grown g1 (HB1.out.trans (k1.mono HB1.out.size)).size (fun j hj => by cases hj; exact hbase.2.2))
  have HN2 := Lib.hid hN2
  have HE2 := Lib.hid hE2
  have HR2 := Lib.hid hrd
  have HT2 := Lib.hid (And.intro hT hc)
  clear hN2 hE1 hE2 hrd k1 g1 hT hc c0 c1 c2 c3 c4
  go_wp2_with fail
  refine (HO.out ra rc w2 HB2.out HT2.out.1 HT2.out.2).mono ?_
  rintro ev w3 ⟨⟨a, c, he, hv1, hv2⟩, k3⟩
  simp only [failV] at he
  subst he
  have HV3 := Lib.hid (And.intro hv1 hv2)
  clear hv1 hv2
  have hN3 := HN2.out.below k3
  obtain ⟨n0, n1, n2, n3⟩ := hN3.cells
  have hE3 := HE2.out.below k3
  obtain ⟨e0', e1', e2', e3', e4'⟩ := hE3.cells
  have z2 := hE3.froz 2
  have z3 := hE3.froz 3
  have z4 := hE3.froz 4
  have hR3 := HR2.out.below k3
  obtain ⟨r0, r1, r2, r3, p0, p1⟩ := hR3.cells
  have hzE := hE3.cblk.lt
  have hzR := hR3.blkR.lt
  have hzP := hR3.blkP.lt
  have hzN := hN3.lt
  have hzN1 : w.heap.size ≤ w3.heap.size := by omega
  have hzE1 : E ≤ w3.heap.size := by omega
  have hEN : E ≠ w.heap.size := by omega
  have hNE : w.heap.size ≠ E := by omega
  have HN3 := Lib.hid hN3
  have HE3 := Lib.hid hE3
  have HR3 := Lib.hid hR3
  have HK3 := Lib.hid (HK2.out.below k3)
  clear hN3 hE3 hR3 k3 e0 e1 e2 e3 e4 hz2
  have HRw := Lib.hid (row_calls R P K 0 0 0 ⟨r.toArray⟩ ((w3.alloc (.cells #[.string nm, .slice a A.length c] 29)).alloc (.cells #[.int .i64 0, .int .i64 0, .int .i64 0] 32)) (HR3.out.below (((Below.refl w3.heap.size w3).alloc (Nat.le_refl _) (.cells #[.string nm, .slice a A.length c] 29)).alloc (by simp) (.cells #[.int .i64 0, .int .i64 0, .int .i64 0] 32))))
  go_wp2_with fail
  refine HRw.out.mono ?_
  rintro ev w4 ⟨rfl, hw4⟩
  subst hw4
  go_wp2_with fail
  (try simp only [Exit.inBlock, Exit.then])
  refine bodyPost_ret (v := .tuple #[.agg #[.string nm, .slice a A.length c], .bool true]) ?_ rfl ?_
  · rw [results_cell_tmp rfl]
    go_simp
  · rw [← HKe.out]
    refine ev_fin HN3.out HE3.out HR3.out HV3.out HK3.out hRl hPl hzN ?_
    repeat' (first | exact Kp.refl _ _ | refine Kp.alloc ?_ _ | refine Kp.setN ?_ _ | refine Kp.drew ?_)

set_option maxHeartbeats 4000000 in
set_option maxRecDepth 100000 in
theorem eventErr_calls (w0 : World) (E R P k er c : Nat) (x : ByteArray) (la : Option Addr) (llen lcap : Nat) (L : List Dc) (fs : List (List UInt8)) (r : List UInt8) (w : World) (hD : DIn w0 la llen L) (hsch : SchOk L) (hL : Laid w0) (het : ErrT w0) (hm : MaxC w0) (hb0 : Below w0.heap.size w0 w) (hbase : w0.heap.size ≤ E ∧ w0.heap.size ≤ R ∧ w0.heap.size ≤ P) (h : Live w E R P la llen lcap k x) (hk : k ≤ 16384) (hs0 : 0 < x.size) (hs : x.size ≤ 4000000) (hr : rowR x.data.toList = .ok (fs, r)) (hof : ofL L fs = .error (er, c)) :
    Calls Tryz.prog 25 #[.pointer (some ⟨E, 0, none⟩)] w fun ev w' => ev = .returned noEv ∧ Done w' E R P la llen lcap (er, k + 1, c) ∧ Kp (rdS E R P) w w' := by
  obtain ⟨c0, c1, c2, c3, c4⟩ := h.ev.cells
  have hE := h.ev.cblk.lt
  have hap := rd_apart h.ev h.rd
  have hb := (Below.refl w.heap.size w).alloc (Nat.le_refl _) (.cells #[.string ⟨#[]⟩, .slice none 0 0] 29)
  have hb1 := hb0.trans (hb.mono hb0.size)
  have hfa := (rowR_facts hr).2.2.1
  have HN := Lib.hid (nextOkC_calls R P k 0 0 x fs r _ (h.rd.alloc (.cells #[.string ⟨#[]⟩, .slice none 0 0] 29)) (by omega) hs0 hs (hm.below hb1) hr)
  have HO := Lib.hid (fun a cap w2 (hB2 : Below w0.heap.size w0 w2) (ht : TIn w2 a fs.length fs) hc => of_calls' la llen lcap L a fs.length cap fs w2 (hD.below hB2) ht hsch (fun f hf => by have := hfa f hf; omega) hc (hL.below hB2) (het.below hB2))
  rw [hof] at HO
  have HEv := Lib.hid (h.ev.below hb)
  have HB1 := Lib.hid hb1
  have hPl := h.rd.blkP.lt
  have hRl := h.rd.blkR.lt
  have her := (of_errs hof).1
  obtain ⟨K, hK⟩ : ∃ K, K = k + 1 := ⟨_, rfl⟩
  have HKe := Lib.hid hK
  rw [← hK] at HN
  have t1 : ((er : Int) == 0) = false := by simpa using her
  have t2 : ((er : Int) != 0) = true := by simpa using her
  have HEr := Lib.hid her
  clear her
  obtain ⟨n, hn⟩ : ∃ n, n = fs.length := ⟨_, rfl⟩
  rw [← hn] at HN HO
  clear h hs0 hs hm het hr hb hb1 hfa hL hD hof hb0 hK hn hsch hk
  go_enter Tryz.func25, Tryz.ntmps25
  go_wp2_with fail
  refine HN.out.mono ?_
  rintro ev w2 ⟨ra, rc, rfl, hc, hT, _, hrd, w1, k1, g1⟩
  have hN2 := ((NB.new w).below k1).grown g1 hPl
  have hE1 := HEv.out.below k1
  have hE2 := hE1.same (g1.block E hE1.cblk.lt (fun e => hap.2.1 (Option.some.inj e)))
  obtain ⟨e0, e1, e2, e3, e4⟩ := hE2.cells
  have hz2 := hE2.cblk.lt
  have HK2 := Lib.hid ((((Kp.refl (rdS E R P) w).alloc (.cells #[.string ⟨#[]⟩, .slice none 0 0] 29)).below k1).grown g1 (.inr (.inr rfl)))
  have HB2 := Lib.hid ((HB1.out.trans (k1.mono HB1.out.size)).grown g1 (HB1.out.trans (k1.mono HB1.out.size)).size (fun j hj => by cases hj; exact hbase.2.2))
  have HN2 := Lib.hid hN2
  have HE2 := Lib.hid hE2
  have HR2 := Lib.hid hrd
  have HT2 := Lib.hid (And.intro hT hc)
  clear hN2 hE1 hE2 hrd k1 g1 hT hc c0 c1 c2 c3 c4
  go_wp2_with fail
  refine (HO.out ra rc w2 HB2.out HT2.out.1 HT2.out.2).mono ?_
  rintro ev w3 ⟨he, k3⟩
  simp only [failV] at he
  subst he
  have hN3 := HN2.out.below k3
  obtain ⟨n0, n1, n2, n3⟩ := hN3.cells
  have hE3 := HE2.out.below k3
  obtain ⟨e0', e1', e2', e3', e4'⟩ := hE3.cells
  have z2 := hE3.froz 2
  have z3 := hE3.froz 3
  have z4 := hE3.froz 4
  have hR3 := HR2.out.below k3
  obtain ⟨r0, r1, r2, r3, p0, p1⟩ := hR3.cells
  have hzE := hE3.cblk.lt
  have hzR := hR3.blkR.lt
  have hzP := hR3.blkP.lt
  have hzN := hN3.lt
  have hzN1 : w.heap.size ≤ w3.heap.size := by omega
  have hzE1 : E ≤ w3.heap.size := by omega
  have hEN : E ≠ w.heap.size := by omega
  have hNE : w.heap.size ≠ E := by omega
  have HN3 := Lib.hid hN3
  have HE3 := Lib.hid hE3
  have HR3 := Lib.hid hR3
  have HK3 := Lib.hid (HK2.out.below k3)
  clear hN3 hE3 hR3 k3 e0 e1 e2 e3 e4 hz2
  have HRw := Lib.hid (row_calls R P K 0 0 0 ⟨r.toArray⟩ ((w3.alloc (.cells #[.string ⟨#[]⟩, .slice none 0 0] 29)).alloc (.cells #[.int .i64 (er : Nat), .int .i64 0, .int .i64 (c : Nat)] 32)) (HR3.out.below (((Below.refl w3.heap.size w3).alloc (Nat.le_refl _) (.cells #[.string ⟨#[]⟩, .slice none 0 0] 29)).alloc (by simp) (.cells #[.int .i64 (er : Nat), .int .i64 0, .int .i64 (c : Nat)] 32))))
  go_wp2_with fail
  refine HRw.out.mono ?_
  rintro ev w4 ⟨rfl, hw4⟩
  subst hw4
  go_wp2_with fail
  (try simp only [Exit.inBlock, Exit.then])
  refine bodyPost_ret (v := noEv) ?_ rfl ?_
  · rw [results_cell_tmp rfl]
    unfold noEv
    go_simp
  · rw [← HKe.out]
    exact ⟨rfl, ev_done HE3.out HEr.out HK3.out hEN _ _ _ _⟩

set_option maxHeartbeats 4000000 in
set_option maxRecDepth 100000 in
theorem eventMany_calls (w0 : World) (E R P k : Nat) (x : ByteArray) (la : Option Addr) (llen lcap : Nat) (L : List Dc) (fs : List (List UInt8)) (r : List UInt8) (nm : ByteArray) (A : List Vd) (w : World) (hD : DIn w0 la llen L) (hsch : SchOk L) (hL : Laid w0) (het : ErrT w0) (hm : MaxC w0) (hb0 : Below w0.heap.size w0 w) (hbase : w0.heap.size ≤ E ∧ w0.heap.size ≤ R ∧ w0.heap.size ≤ P) (h : Live w E R P la llen lcap k x) (hk : k ≤ 16384) (hk2 : k = 16384) (hs0 : 0 < x.size) (hs : x.size ≤ 4000000) (hr : rowR x.data.toList = .ok (fs, r)) (hof : ofL L fs = .ok (nm, A)) :
    Calls Tryz.prog 25 #[.pointer (some ⟨E, 0, none⟩)] w fun ev w' => ev = .returned noEv ∧ Done w' E R P la llen lcap (14, k + 1, 1) ∧ Kp (rdS E R P) w w' := by
  obtain ⟨c0, c1, c2, c3, c4⟩ := h.ev.cells
  have hE := h.ev.cblk.lt
  have hap := rd_apart h.ev h.rd
  have hb := (Below.refl w.heap.size w).alloc (Nat.le_refl _) (.cells #[.string ⟨#[]⟩, .slice none 0 0] 29)
  have hb1 := hb0.trans (hb.mono hb0.size)
  have hfa := (rowR_facts hr).2.2.1
  have HN := Lib.hid (nextOkC_calls R P k 0 0 x fs r _ (h.rd.alloc (.cells #[.string ⟨#[]⟩, .slice none 0 0] 29)) (by omega) hs0 hs (hm.below hb1) hr)
  have HO := Lib.hid (fun a cap w2 (hB2 : Below w0.heap.size w0 w2) (ht : TIn w2 a fs.length fs) hc => of_calls' la llen lcap L a fs.length cap fs w2 (hD.below hB2) ht hsch (fun f hf => by have := hfa f hf; omega) hc (hL.below hB2) (het.below hB2))
  rw [hof] at HO
  have HEv := Lib.hid (h.ev.below hb)
  have HB1 := Lib.hid hb1
  have hPl := h.rd.blkP.lt
  have hRl := h.rd.blkR.lt

  obtain ⟨K, hK⟩ : ∃ K, K = k + 1 := ⟨_, rfl⟩
  have HKe := Lib.hid hK
  rw [← hK] at HN
  have t1 : decide ((16384 : Int) < (K : Int)) = true := by simp; omega
  obtain ⟨n, hn⟩ : ∃ n, n = fs.length := ⟨_, rfl⟩
  rw [← hn] at HN HO
  clear h hs0 hs hm het hr hb hb1 hfa hL hD hof hb0 hK hn hsch hk hk2
  go_enter Tryz.func25, Tryz.ntmps25
  go_wp2_with fail
  refine HN.out.mono ?_
  rintro ev w2 ⟨ra, rc, rfl, hc, hT, _, hrd, w1, k1, g1⟩
  have hN2 := ((NB.new w).below k1).grown g1 hPl
  have hE1 := HEv.out.below k1
  have hE2 := hE1.same (g1.block E hE1.cblk.lt (fun e => hap.2.1 (Option.some.inj e)))
  obtain ⟨e0, e1, e2, e3, e4⟩ := hE2.cells
  have hz2 := hE2.cblk.lt
  have HK2 := Lib.hid ((((Kp.refl (rdS E R P) w).alloc (.cells #[.string ⟨#[]⟩, .slice none 0 0] 29)).below k1).grown g1 (.inr (.inr rfl)))
  have HB2 := Lib.hid ((HB1.out.trans (k1.mono HB1.out.size)).grown g1 (HB1.out.trans (k1.mono HB1.out.size)).size (fun j hj => by cases hj; exact hbase.2.2))
  have HN2 := Lib.hid hN2
  have HE2 := Lib.hid hE2
  have HR2 := Lib.hid hrd
  have HT2 := Lib.hid (And.intro hT hc)
  clear hN2 hE1 hE2 hrd k1 g1 hT hc c0 c1 c2 c3 c4
  go_wp2_with fail
  refine (HO.out ra rc w2 HB2.out HT2.out.1 HT2.out.2).mono ?_
  rintro ev w3 ⟨⟨a, c, he, hv1, hv2⟩, k3⟩
  simp only [failV] at he
  subst he
  have HV3 := Lib.hid (And.intro hv1 hv2)
  clear hv1 hv2
  have hN3 := HN2.out.below k3
  obtain ⟨n0, n1, n2, n3⟩ := hN3.cells
  have hE3 := HE2.out.below k3
  obtain ⟨e0', e1', e2', e3', e4'⟩ := hE3.cells
  have z2 := hE3.froz 2
  have z3 := hE3.froz 3
  have z4 := hE3.froz 4
  have hR3 := HR2.out.below k3
  obtain ⟨r0, r1, r2, r3, p0, p1⟩ := hR3.cells
  have hzE := hE3.cblk.lt
  have hzR := hR3.blkR.lt
  have hzP := hR3.blkP.lt
  have hzN := hN3.lt
  have hzN1 : w.heap.size ≤ w3.heap.size := by omega
  have hzE1 : E ≤ w3.heap.size := by omega
  have hEN : E ≠ w.heap.size := by omega
  have hNE : w.heap.size ≠ E := by omega
  have HN3 := Lib.hid hN3
  have HE3 := Lib.hid hE3
  have HR3 := Lib.hid hR3
  have HK3 := Lib.hid (HK2.out.below k3)
  clear hN3 hE3 hR3 k3 e0 e1 e2 e3 e4 hz2
  have HRw := Lib.hid (row_calls R P K 0 0 0 ⟨r.toArray⟩ ((w3.alloc (.cells #[.string nm, .slice a A.length c] 29)).alloc (.cells #[.int .i64 0, .int .i64 0, .int .i64 0] 32)) (HR3.out.below (((Below.refl w3.heap.size w3).alloc (Nat.le_refl _) (.cells #[.string nm, .slice a A.length c] 29)).alloc (by simp) (.cells #[.int .i64 0, .int .i64 0, .int .i64 0] 32))))
  have HRw2 := Lib.hid (row_calls R P K 0 0 0 ⟨r.toArray⟩ ((w3.alloc (.cells #[.string nm, .slice a A.length c] 29)).alloc (.cells #[.int .i64 14, .int .i64 0, .int .i64 1] 32)) (HR3.out.below (((Below.refl w3.heap.size w3).alloc (Nat.le_refl _) (.cells #[.string nm, .slice a A.length c] 29)).alloc (by simp) (.cells #[.int .i64 14, .int .i64 0, .int .i64 1] 32))))
  go_wp2_with fail
  refine HRw.out.mono ?_
  rintro ev w4 ⟨rfl, hw4⟩
  subst hw4
  go_wp2_with fail
  refine HRw2.out.mono ?_
  rintro ev w4 ⟨rfl, hw4⟩
  subst hw4
  go_wp2_with fail
  (try simp only [Exit.inBlock, Exit.then])
  refine bodyPost_ret (v := noEv) ?_ rfl ?_
  · rw [results_cell_tmp rfl]
    unfold noEv
    go_simp
  · rw [← HKe.out]
    exact ⟨rfl, ev_done (er := 14) (c := 1) HE3.out (show (14 : Nat) ≠ 0 by decide) HK3.out hEN _ _ _ _⟩
end Go.Proofs.YtmjchmamkjbgkaaGreatDoor

/- EvAll -/
namespace Go.Proofs.YtmjchmamkjbgkaaGreatDoor
open Go.RowKit
set_option linter.unusedVariables false

/-- What Event answers. -/
def EvStep (s : Except (Nat × Nat × Nat) (Ev × List UInt8)) (E R P : Nat) (la : Option Addr) (llen lcap k : Nat) (ev : Ending) (w' : World) : Prop := match s with
  | .ok (y, r) => (∃ a cap, ev = .returned (.tuple #[.agg #[.string y.1, .slice a y.2.length cap], .bool true]) ∧ VIn w' a y.2.length y.2 ∧ VObj w' a) ∧ Live w' E R P la llen lcap (k + 1) ⟨r.toArray⟩
  | .error f => ev = .returned noEv ∧ Done w' E R P la llen lcap f
theorem event_calls (w0 : World) (E R P k : Nat) (x : ByteArray) (la : Option Addr) (llen lcap : Nat) (L : List Dc) (w : World) (hD : DIn w0 la llen L) (hsch : SchOk L) (hL : Laid w0) (het : ErrT w0) (hm : MaxC w0) (hb0 : Below w0.heap.size w0 w) (hbase : w0.heap.size ≤ E ∧ w0.heap.size ≤ R ∧ w0.heap.size ≤ P) (h : Live w E R P la llen lcap k x) (hk : k ≤ 16384) (hs : x.size ≤ 4000000) :
    Calls Tryz.prog 25 #[.pointer (some ⟨E, 0, none⟩)] w fun ev w' => EvStep (stepL L k x.data.toList) E R P la llen lcap k ev w' ∧ Kp (rdS E R P) w w' := by
  by_cases h0 : x.size = 0
  · have hx : x.data.toList = [] := List.length_eq_zero_iff.1 (by rw [← sc_size]; exact h0)
    refine (eventStop_calls E R P k 0 0 0 x la llen lcap w h.ev h.rd (.inr h0)).mono ?_
    rintro ev w' ⟨rfl, k1⟩
    rw [hx, step_nil]
    exact ⟨⟨rfl, .inr ⟨h.ev.below k1, k, x, h.rd.below k1, .inr h0⟩⟩, Kp.of_below k1⟩
  · have hx : x.data.toList ≠ [] := fun e => h0 (by rw [sc_size, e]; rfl)
    cases hr : rowR x.data.toList with
    | error e =>
      obtain ⟨er, c⟩ := e
      rw [step_row hx hr]
      refine (eventRow_calls E R P k er c x la llen lcap w h hk (by omega) hs (hm.below hb0) (het.below hb0) hr).mono ?_
      rintro ev w' ⟨rfl, h1, h2⟩
      exact ⟨⟨rfl, h1⟩, h2⟩
    | ok p =>
      obtain ⟨fs, r⟩ := p
      cases hof : ofL L fs with
      | error e =>
        obtain ⟨er, c⟩ := e
        rw [step_of hx hr hof]
        refine (eventErr_calls w0 E R P k er c x la llen lcap L fs r w hD hsch hL het hm hb0 hbase h hk (by omega) hs hr hof).mono ?_
        rintro ev w' ⟨rfl, h1, h2⟩
        exact ⟨⟨rfl, h1⟩, h2⟩
      | ok y =>
        obtain ⟨nm, A⟩ := y
        by_cases hk2 : k = 16384
        · rw [step_many hx hr hof hk2]
          refine (eventMany_calls w0 E R P k x la llen lcap L fs r nm A w hD hsch hL het hm hb0 hbase h hk hk2 (by omega) hs hr hof).mono ?_
          rintro ev w' ⟨rfl, h1, h2⟩
          exact ⟨⟨rfl, h1⟩, h2⟩
        · rw [step_ok hx hr hof hk2]
          refine (eventOk_calls w0 E R P k x la llen lcap L fs r nm A w hD hsch hL het hm hb0 hbase h hk hk2 (by omega) hs hr hof).mono ?_
          rintro ev w' ⟨h1, h2, h3⟩
          exact ⟨⟨h1, h2⟩, h3⟩
theorem own_kp {S : Nat → Prop} {w w' : World} {B : Nat} {t : TypeId} {k : Nat} {v : Value} {n : Nat} {xs : List Value} (ho : w.ownsRow B t k v n xs) (hk : Kp S w w') (hS : ∀ g, S g → ¬ CBlk w g t) : w'.ownsRow B t k v n xs := by
  have h0 := ho
  obtain ⟨hl, hown⟩ := ho
  refine ⟨hl, ?_⟩
  rcases hown with hn | ⟨g, cap, cur, rfl, h1, hg, rest⟩
  · exact .inl hn
  · have hglt : g < w.heap.size := (Array.getElem?_eq_some_iff.1 hg).1
    exact .inr ⟨g, cap, cur, rfl, h1, by rw [hk.block g hglt (fun hs => hS g hs (CBlk.row h0 rfl))]; exact hg, rest⟩
theorem live_not {w : World} {E R P llen lcap k : Nat} {la : Option Addr} {x : ByteArray} (h : Live w E R P la llen lcap k x) {t : TypeId} (h1 : 58 ≠ t) (h2 : 61 ≠ t) (h3 : 102 ≠ t) : ∀ g, rdS E R P g → ¬ CBlk w g t := by
  rintro g (rfl | rfl | rfl)
  · exact h.ev.cblk.un h1
  · exact h.rd.blkR.un h2
  · exact h.rd.blkP.un h3
theorem ev_new2 (w : World) (o : Obj) (a b : Value) (t : TypeId) : ∀ j u, [a, b][j]? = some u → ((w.alloc o).alloc (.cells #[a, b] t)).cell? ((⟨w.heap.size + 1, 0, none⟩ : Addr).add j) = some u := by
  intro j u hj
  have e : (w.alloc o).heap.size = w.heap.size + 1 := by simp
  have hadd : (⟨w.heap.size + 1, 0, none⟩ : Addr).add j = ⟨(w.alloc o).heap.size, j, none⟩ := by rw [e]; unfold Addr.add; split <;> simp_all
  rw [hadd, World.cell?_alloc_at (hn := rfl)]
  simpa using hj
/-- All events of a log, and what is first wrong, as an answer. -/
def AllEvPost (z : List Ev × Nat × Nat × Nat) (w : World) (e : Ending) (w' : World) : Prop :=
  ∃ a cap, e = .returned (.tuple #[.slice a z.1.length cap, failV z.2.1 z.2.2.1 z.2.2.2]) ∧ EvIn w' a z.1.length z.1 True ∧ Below w.heap.size w w'

set_option maxHeartbeats 8000000 in
set_option maxRecDepth 100000 in
theorem allEv_calls (la : Option Addr) (llen lcap : Nat) (L : List Dc) (s : ByteArray) (w : World) (hD : DIn w la llen L) (hsch : SchOk L) (hs : s.size ≤ 4000000) (hL : Laid w) (het : ErrT w) (hm : MaxC w) :
    Calls Tryz.prog 22 #[.slice la llen lcap, .string s] w (AllEvPost (evR L s.data.toList) w) := by
  obtain ⟨l, hl⟩ : ∃ l, l = s.data.toList := ⟨_, rfl⟩
  rw [← hl]
  have HX0 : Hid (evX L l [] s.data.toList) := Lib.hid (by rw [hl]; exact evX_zero _ _)
  have hb0 := (Below.refl w.heap.size w).alloc (Nat.le_refl _) (.cells #[.int .i64 0, .int .i64 0, .int .i64 0] 32)
  have HB0 := Lib.hid hb0
  have HN := Lib.hid (newEv_calls la llen lcap s (w.alloc (.cells #[.int .i64 0, .int .i64 0, .int .i64 0] 32)))
  have HF0 := Lib.hid (heap_alloc_new w (.cells #[.int .i64 0, .int .i64 0, .int .i64 0] 32))
  have HEv := Lib.hid (fun E R P k x w1 (hb : Below w.heap.size w w1) hbase (h : Live w1 E R P la llen lcap k x) hk hs => event_calls w E R P k x la llen lcap L w1 hD hsch hL het hm hb hbase h hk hs)
  obtain ⟨i0, hi, hz0, hz1, hz2⟩ := cs_parts infoE
  have HSc := Lib.hid hsch
  have HI := Lib.hid hi
  have HZ0 := Lib.hid hz0
  have HZ1 := Lib.hid hz1
  have HZ2 := Lib.hid hz2
  clear hD hsch hL het hm hl hi hz0 hz1 hz2 hb0
  go_enter Tryz.func22, Tryz.ntmps22
  go_wp2_with fail
  refine HN.out.mono ?_
  rintro e w1 ⟨E, rfl, hE, hLv, k1⟩
  have HB1 := Lib.hid (HB0.out.trans (k1.mono HB0.out.size))
  have HF1 := Lib.hid ((k1.block w.heap.size (by simp)).trans HF0.out)
  have HLv := Lib.hid hLv
  simp only [World.size_alloc] at hE HLv
  obtain ⟨R, hR⟩ : ∃ R, R = w.heap.size + 1 + 1 := ⟨_, rfl⟩
  obtain ⟨P, hP⟩ : ∃ P, P = w.heap.size + 1 := ⟨_, rfl⟩
  rw [← hR, ← hP] at HLv
  have hbs : w.heap.size ≤ E ∧ w.heap.size ≤ R ∧ w.heap.size ≤ P := by omega
  have HBs := Lib.hid hbs
  clear hLv k1 HN HB0 HF0 hR hP hE hbs
  go_wp2_with fail
  go_loopw [6] (fun o wr => ∃ (M : List Ev) (us : List Value) (x : ByteArray), M.length ≤ 16384 ∧ x.size ≤ s.size ∧ Hid (evX L l M x.data.toList) ∧ Hid (wr.ownsRow w.heap.size 29 2 o M.length (cellsE M us)) ∧ Hid (Es wr us M) ∧ Hid (Live wr E R P la llen lcap M.length x) ∧ Hid (Below w.heap.size w wr) ∧ Hid (wr.heap[w.heap.size]? = some (.cells #[.int .i64 0, .int .i64 0, .int .i64 0] 32 (0, 0)))) (fun o _ => 16385 - cLen o)
  case atStart => exact ⟨[], [], s, by simp, Nat.le_refl _, HX0, Lib.hid (World.ownsRow_nil _ _ _ _), Lib.hid (Es.nil _), HLv, HB1, HF1⟩
  case round =>
    clear HX0 HLv HB1 HF1
    obtain ⟨M, us, x, hM, hxs, HX, HO, HS, HLv, HB, HF⟩ := hrel
    obtain ⟨oa, oc, rfl⟩ := cs_own HO.out
    obtain ⟨m, hm⟩ : ∃ m, m = M.length := ⟨_, rfl⟩
    rw [← hm] at hM HO HLv ⊢
    have HM := Lib.hid hm
    have HE1 := Lib.hid (HEv.out E R P m x _ HB.out HBs.out HLv.out hM (by omega))
    clear hm
    cases hst : stepL L m x.data.toList with
    | error f =>
      rw [hst] at HE1
      have HV : Hid (evR L l = (M, f)) := Lib.hid (evX_end HX.out (by rw [← HM.out]; exact hst))
      obtain ⟨fe, fl, fc⟩ := f
      clear hst
      go_wp2_with fail
      refine HE1.out.mono ?_
      rintro e w2 ⟨⟨he, hd⟩, k2⟩
      simp only [noEv] at he
      subst he
      have hO2 := own_kp HO.out k2 (live_not HLv.out (by decide) (by decide) (by decide))
      have hS2 := HS.out.kept k2.size (fun g hg => k2.block g hg.lt (fun hs => live_not HLv.out (by decide) (by decide) (by decide) g hs hg))
      have hF2 := (k2.block w.heap.size (Array.getElem?_eq_some_iff.1 HF.out).1 (fun hs => live_not HLv.out (by decide) (by decide) (by decide) _ hs ⟨_, _, HF.out⟩)).trans HF.out
      have hB2 := k2.to_below HB.out HB.out.size (by have := HBs.out; rintro g (rfl | rfl | rfl); exact this.1; exact this.2.1; exact this.2.2)
      have hba := (Below.refl w2.heap.size w2).alloc (Nat.le_refl _) (.cells #[.string ⟨#[]⟩, .slice none 0 0] 29)
      have HFd := Lib.hid (failDone_calls E R P la llen lcap _ _ (hd.below hba))
      have HO2 := Lib.hid (hO2.alloc (.cells #[.string ⟨#[]⟩, .slice none 0 0] 29))
      have HS2 := Lib.hid (hS2.below hba)
      have HF2 := Lib.hid ((hba.block _ (Array.getElem?_eq_some_iff.1 hF2).1).trans hF2)
      have HB2 := Lib.hid (hB2.alloc hB2.size (.cells #[.string ⟨#[]⟩, .slice none 0 0] 29))
      clear hd k2 hO2 hS2 hF2 hB2 hba
      go_wp2_with fail
      refine HFd.out.mono ?_
      rintro e w3 ⟨he, k3⟩
      simp only [failV] at he
      subst he
      have hF3 := (k3.block _ (Array.getElem?_eq_some_iff.1 HF2.out).1).trans HF2.out
      have d0 : w3.cell? ⟨w.heap.size, 0, none⟩ = some (.int .i64 0) := by rw [cell_of_row w3 _ 0 _ _ _ hF3]; rfl
      have d1 : w3.cell? ⟨w.heap.size, 1, none⟩ = some (.int .i64 0) := by rw [cell_of_row w3 _ 1 _ _ _ hF3]; rfl
      have d2 : w3.cell? ⟨w.heap.size, 2, none⟩ = some (.int .i64 0) := by rw [cell_of_row w3 _ 2 _ _ _ hF3]; rfl
      have f0 := frozen_of_row w3 _ 0 _ _ hF3
      have f1 := frozen_of_row w3 _ 1 _ _ hF3
      have f2 := frozen_of_row w3 _ 2 _ _ hF3
      have HO3 := Lib.hid (cs_ownBelow HO2.out k3)
      have HS3 := Lib.hid (HS2.out.below k3)
      have HB3 := Lib.hid (HB2.out.trans (k3.mono HB2.out.size))
      have HFb := Lib.hid hF3
      clear k3 hF3
      go_wp2_with fail
      (try simp only [Exit.inBlock, Exit.then])
      refine bodyPost_ret (v := .tuple #[.slice oa m oc, failV fe fl fc]) ?_ rfl ?_
      · refine cs_result2 rfl _ _ _ (a := ⟨w.heap.size, 0, none⟩) (by rfl) (by rfl) ?_
        unfold failV
        go_simp
      · obtain ⟨a2, c2, e2, hin⟩ := own_evin (by rw [← HM.out]; exact HO3.out) HS3.out
        rw [← HM.out] at e2
        cases e2
        have hg : w3.grownBy (((w3.setCell ⟨w.heap.size, 0, none⟩ (.int .i64 (fe : Nat))).setCell ⟨w.heap.size, 1, none⟩ (.int .i64 (fl : Nat))).setCell ⟨w.heap.size, 2, none⟩ (.int .i64 (fc : Nat))) (some w.heap.size) := cs_gtrans (cs_gtrans cs_set cs_set) cs_set
        have hin2 := hin.kept hg.size (fun g h => by
          rcases h with h | h
          · exact hg.block g h.lt (fun e => by have := Option.some.inj e; subst this; exact (h.un (by decide)) ⟨_, _, HFb.out⟩)
          · exact hg.block g h.lt (fun e => by have := Option.some.inj e; subst this; exact (h.un (by decide)) ⟨_, _, HFb.out⟩))
        rw [HV.out]
        exact ⟨oa, oc, by rw [← HM.out], hin2, ((HB3.out.setCell (Nat.le_refl _) _).setCell (Nat.le_refl _) _).setCell (Nat.le_refl _) _⟩
    | ok p =>
      obtain ⟨⟨nm, A⟩, r⟩ := p
      rw [hst] at HE1
      have HXn := Lib.hid (evX_more HX.out (by rw [← HM.out]; exact hst))
      obtain ⟨hrl, hm6, fs, hfr, hof⟩ := step_facts hst
      rw [← sc_size] at hrl
      obtain ⟨n, hn⟩ : ∃ n, n = A.length := ⟨_, rfl⟩
      have HNl := Lib.hid hn
      rw [show (EvStep (.ok ((nm, A), r)) E R P la llen lcap m : Ending → World → Prop) = fun ev w' => (∃ a cap, ev = .returned (.tuple #[.agg #[.string nm, .slice a n cap], .bool true]) ∧ VIn w' a n A ∧ VObj w' a) ∧ Live w' E R P la llen lcap (m + 1) ⟨r.toArray⟩ by rw [hn]; rfl] at HE1
      have hnms : nm.size ≤ 9223372036854775807 := by
        have h1 : nm.size ≤ 32 := by
          cases fs with
          | nil => rw [of_nil] at hof; cases hof
          | cons y ys =>
            cases hf : findL L ⟨y.toArray⟩ with
            | none => rw [of_noname hf] at hof; cases hof
            | some i =>
              cases hr : readL (ksAt L i) ys 2 with
              | error e => rw [of_wrong hf hr] at hof; cases hof
              | ok B =>
                rw [of_good hf hr] at hof
                cases hof
                have h3 := find_lt hf
                rw [← h3.2]
                exact (HSc.out.2 i h3.1).2
        omega
      have HNm := Lib.hid hnms
      have hrx : (⟨r.toArray⟩ : ByteArray).size ≤ s.size := by rw [sc_size]; show r.length ≤ _; omega
      clear hst hof hn hnms hfr fs
      go_wp2_with fail
      refine HE1.out.mono ?_
      rintro e w2 ⟨⟨⟨a, c, rfl, hv1, hv2⟩, hlv⟩, k2⟩
      have hO2 := own_kp HO.out k2 (live_not HLv.out (by decide) (by decide) (by decide))
      have hS2 := HS.out.kept k2.size (fun g hg => k2.block g hg.lt (fun hs => live_not HLv.out (by decide) (by decide) (by decide) g hs hg))
      have hF2 := (k2.block w.heap.size (Array.getElem?_eq_some_iff.1 HF.out).1 (fun hs => live_not HLv.out (by decide) (by decide) (by decide) _ hs ⟨_, _, HF.out⟩)).trans HF.out
      have hB2 := k2.to_below HB.out HB.out.size (by have := HBs.out; rintro g (rfl | rfl | rfl); exact this.1; exact this.2.1; exact this.2.2)
      have hba := ((Below.refl w2.heap.size w2).alloc (Nat.le_refl _) (.cells #[.string nm, .slice a n c] 29)).alloc (by simp) (.cells #[.string nm, .slice a n c] 29)
      have HO2 := Lib.hid hO2
      have HSn := Lib.hid ((hS2.below hba).snoc (x := nm) (A := A) (c := c) (by rw [← HNl.out]; exact hv1.below hba) (hv2.below hba) HNm.out)
      have HF2 := Lib.hid ((hba.block _ (Array.getElem?_eq_some_iff.1 hF2).1).trans hF2)
      have HLv2 := Lib.hid (hlv.below hba)
      have HB2 := Lib.hid hB2
      have hus := HS.out.leng
      have HUs := Lib.hid hus
      clear k2 hO2 hS2 hF2 hB2 hba hv1 hv2 hlv HO HS HF HLv HB HE1 hus
      go_wp2_with (at_builtin; refine wpList_append_own _ rfl _ _ 46 rfl w.heap.size 29 i0 (.agg #[.string ⟨#[]⟩, .slice none 0 0]) 2 40 Tryz.underlying46 HI.out HZ0.out HZ1.out HZ2.out rfl (by decide) _ _ _ rfl ((HO2.out.alloc _).alloc _) _ 1 1 [.string nm, .slice a n c] rfl rfl ?c1 ?c2 ?c3 ?c4 ?c5 ?_)
      case c1 => exact ev_new2 w2 _ _ _ _
      case c2 => intro u hu; simp at hu; rcases hu with rfl | rfl <;> rfl
      case c3 => unfold maxLen; omega
      case c4 => omega
      case c5 => have := HB2.out.size; simp; omega
      intro v' w3 hown' hgrow _
      have hW2 : w.heap.size ≤ ((w2.alloc (.cells #[.string nm, .slice a n c] 29)).alloc (.cells #[.string nm, .slice a n c] 29)).heap.size := by have := HB2.out.size; simp; omega
      have hB3 := ((HB2.out.alloc HB2.out.size (.cells #[.string nm, .slice a n c] 29)).alloc (by have := HB2.out.size; simp; omega) (.cells #[.string nm, .slice a n c] 29)).grown hgrow hW2 (fun k hk => (HO2.out.lt k hk).1)
      have hO2a := (HO2.out.alloc (.cells #[.string nm, .slice a n c] 29)).alloc (.cells #[.string nm, .slice a n c] 29)
      have hO3 : w3.ownsRow w.heap.size 29 2 v' (M ++ [(nm, A)]).length (cellsE (M ++ [(nm, A)]) (us ++ [.slice a A.length c])) := by
        rw [cellsE_snoc M us (nm, A) _ HUs.out, List.length_append, ← HM.out, ← HNl.out]; exact hown'
      have hS3 := HSn.out.kept hgrow.size (fun g hg => hgrow.block g hg.lt (hg.far hO2a (by decide)))
      have hF3 := (hgrow.block w.heap.size (Array.getElem?_eq_some_iff.1 HF2.out).1 ((show CBlk _ w.heap.size 32 from ⟨_, _, HF2.out⟩).far hO2a (by decide))).trans HF2.out
      have hL3 : Live w3 E R P la llen lcap (m + 1) ⟨r.toArray⟩ := ⟨HLv2.out.ev.same (hgrow.block E HLv2.out.ev.cblk.lt (HLv2.out.ev.cblk.far hO2a (by decide))), HLv2.out.rd.grown hgrow (HLv2.out.rd.blkR.far hO2a (by decide)) (HLv2.out.rd.blkP.far hO2a (by decide))⟩
      obtain ⟨va, vc, rfl⟩ := cs_own hO3
      have hl3 : (M ++ [(nm, A)]).length = m + 1 := by rw [List.length_append, ← HM.out]; rfl
      rw [hl3] at hO3 ⊢
      have HO3 := Lib.hid hO3
      have HS3 := Lib.hid hS3
      have HF3 := Lib.hid hF3
      have HL3 := Lib.hid hL3
      have HB3 := Lib.hid hB3
      have HE3 := Lib.hid hl3
      clear hW2 hB3 hO2a hO3 hS3 hF3 hL3 hl3 hown' hgrow HO2 HSn HF2 HLv2 HB2
      go_wp2_with fail
      go_roundw
      case rel => exact ⟨M ++ [(nm, A)], us ++ [.slice a A.length c], ⟨r.toArray⟩, by rw [HE3.out]; omega, hrx, HXn, Lib.hid (by rw [HE3.out]; exact HO3.out), HS3, Lib.hid (by rw [HE3.out]; exact HL3.out), HB3, HF3⟩
      case measure => simp [cLen]; omega
end Go.Proofs.YtmjchmamkjbgkaaGreatDoor
