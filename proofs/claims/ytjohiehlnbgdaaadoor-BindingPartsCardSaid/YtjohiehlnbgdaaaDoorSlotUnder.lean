/- What slices.Contains and binding.Under do with slots. -/
import Derived.Test.YtjohiehlnbgdaaaDoorLaySlots
import Derived.Test.YtjohiehlnbgdaaaDoorSlotGet
namespace Go.Proofs.YtjohiehlnbgdaaaDoor
open Go.RowKit Go.Shelf Go.Lib
set_option linter.unusedVariables false

theorem eqlS : EqlAt Tryd.prog 36 (fun x => .agg (encS x).toArray) (fun x y => decide (x = y)) := by
  refine ⟨fun x y w => ?_, GuardAt.agg _ guardS⟩
  simp only [encS]
  rw [run_eql_struct, eqInS]
  rfl
theorem SIn.lib {w : World} {g off len : Nat} {L : List Sd} (h : SIn w (some ⟨g, off, none⟩) len L) : ∀ j, j < L.length → ∀ i v, (encS L[j]!)[i]? = some v → w.cell? ⟨g, off + j * 5 + i, none⟩ = some v := by
  intro j hj i v hi
  have hi5 : i < 5 := by have := (List.getElem?_eq_some_iff.1 hi).1; rwa [encS_len] at this
  have e : L[j]! = L.getD j default := by simp [List.getD, hj]
  rw [e, ← cellsS_at L j i hj hi5] at hi
  rw [Nat.add_assoc]
  exact h.cells _ _ hi
theorem SIn.some' {w : World} {a : Option Addr} {len : Nat} {L : List Sd} (h : SIn w a len L) (h0 : 0 < len) : ∃ g off, a = some ⟨g, off, none⟩ ∧ g < w.heap.size := by
  obtain ⟨g, off, e, hg, _⟩ := h.row h0
  exact ⟨g, off, e, hg⟩

set_option maxHeartbeats 400000 in
theorem index0 (a : Option Addr) (cap : Nat) (z : Sd) (w : World) :
    Calls Tryd.prog 44 #[.slice a 0 cap, .agg #[.int .i64 z.x, .int .i64 z.v.k, .int .i64 z.v.i, .string z.v.s, .bool z.v.b]] w fun e w' => e = .returned (.int .i64 (-1)) ∧ Below w.heap.size w w' := by
  go_enter Tryd.func44, Tryd.ntmps44
  go_wp2_with fail
  go_loopw [8] (fun i wr => i = .int .i64 0 ∧ Below w.heap.size w wr) (fun _ _ => 0)
  case atStart => exact ⟨rfl, (Below.refl _ w).alloc (Nat.le_refl _) _⟩
  case round =>
    obtain ⟨rfl, hB⟩ := hrel
    go_wp2_with fail
    go_ret
    exact ⟨rfl, hB⟩
set_option maxHeartbeats 400000 in
theorem contains_calls (a : Option Addr) (len cap : Nat) (L : List Sd) (z : Sd) (w : World) (hs : SIn w a len L) :
    Calls Tryd.prog 28 #[.slice a len cap, .agg #[.int .i64 z.x, .int .i64 z.v.k, .int .i64 z.v.i, .string z.v.s, .bool z.v.b]] w fun e w' => e = .returned (.bool (decide (z ∈ L))) ∧ Below w.heap.size w w' := by
  by_cases h0 : 0 < len
  · obtain ⟨g, off, rfl, hg⟩ := hs.some' h0
    have h := AnyQ.slices_Contains layContains 5 Tryd.isAgg36 Tryd.sizeOf36 encS encS_len _ eqlS g off len cap L z w (by rw [hs.leng]; exact Nat.le_refl _) hs.small hs.lib
    refine Calls.mono h ?_
    rintro e w' ⟨rfl, hB⟩
    refine ⟨?_, hB⟩
    rw [List.take_of_length_le (by rw [hs.leng]; exact Nat.le_refl _)]
    congr 2
    rw [Bool.eq_iff_iff]
    simp
  · obtain rfl : len = 0 := by omega
    obtain rfl : L = [] := List.length_eq_zero_iff.1 hs.leng
    have HI := Lib.hid (fun w1 => index0 a cap z w1)
    clear hs h0
    go_enter Tryd.func28, Tryd.ntmps28
    go_wp2_with fail
    refine (HI.out _).mono ?_
    rintro e w1 ⟨rfl, k1⟩
    go_wp2_with fail
    go_ret
    exact ⟨rfl, ((Below.refl _ w).alloc (Nat.le_refl _) _).trans (k1.mono (by simp))⟩

set_option maxHeartbeats 400000 in
theorem indexFunc0 (a : Option Addr) (cap : Nat) (f : Value) (w : World) :
    Calls Tryd.prog 45 #[.slice a 0 cap, f] w fun e w' => e = .returned (.int .i64 (-1)) ∧ w' = w := by
  go_enter Tryd.func45, Tryd.ntmps45
  go_wp2_with fail
  go_loopw [8] (fun i wr => i = .int .i64 0 ∧ wr = w) (fun _ _ => 0)
  case atStart => exact ⟨rfl, rfl⟩
  case round =>
    obtain ⟨rfl, rfl⟩ := hrel
    go_wp2_with fail
    go_ret
    exact ⟨rfl, rfl⟩
set_option maxHeartbeats 400000 in
theorem containsFunc_calls (a : Option Addr) (len cap : Nat) (L : List Sd) (p : Sd → Bool) (g : Nat) (lb : Array Value) (eg : ∀ args w, (callFunc g args).run Tryd.prog w = .ok (.enter g args) w) (w : World) (hs : SIn w a len L)
    (hp : PredBelow Tryd.prog g lb (fun x => .agg (encS x).toArray) p w) :
    Calls Tryd.prog 29 #[.slice a len cap, .func (.func g) #[] lb] w fun e w' => e = .returned (.bool (L.any p)) ∧ Below w.heap.size w w' := by
  by_cases h0 : 0 < len
  · obtain ⟨b, off, rfl, hg⟩ := hs.some' h0
    have h := AnyQ.slices_ContainsFunc layContainsFunc 5 Tryd.isAgg36 Tryd.sizeOf36 encS encS_len p g lb eg b off len cap L w hp (by rw [hs.leng]; exact Nat.le_refl _) hs.small hg hs.lib
    refine Calls.mono h ?_
    rintro e w' ⟨rfl, hB⟩
    exact ⟨by rw [List.take_of_length_le (by rw [hs.leng]; exact Nat.le_refl _)], hB⟩
  · obtain rfl : len = 0 := by omega
    obtain rfl : L = [] := List.length_eq_zero_iff.1 hs.leng
    have HI := Lib.hid (fun w1 => indexFunc0 a cap (.func (.func g) #[] lb) w1)
    clear hs h0 hp
    go_enter Tryd.func29, Tryd.ntmps29
    go_wp2_with fail
    refine (HI.out _).mono ?_
    rintro e w1 ⟨rfl, rfl⟩
    go_wp2_with fail
    go_ret
    exact ⟨rfl, Below.refl _ _⟩

/-- binding.Under's closure: a slot that b has not. -/
theorem lacks_pred (b : Option Addr) (len cap : Nat) (B : List Sd) (Bb : Nat) (w : World) (hs : SIn w b len B) (hc : w.cell? ⟨Bb, 0, none⟩ = some (.slice b len cap)) (hlt : Bb < w.heap.size) :
    PredBelow Tryd.prog 27 #[.pointer (some ⟨Bb, 0, none⟩)] (fun x => .agg (encS x).toArray) (fun z => !decide (z ∈ B)) w := fun W z hb => by
  have hc1 : W.cell? ⟨Bb, 0, none⟩ = some (.slice b len cap) := (hb.cell (p := ⟨Bb, 0, none⟩) hlt).trans hc
  have hlt1 : Bb < W.heap.size := Nat.lt_of_lt_of_le hlt hb.size
  have HC := Lib.hid (fun w1 (k : Below w.heap.size w w1) => contains_calls b len cap B z w1 (hs.below k))
  have HB := Lib.hid hb
  show Calls Tryd.prog 27 #[.agg #[.int .i64 z.x, .int .i64 z.v.k, .int .i64 z.v.i, .string z.v.s, .bool z.v.b], .pointer (some ⟨Bb, 0, none⟩)] W _
  clear hs hc hlt hb
  go_enter Tryd.func27, Tryd.ntmps27
  go_wp2_with fail
  refine (HC.out _ (HB.out.alloc HB.out.size _)).mono ?_
  rintro e w1 ⟨rfl, k1⟩
  go_wp2_with fail
  go_ret
  exact ⟨rfl, (HB.out.alloc HB.out.size _).trans (k1.mono (by have := HB.out.size; simp; omega))⟩

def underL (A B : List Sd) : Bool := A.all (fun z => decide (z ∈ B))
theorem under_any (A B : List Sd) : (!A.any (fun z => !decide (z ∈ B))) = underL A B := by
  unfold underL
  induction A with
  | nil => rfl
  | cons z A ih => simp [List.any_cons, List.all_cons, ← ih]

set_option maxHeartbeats 400000 in
theorem bUnder_calls (a b : Option Addr) (la ca lb cb : Nat) (A B : List Sd) (w : World) (hsA : SIn w a la A) (hsB : SIn w b lb B) :
    Calls Tryd.prog 9 #[.slice a la ca, .slice b lb cb] w fun e w' => e = .returned (.bool (underL A B)) ∧ Below w.heap.size w w' := by
  have hb : Below w.heap.size w (w.alloc (.cells #[.slice b lb cb] 22)) := (Below.refl _ w).alloc (Nat.le_refl _) _
  have HB := Lib.hid hb
  have HC := Lib.hid (containsFunc_calls a la ca A (fun z => !decide (z ∈ B)) 27 #[.pointer (some ⟨w.heap.size, 0, none⟩)] (enters_of Tryd.func27 (by kernel_rfl) rfl) (w.alloc (.cells #[.slice b lb cb] 22)) (hsA.below hb)
    (lacks_pred b lb cb B w.heap.size _ (hsB.below hb) (by simp) (by simp)))
  have HU := Lib.hid (under_any A B)
  clear hb hsA hsB
  generalize A.any (fun z => !decide (z ∈ B)) = r at HC HU
  go_enter Tryd.func9, Tryd.ntmps9
  go_wp2_with fail
  refine HC.out.mono ?_
  rintro e w1 ⟨rfl, k1⟩
  go_wp2_with fail
  go_ret
  exact ⟨by rw [← HU.out]; rfl, HB.out.trans (k1.mono HB.out.size)⟩
end Go.Proofs.YtjohiehlnbgdaaaDoor
