/- What stays over a call that changes blocks of its own; results that lie in cells. No program. -/
import Derived.Test.YtojabkhfkbfeaaaGreatDoorBlk
import Derived.Deep.RegionHeld3
import Derived.Laws.ResultCell
namespace Go.Proofs.YtojabkhfkbfeaaaGreatDoor
open Go.RowKit
set_option linter.unusedVariables false

theorem cs_gtrans {a b c : World} {r : Option Nat} (h : a.grownBy b r) (k : b.grownBy c r) : a.grownBy c r :=
  ⟨k.os.trans h.os, k.tape.trans h.tape, k.output.trans h.output, Nat.le_trans h.size k.size, fun i hi hne => (k.block i (Nat.lt_of_lt_of_le hi h.size) hne).trans (h.block i hi hne)⟩
theorem cs_result1 {fn : Func} {p : Tmp} {ty : TypeId} (h : fn.results = #[.cell p ty]) (tmps : Array Value) (P : Program) (w : World) {a : Addr} {v : Value}
    (h1 : (asAddr (tmps.getD p undef)).run P w = .ok a w) (h2 : (loadVar ty a).run P w = .ok v w) : (results fn tmps).run P w = .ok v w := by
  rw [Array.getD_eq_getD_getElem?] at h1
  simp [results, h, Sem.run_bind, Result.andThen, h1, h2]
theorem cs_set3 {B g : Nat} {a w : World} (h : Below B a w) (hg : B ≤ g) (x y z : Value) : Below B a (((w.setCell ⟨g, 0, none⟩ x).setCell ⟨g, 1, none⟩ y).setCell ⟨g, 2, none⟩ z) :=
  ((h.setCell hg _).setCell hg _).setCell hg _
theorem cs_gdrew {a b : World} {r : Option Nat} (h : a.grownBy b r) : a.grownBy b.drew r := ⟨h.os, h.tape, h.output, h.size, h.block⟩

theorem cs_result2 {fn : Func} {p q : Tmp} {ty : TypeId} (h : fn.results = #[.tmp p, .cell q ty]) (tmps : Array Value) (P : Program) (w : World) {a : Addr} {u v : Value}
    (h0 : tmps.getD p undef = u) (h1 : (asAddr (tmps.getD q undef)).run P w = .ok a w) (h2 : (loadVar ty a).run P w = .ok v w) : (results fn tmps).run P w = .ok (.tuple #[u, v]) w := by
  rw [Array.getD_eq_getD_getElem?] at h0 h1
  simp [results, h, Sem.run_bind, Result.andThen, h0, h1, h2]
theorem cs_result4 {fn : Func} {t u v x : Tmp} (h : fn.results = #[.tmp t, .tmp u, .tmp v, .tmp x]) (tmps : Array Value) (P : Program) (w : World) :
    (results fn tmps).run P w = .ok (.tuple #[tmps.getD t undef, tmps.getD u undef, tmps.getD v undef, tmps.getD x undef]) w := by
  simp [results, h]
/-- But for some blocks, the world is as it was. -/
structure Kp (S : Nat → Prop) (w w' : World) : Prop where
  os : w'.os = w.os
  tape : w'.tape = w.tape
  output : w'.output = w.output
  size : w.heap.size ≤ w'.heap.size
  block : ∀ k, k < w.heap.size → ¬ S k → w'.heap[k]? = w.heap[k]?
theorem Kp.refl (S : Nat → Prop) (w : World) : Kp S w w := ⟨rfl, rfl, rfl, Nat.le_refl _, fun _ _ _ => rfl⟩
theorem Kp.trans {S : Nat → Prop} {a b c : World} (h : Kp S a b) (k : Kp S b c) : Kp S a c :=
  ⟨k.os.trans h.os, k.tape.trans h.tape, k.output.trans h.output, Nat.le_trans h.size k.size, fun i hi hn => (k.block i (Nat.lt_of_lt_of_le hi h.size) hn).trans (h.block i hi hn)⟩
theorem Kp.of_below {S : Nat → Prop} {a b : World} (k : Below a.heap.size a b) : Kp S a b := ⟨k.os, k.tape, k.output, k.size, fun i hi _ => k.block i hi⟩
theorem Kp.of_grown {S : Nat → Prop} {a b : World} {r : Nat} (k : a.grownBy b (some r)) (hr : S r) : Kp S a b :=
  ⟨k.os, k.tape, k.output, k.size, fun i hi hn => k.block i hi (fun e => hn (by cases e; exact hr))⟩
theorem Kp.below {S : Nat → Prop} {a b c : World} (h : Kp S a b) (k : Below b.heap.size b c) : Kp S a c := h.trans (Kp.of_below k)
theorem Kp.grown {S : Nat → Prop} {a b c : World} {r : Nat} (h : Kp S a b) (k : b.grownBy c (some r)) (hr : S r) : Kp S a c := h.trans (Kp.of_grown k hr)
theorem Kp.alloc {S : Nat → Prop} {a b : World} (h : Kp S a b) (o : Obj) : Kp S a (b.alloc o) := h.below ((Below.refl _ _).alloc (Nat.le_refl _) _)
theorem Kp.drew {S : Nat → Prop} {a b : World} (h : Kp S a b) : Kp S a b.drew := ⟨h.os, h.tape, h.output, h.size, h.block⟩
theorem Kp.set {S : Nat → Prop} {a b : World} (h : Kp S a b) {g o : Nat} (hr : S g) (v : Value) : Kp S a (b.setCell ⟨g, o, none⟩ v) := h.grown (cs_set (a := ⟨g, o, none⟩)) hr
theorem Kp.to_below {S : Nat → Prop} {w a b : World} {B : Nat} (h : Kp S a b) (hb : Below B w a) (hB : B ≤ a.heap.size) (hS : ∀ k, S k → B ≤ k) : Below B w b :=
  ⟨h.os.trans hb.os, h.tape.trans hb.tape, h.output.trans hb.output, Nat.le_trans hb.size h.size, fun k hk => (h.block k (Nat.lt_of_lt_of_le hk hB) (fun hs => absurd (hS k hs) (by omega))).trans (hb.block k hk)⟩
theorem CBlk.un {w : World} {g : Nat} {t u : TypeId} (h : CBlk w g t) (hne : t ≠ u) : ¬ CBlk w g u := fun k => h.ne k hne rfl

theorem cs_result22 {fn : Func} {p q : Tmp} {ty tz : TypeId} (h : fn.results = #[.cell p ty, .cell q tz]) (tmps : Array Value) (P : Program) (w : World) {a b : Addr} {u v : Value}
    (h0 : (asAddr (tmps.getD p undef)).run P w = .ok a w) (h1 : (loadVar ty a).run P w = .ok u w) (h2 : (asAddr (tmps.getD q undef)).run P w = .ok b w) (h3 : (loadVar tz b).run P w = .ok v w) : (results fn tmps).run P w = .ok (.tuple #[u, v]) w := by
  rw [Array.getD_eq_getD_getElem?] at h0 h2
  simp [results, h, Sem.run_bind, Result.andThen, h0, h1, h2, h3]
end Go.Proofs.YtojabkhfkbfeaaaGreatDoor
