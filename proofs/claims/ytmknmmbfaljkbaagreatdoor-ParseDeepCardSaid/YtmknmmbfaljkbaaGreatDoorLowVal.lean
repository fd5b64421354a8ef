/- Contracts of a lower layer, several texts in one. -/
import Derived.Test.YtmknmmbfaljkbaaGreatDoorBase
import Derived.Test.YtmknmmbfaljkbaaGreatDoorLowMath
/- ValBox -/
namespace Go.Proofs.YtmknmmbfaljkbaaGreatDoor
open Go.RowKit
set_option linter.unusedVariables false

/-- Whether a value may be. -/
def rightB (k i : Int) (s : ByteArray) (b : Bool) : Bool :=
  if k = 1 then s.toList.isEmpty && !b else if k = 2 then (i == 0) && !b && decide ((s.size : Int) ≤ 4096) else (k == 3) && (i == 0) && s.toList.isEmpty

/-- A value's cells lie in a block. -/
def Boxed (g : Nat) (k i : Int) (s : ByteArray) (b : Bool) (w : World) : Prop :=
  w.cell? ⟨g, 0, none⟩ = some (.int .i64 k) ∧ w.cell? ⟨g, 1, none⟩ = some (.int .i64 i) ∧ w.cell? ⟨g, 2, none⟩ = some (.string s) ∧ w.cell? ⟨g, 3, none⟩ = some (.bool b)
theorem Boxed.below {g B : Nat} {k i : Int} {s : ByteArray} {b : Bool} {w w' : World} (h : Boxed g k i s b w) (hb : Below B w w') (hg : g < B) : Boxed g k i s b w' :=
  ⟨(hb.cell (p := ⟨g, 0, none⟩) hg).trans h.1, (hb.cell (p := ⟨g, 1, none⟩) hg).trans h.2.1, (hb.cell (p := ⟨g, 2, none⟩) hg).trans h.2.2.1, (hb.cell (p := ⟨g, 3, none⟩) hg).trans h.2.2.2⟩
theorem Boxed.drew {g : Nat} {k i : Int} {s : ByteArray} {b : Bool} {w : World} (h : Boxed g k i s b w) : Boxed g k i s b w.drew := h
theorem Boxed.new (k i : Int) (s : ByteArray) (b : Bool) (w : World) (t : TypeId) : Boxed w.heap.size k i s b (w.alloc (.cells #[.int .i64 k, .int .i64 i, .string s, .bool b] t)) := by
  refine ⟨?_, ?_, ?_, ?_⟩ <;> (rw [World.cell?_alloc_at (hn := rfl)]; rfl)
/-- No string shares the bytes of a value's cells. -/
def Free4 (g : Nat) (w : World) : Prop :=
  w.frozen? ⟨g, 0, none⟩ = false ∧ w.frozen? ⟨g, 1, none⟩ = false ∧ w.frozen? ⟨g, 2, none⟩ = false ∧ w.frozen? ⟨g, 3, none⟩ = false
theorem Free4.below {g B : Nat} {w w' : World} (h : Free4 g w) (hb : Below B w w') (hg : g < B) : Free4 g w' :=
  ⟨(hb.frozen (p := ⟨g, 0, none⟩) hg).trans h.1, (hb.frozen (p := ⟨g, 1, none⟩) hg).trans h.2.1, (hb.frozen (p := ⟨g, 2, none⟩) hg).trans h.2.2.1, (hb.frozen (p := ⟨g, 3, none⟩) hg).trans h.2.2.2⟩
theorem Free4.new (cs : Array Value) (w : World) (t : TypeId) : Free4 w.heap.size (w.alloc (.cells cs t)) := by
  refine ⟨?_, ?_, ?_, ?_⟩ <;> rw [World.frozen?_alloc_at (hn := rfl)]

/-- Whether two values are the same. -/
def eqB (k i : Int) (s : ByteArray) (b : Bool) (k' i' : Int) (s' : ByteArray) (b' : Bool) : Bool := (k == k') && (i == i') && (s.toList == s'.toList) && (b == b')
theorem eqB_iff (k i : Int) (s : ByteArray) (b : Bool) (k' i' : Int) (s' : ByteArray) (b' : Bool) : eqB k i s b k' i' s' b' = true ↔ k = k' ∧ i = i' ∧ s.toList = s'.toList ∧ b = b' := by
  unfold eqB
  simp [and_assoc]
theorem none_list : (⟨#[]⟩ : ByteArray).toList = [] := by rw [ByteArray.toList_eq]
theorem list_none (l : List UInt8) : (l == (⟨#[]⟩ : ByteArray).toList) = l.isEmpty := by rw [none_list]; cases l <;> rfl
theorem right1 (i : Int) (s : ByteArray) (b : Bool) : eqB 1 i s b 1 i ⟨#[]⟩ false = rightB 1 i s b := by
  unfold eqB rightB; rw [list_none]; cases b <;> simp
theorem right3 (i : Int) (s : ByteArray) (b : Bool) : eqB 3 i s b 3 0 ⟨#[]⟩ b = rightB 3 i s b := by
  unfold eqB rightB; rw [list_none]; simp
theorem right2 (i : Int) (s : ByteArray) (b : Bool) : rightB 2 i s b = (eqB 2 i s b 2 0 s false && decide ((s.size : Int) ≤ 4096)) := by
  unfold eqB rightB; cases b <;> simp
end Go.Proofs.YtmknmmbfaljkbaaGreatDoor

/- ValLessMath -/
namespace Go.Proofs.YtmknmmbfaljkbaaGreatDoor
open Go.RowKit
set_option linter.unusedVariables false

/-- Whether a value is ahead of another one. -/
def lessB (k i : Int) (s : ByteArray) (b : Bool) (k' i' : Int) (s' : ByteArray) (b' : Bool) : Bool :=
  if k = k' then (if k = 1 then decide (i < i') else if k = 2 then Op.bytesLess s.toList s'.toList else if k = 3 then !b && b' else false) else decide (k < k')

theorem below_drewN {B : Nat} {a w : World} (n : Nat) (h : Below B a w) : Below B a (w.drewN n) := ⟨h.os, h.tape, h.output, h.size, h.block⟩
theorem bl_same (a : UInt8) (x y : List UInt8) : Op.bytesLess (a :: x) (a :: y) = Op.bytesLess x y := by
  simp [Op.bytesLess]
theorem bl_drop : ∀ (k : Nat) (l m : List UInt8), k ≤ l.length → k ≤ m.length → l.take k = m.take k → Op.bytesLess l m = Op.bytesLess (l.drop k) (m.drop k)
  | 0, _, _, _, _, _ => by simp
  | k + 1, [], _, h, _, _ => by simp at h
  | k + 1, _ :: _, [], _, h, _ => by simp at h
  | k + 1, a :: x, c :: y, h1, h2, h => by
    simp only [List.take_succ_cons, List.cons.injEq] at h
    obtain ⟨rfl, h⟩ := h
    rw [bl_same, List.drop_succ_cons, List.drop_succ_cons]
    exact bl_drop k x y (by simpa using h1) (by simpa using h2) h
theorem bl_nil (l : List UInt8) : Op.bytesLess l [] = false := by cases l <;> rfl
theorem bl_ne {a c : UInt8} (h : a ≠ c) (x y : List UInt8) : Op.bytesLess (a :: x) (c :: y) = decide (a.toNat < c.toNat) := by
  simp only [Op.bytesLess]
  rw [show (a == c) = false by simpa using h]
  simp [UInt8.lt_iff_toNat_lt]
theorem bl_end (l m : List UInt8) (h : l.length ≤ m.length) (e : l = m.take l.length) : Op.bytesLess l m = decide (l.length < m.length) := by
  rw [bl_drop l.length l m (Nat.le_refl _) h (by rw [List.take_length]; exact e), List.drop_length]
  by_cases hl : l.length < m.length
  · rw [List.drop_eq_getElem_cons hl]; simp [Op.bytesLess, hl]
  · rw [List.drop_eq_nil_iff.2 (by omega)]; simp [Op.bytesLess, hl]
theorem bl_end' (l m : List UInt8) (h : m.length ≤ l.length) (e : l.take m.length = m) : Op.bytesLess l m = false := by
  rw [bl_drop m.length l m h (Nat.le_refl _) (by rw [List.take_length]; exact e), List.drop_length, bl_nil]

theorem tl_len (a : ByteArray) : a.toList.length = a.size := by rw [ByteArray.toList_eq, Array.length_toList]; rfl
theorem tl_at (a : ByteArray) (k : Nat) (h : k < a.size) : a.toList[k]'(by rw [tl_len]; exact h) = a[k] := by
  simp only [ByteArray.toList_eq]
  rfl
end Go.Proofs.YtmknmmbfaljkbaaGreatDoor

/- ValCells -/
namespace Go.Proofs.YtmknmmbfaljkbaaGreatDoor
open Go.RowKit
set_option linter.unusedVariables false

theorem right_kind {k i : Int} {s : ByteArray} {b : Bool} (h : rightB k i s b = true) : k = 1 ∨ k = 2 ∨ k = 3 := by
  unfold rightB at h
  by_cases h1 : k = 1
  · exact .inl h1
  · rw [if_neg h1] at h
    by_cases h2 : k = 2
    · exact .inr (.inl h2)
    · rw [if_neg h2] at h
      simp only [Bool.and_eq_true, beq_iff_eq] at h
      exact .inr (.inr h.1.1)
theorem right2_size {i : Int} {s : ByteArray} {b : Bool} (h : rightB 2 i s b = true) : s.size ≤ 4096 := by
  simp only [rightB] at h
  simp at h
  omega
theorem right_cases {k i : Int} {s : ByteArray} {b : Bool} (h : rightB k i s b = true) : (k = 1 ∧ s.toList = [] ∧ b = false) ∨ (k = 2 ∧ i = 0 ∧ b = false) ∨ (k = 3 ∧ i = 0 ∧ s.toList = []) := by
  rcases right_kind h with rfl | rfl | rfl
  · simp [rightB] at h
    exact .inl ⟨rfl, h⟩
  · simp [rightB] at h
    exact .inr (.inl ⟨rfl, h.1⟩)
  · simp [rightB] at h
    exact .inr (.inr ⟨rfl, h⟩)
theorem right_size {k i : Int} {s : ByteArray} {b : Bool} (h : rightB k i s b = true) : s.size ≤ 4096 := by
  rcases right_cases h with ⟨rfl, e, _⟩ | ⟨rfl, _⟩ | ⟨rfl, _, e⟩
  · rw [← tl_len, e]; simp
  · exact right2_size h
  · rw [← tl_len, e]; simp

structure Vd where
  (k i : Int) (s : ByteArray) (b : Bool)
instance : Inhabited Vd := ⟨⟨0, 0, ⟨#[]⟩, false⟩⟩
def lessD (x y : Vd) : Bool := lessB x.k x.i x.s x.b y.k y.i y.s y.b
/-- A value's cells lie at a place of a block. -/
def Lies (g o : Nat) (v : Vd) (w : World) : Prop :=
  w.cell? ⟨g, o, none⟩ = some (.int .i64 v.k) ∧ w.cell? ⟨g, o + 1, none⟩ = some (.int .i64 v.i) ∧ w.cell? ⟨g, o + 2, none⟩ = some (.string v.s) ∧ w.cell? ⟨g, o + 3, none⟩ = some (.bool v.b)
theorem Lies.below {g o B : Nat} {v : Vd} {w w' : World} (h : Lies g o v w) (hb : Below B w w') (hg : g < B) : Lies g o v w' :=
  ⟨(hb.cell (p := ⟨g, o, none⟩) hg).trans h.1, (hb.cell (p := ⟨g, o + 1, none⟩) hg).trans h.2.1, (hb.cell (p := ⟨g, o + 2, none⟩) hg).trans h.2.2.1, (hb.cell (p := ⟨g, o + 3, none⟩) hg).trans h.2.2.2⟩
/-- A list of values lies in a row. -/
structure VRow (w : World) (g off : Nat) (L : List Vd) : Prop where
  at' : ∀ n, n < L.length → Lies g (off + n * 4) (L.getD n default) w
  lt : g < w.heap.size
theorem VRow.below {w w' : World} {g off : Nat} {L : List Vd} (h : VRow w g off L) (hb : Below w.heap.size w w') : VRow w' g off L :=
  ⟨fun n hn => (h.at' n hn).below hb h.lt, Nat.lt_of_lt_of_le h.lt hb.size⟩

theorem Boxed.set {g : Nat} {k i : Int} {s : ByteArray} {b : Bool} {w : World} (h : Boxed g k i s b w) (k' i' : Int) (s' : ByteArray) (b' : Bool) :
    Boxed g k' i' s' b' ((((w.setCell ⟨g, 0, none⟩ (.int .i64 k')).setCell ⟨g, 1, none⟩ (.int .i64 i')).setCell ⟨g, 2, none⟩ (.string s')).setCell ⟨g, 3, none⟩ (.bool b')) := by
  obtain ⟨h0, h1, h2, h3⟩ := h
  refine ⟨?_, ?_, ?_, ?_⟩
  · rw [World.cell?_setCell_other _ _ _ _ (by simp), World.cell?_setCell_other _ _ _ _ (by simp), World.cell?_setCell_other _ _ _ _ (by simp)]
    exact World.cell?_setCell_same _ _ _ (h0)
  · rw [World.cell?_setCell_other _ _ _ _ (by simp), World.cell?_setCell_other _ _ _ _ (by simp)]
    exact World.cell?_setCell_same _ _ _ ((World.cell?_setCell_other _ _ _ _ (by simp)).trans h1)
  · rw [World.cell?_setCell_other _ _ _ _ (by simp)]
    exact World.cell?_setCell_same _ _ _ (((World.cell?_setCell_other _ _ _ _ (by simp)).trans (World.cell?_setCell_other _ _ _ _ (by simp))).trans h2)
  · exact World.cell?_setCell_same _ _ _ ((((World.cell?_setCell_other _ _ _ _ (by simp)).trans (World.cell?_setCell_other _ _ _ _ (by simp))).trans (World.cell?_setCell_other _ _ _ _ (by simp))).trans h3)
theorem Free4.set {g : Nat} {w : World} (h : Free4 g w) (a b c d : Addr) (x y z u : Value) : Free4 g ((((w.setCell a x).setCell b y).setCell c z).setCell d u) := by
  obtain ⟨h0, h1, h2, h3⟩ := h
  refine ⟨?_, ?_, ?_, ?_⟩ <;> simp [*]
theorem below_set4 {B g : Nat} {a w : World} (h : Below B a w) (hg : B ≤ g) (x y z u : Value) : Below B a ((((w.setCell ⟨g, 0, none⟩ x).setCell ⟨g, 1, none⟩ y).setCell ⟨g, 2, none⟩ z).setCell ⟨g, 3, none⟩ u) :=
  (((h.setCell hg _).setCell hg _).setCell hg _).setCell hg _
theorem size_set4 (w : World) (g : Nat) (x y z u : Value) : ((((w.setCell ⟨g, 0, none⟩ x).setCell ⟨g, 1, none⟩ y).setCell ⟨g, 2, none⟩ z).setCell ⟨g, 3, none⟩ u).heap.size = w.heap.size := by simp
end Go.Proofs.YtmknmmbfaljkbaaGreatDoor

/- TreeMath -/
namespace Go.Proofs.YtmknmmbfaljkbaaGreatDoor
open Go.RowKit
set_option linter.unusedVariables false

/-- A name and its place. -/
structure Id3 where
  (t : ByteArray) (l c : Int)
/-- A node. -/
structure Ex where
  (op a b : Int) (n : ByteArray) (v : Vd) (l c : Int)
/-- A symbol's argument. -/
structure Ag where
  (k : Int) (n : ByteArray) (v : Vd) (l c : Int)
/-- A symbol. -/
structure Sy where
  (n : ByteArray) (ar : List Ag) (l c : Int)
/-- A declaration. -/
structure De where
  (n : Id3) (ks : List Int)
/-- A quantified variable. -/
structure Qu where
  (all : Bool) (n : Id3) (t : Int)
/-- A free variable. -/
structure Fr where
  (n : Id3) (v : Vd)
/-- A state. -/
structure Sta where
  (n : Id3) (nx ac : Bool)
/-- A setting. -/
structure Se where
  (n : Id3) (e : Int)
/-- A transition. -/
structure Ts where
  (f t : Id3) (on : Sy) (ns : List Ex) (g : Int) (ss : List Se)
/-- A tree. -/
structure Tr where
  (n : Id3) (ds : List De) (qs : List Qu) (fs : List Fr) (st : List Sta) (s : Id3) (al : List Sy) (ts : List Ts)

/-- The zero value. -/
def v0 : Vd := ⟨0, 0, ⟨#[]⟩, false⟩
def zeroV (v : Vd) : Bool := eqB v.k v.i v.s v.b 0 0 ⟨#[]⟩ false
def rightV (v : Vd) : Bool := rightB v.k v.i v.s v.b
def emptyB (s : ByteArray) : Bool := s.toList.isEmpty

/-- A number out of a list, at a place; 0: there is none. -/
def getS (S : List Nat) (i : Int) : Nat := if i < 0 then 0 else S.getD i.toNat 0
/-- How many nodes the expression has whose root comes next, behind nodes of such sizes; 0: none. -/
def nodeS (S : List Nat) (x : Ex) : Nat :=
  if x.op = 1 then (if x.a = 0 ∧ x.b = 0 ∧ emptyB x.n = true ∧ rightV x.v = true then 1 else 0)
  else if x.op = 17 then (if x.a = 0 ∧ x.b = 0 ∧ nameB x.n = true ∧ zeroV x.v = true then 1 else 0)
  else if x.op < 4 ∨ 16 < x.op ∨ emptyB x.n = false ∨ zeroV x.v = false then 0
  else if x.op ≤ 5 then (if x.a = (S.length : Int) - 1 ∧ x.b = 0 ∧ getS S ((S.length : Int) - 1) ≠ 0 then getS S ((S.length : Int) - 1) + 1 else 0)
  else if getS S ((S.length : Int) - 1) ≠ 0 ∧ x.b = (S.length : Int) - 1 ∧ x.a = (S.length : Int) - 1 - (getS S ((S.length : Int) - 1) : Nat) ∧ getS S ((S.length : Int) - 1 - (getS S ((S.length : Int) - 1) : Nat)) ≠ 0 then
    getS S ((S.length : Int) - 1 - (getS S ((S.length : Int) - 1) : Nat)) + getS S ((S.length : Int) - 1) + 1
  else 0
/-- How deep a node is, behind nodes of such depths. -/
def nodeD (D : List Nat) (x : Ex) : Nat := if x.op = 1 ∨ x.op = 17 then 1 else if 5 < x.op then max (getS D x.a) (getS D x.b) + 1 else getS D x.a + 1
/-- Numbers of nodes, one behind the other. -/
def accT (f : List Nat → Ex → Nat) : List Ex → List Nat → List Nat
  | [], S => S
  | x :: r, S => accT f r (S ++ [f S x])
theorem acc_len (f : List Nat → Ex → Nat) : ∀ (l : List Ex) (S : List Nat), (accT f l S).length = S.length + l.length
  | [], S => rfl
  | x :: r, S => by rw [accT, acc_len f r, List.length_append, List.length_singleton, List.length_cons]; omega
theorem acc_pre (f : List Nat → Ex → Nat) : ∀ (l : List Ex) (S : List Nat), (accT f l S).take S.length = S
  | [], S => List.take_length
  | x :: r, S => by
    have h := acc_pre f r (S ++ [f S x])
    rw [List.length_append, List.length_singleton] at h
    have h2 := congrArg (List.take S.length) h
    rw [List.take_take, Nat.min_eq_left (by omega), List.take_left] at h2
    exact h2
theorem acc_app (f : List Nat → Ex → Nat) : ∀ (l m : List Ex) (S : List Nat), accT f (l ++ m) S = accT f m (accT f l S)
  | [], m, S => rfl
  | x :: r, m, S => by rw [List.cons_append, accT, acc_app f r m, accT]
theorem acc_take (f : List Nat → Ex → Nat) (l : List Ex) (n : Nat) (hn : n ≤ l.length) : (accT f l []).take n = accT f (l.take n) [] := by
  have h := acc_app f (l.take n) (l.drop n) []
  rw [List.take_append_drop] at h
  have h2 := acc_pre f (l.drop n) (accT f (l.take n) [])
  rw [← h, acc_len, List.length_take, List.length_nil] at h2
  rwa [show 0 + min n l.length = n by omega] at h2
theorem acc_at (f : List Nat → Ex → Nat) {l : List Ex} {n : Nat} {x : Ex} (h : l[n]? = some x) : (accT f l []).getD n 0 = f ((accT f l []).take n) x := by
  obtain ⟨hn, e⟩ := List.getElem?_eq_some_iff.1 h
  have ht : l.take (n + 1) = l.take n ++ [x] := by rw [List.take_succ_eq_append_getElem hn, e]
  have h1 := acc_take f l (n + 1) (by omega)
  rw [ht, acc_app, accT, accT] at h1
  rw [acc_take f l n (by omega)]
  have hl : (accT f (l.take n) []).length = n := by rw [acc_len, List.length_take, List.length_nil]; omega
  have h2 := congrArg (fun l => l.getD n 0) h1
  simp only [List.getD, List.getElem?_take] at h2
  rw [if_pos (by omega), List.getElem?_append_right (by omega), hl, Nat.sub_self] at h2
  simpa [List.getD] using h2
theorem getS_take {S : List Nat} {n : Nat} {i : Int} (h : i < n) : getS (S.take n) i = getS S i := by
  unfold getS
  by_cases h0 : i < 0
  · rw [if_pos h0, if_pos h0]
  · rw [if_neg h0, if_neg h0]
    simp [List.getD, show i.toNat < n by omega]

/-- Of how many nodes the expression is whose root is a node; 0: none. -/
def sizeT (l : List Ex) (i : Int) : Nat := getS (accT nodeS l []) i
/-- How deep a node is (of an expression that may be). -/
def depthT (l : List Ex) (i : Int) : Nat := getS (accT nodeD l []) i
theorem sizeT_out {l : List Ex} {i : Int} (h : i < 0 ∨ (l.length : Int) ≤ i) : sizeT l i = 0 := by
  unfold sizeT getS
  split
  · rfl
  · rw [List.getD, List.getElem?_eq_none (by rw [acc_len, List.length_nil]; omega)]; rfl
theorem sizeT_at {l : List Ex} {n : Nat} {x : Ex} (h : l[n]? = some x) : sizeT l n =
    if x.op = 1 then (if x.a = 0 ∧ x.b = 0 ∧ emptyB x.n = true ∧ rightV x.v = true then 1 else 0)
    else if x.op = 17 then (if x.a = 0 ∧ x.b = 0 ∧ nameB x.n = true ∧ zeroV x.v = true then 1 else 0)
    else if x.op < 4 ∨ 16 < x.op ∨ emptyB x.n = false ∨ zeroV x.v = false then 0
    else if x.op ≤ 5 then (if x.a = (n : Int) - 1 ∧ x.b = 0 ∧ sizeT l ((n : Int) - 1) ≠ 0 then sizeT l ((n : Int) - 1) + 1 else 0)
    else if sizeT l ((n : Int) - 1) ≠ 0 ∧ x.b = (n : Int) - 1 ∧ x.a = (n : Int) - 1 - (sizeT l ((n : Int) - 1) : Nat) ∧ sizeT l ((n : Int) - 1 - (sizeT l ((n : Int) - 1) : Nat)) ≠ 0 then
      sizeT l ((n : Int) - 1 - (sizeT l ((n : Int) - 1) : Nat)) + sizeT l ((n : Int) - 1) + 1
    else 0 := by
  have hn := (List.getElem?_eq_some_iff.1 h).1
  have hl : ((accT nodeS l []).take n).length = n := by rw [List.length_take, acc_len, List.length_nil]; omega
  have e : sizeT l n = nodeS ((accT nodeS l []).take n) x := by
    rw [← acc_at nodeS h]
    unfold sizeT getS
    rw [if_neg (by omega)]; rfl
  have g1 : getS ((accT nodeS l []).take n) ((n : Int) - 1) = sizeT l ((n : Int) - 1) := getS_take (by omega)
  have g2 : getS ((accT nodeS l []).take n) ((n : Int) - 1 - (sizeT l ((n : Int) - 1) : Nat)) = sizeT l ((n : Int) - 1 - (sizeT l ((n : Int) - 1) : Nat)) := getS_take (by omega)
  rw [e, nodeS, hl, g1, g2]
theorem sizeT_le (l : List Ex) : ∀ (n : Nat), sizeT l n ≤ n + 1 := by
  intro n
  induction n using Nat.strongRecOn with
  | ind n ih =>
    cases h : l[n]? with
    | none =>
      have := List.getElem?_eq_none_iff.1 h
      rw [sizeT_out (.inr (by omega))]; omega
    | some x =>
      have hI : ∀ i : Int, i < n → (sizeT l i : Int) ≤ i + 1 ∨ sizeT l i = 0 := fun i hi => by
        by_cases h0 : i < 0
        · exact .inr (sizeT_out (.inl h0))
        · have := ih i.toNat (by omega)
          rw [show ((i.toNat : Nat) : Int) = i by omega] at this
          exact .inl (by omega)
      have h1 := hI ((n : Int) - 1) (by omega)
      have h2 := hI ((n : Int) - 1 - (sizeT l ((n : Int) - 1) : Nat)) (by omega)
      rw [sizeT_at h]
      split
      · split <;> omega
      · split
        · split <;> omega
        · split
          · omega
          · split
            · split <;> omega
            · split <;> omega
theorem depthT_at {l : List Ex} {n : Nat} {x : Ex} (h : l[n]? = some x) (ha : x.a < n) (hb : x.b < n) : depthT l n = if x.op = 1 ∨ x.op = 17 then 1 else if 5 < x.op then max (depthT l x.a) (depthT l x.b) + 1 else depthT l x.a + 1 := by
  have e : depthT l n = nodeD ((accT nodeD l []).take n) x := by
    rw [← acc_at nodeD h]
    unfold depthT getS
    rw [if_neg (by omega)]; rfl
  rw [e, nodeD, getS_take ha, getS_take hb]
  rfl
/-- The kinds of nodes that an expression that may be has at its root, and what stands below. -/
theorem sizeT_parts {l : List Ex} {n : Nat} {x : Ex} (h : l[n]? = some x) (h0 : sizeT l n ≠ 0) :
    (x.op = 1 ∨ x.op = 17) ∨ (4 ≤ x.op ∧ x.op ≤ 5 ∧ x.a = (n : Int) - 1 ∧ x.b = 0 ∧ sizeT l x.a ≠ 0) ∨ (6 ≤ x.op ∧ x.op ≤ 16 ∧ x.b = (n : Int) - 1 ∧ 0 ≤ x.a ∧ x.a < x.b ∧ sizeT l x.a ≠ 0 ∧ sizeT l x.b ≠ 0) := by
  rw [sizeT_at h] at h0
  by_cases h1 : x.op = 1
  · exact .inl (.inl h1)
  · rw [if_neg h1] at h0
    by_cases h17 : x.op = 17
    · exact .inl (.inr h17)
    · rw [if_neg h17] at h0
      split at h0
      · exact absurd rfl h0
      · rename_i hop
        have hop2 : 4 ≤ x.op ∧ x.op ≤ 16 := by
          constructor
          · exact Int.not_lt.1 (fun k => hop (.inl k))
          · exact Int.not_lt.1 (fun k => hop (.inr (.inl k)))
        by_cases h5 : x.op ≤ 5
        · rw [if_pos h5] at h0
          split at h0
          · rename_i hh
            exact .inr (.inl ⟨hop2.1, h5, hh.1, hh.2.1, by rw [hh.1]; exact hh.2.2⟩)
          · exact absurd rfl h0
        · rw [if_neg h5] at h0
          split at h0
          · rename_i hh
            have hp : 0 < sizeT l ((n : Int) - 1) := Nat.pos_of_ne_zero hh.1
            have hge : 0 ≤ x.a := by
              rw [hh.2.2.1]
              refine Int.not_lt.1 (fun k => hh.2.2.2 (sizeT_out (.inl k)))
            refine .inr (.inr ⟨by omega, hop2.2, hh.2.1, hge, by omega, by rw [hh.2.2.1]; exact hh.2.2.2, by rw [hh.2.1]; exact hh.1⟩)
          · exact absurd rfl h0

/-- Whether an expression begins at a place, ends with a node, and is not too deep. -/
def wholeB (l : List Ex) (b i : Int) : Bool := decide (sizeT l i ≠ 0) && decide (i - (sizeT l i : Nat) + 1 = b) && decide (depthT l i ≤ 64)
def argB (a : Ag) : Bool := if a.k = 1 then emptyB a.n && rightV a.v else if a.k = 2 then nameB a.n && zeroV a.v else if a.k = 3 then emptyB a.n && zeroV a.v else false
def symB (s : Sy) : Bool := s.ar.all argB && nameB s.n
def setsB (l : List Ex) : List Se → Int → Bool
  | [], b => decide (b = (l.length : Int))
  | s :: r, b => nameB s.n.t && wholeB l b s.e && setsB l r (s.e + 1)
def transB (t : Ts) : Bool := nameB t.f.t && nameB t.t.t && symB t.on && (if t.g = -1 then setsB t.ns t.ss 0 else wholeB t.ns 0 t.g && setsB t.ns t.ss (t.g + 1))
def kindB (k : Int) : Bool := decide (1 ≤ k) && decide (k ≤ 3)
/-- Whether a tree may be. -/
def rightT (s : Tr) : Bool :=
  nameB s.n.t && nameB s.s.t && s.ds.all (fun d => nameB d.n.t && d.ks.all kindB) && s.qs.all (fun q => nameB q.n.t && kindB q.t) && s.fs.all (fun f => nameB f.n.t && rightV f.v) && s.st.all (fun x => nameB x.n.t) && s.al.all symB && s.ts.all transB

/-- Without places. -/
def plI (x : Id3) : Id3 := ⟨x.t, 0, 0⟩
def plE (x : Ex) : Ex := ⟨x.op, x.a, x.b, x.n, x.v, 0, 0⟩
def plA (x : Ag) : Ag := ⟨x.k, x.n, x.v, 0, 0⟩
def plS (x : Sy) : Sy := ⟨x.n, x.ar.map plA, 0, 0⟩
def plTs (t : Ts) : Ts := ⟨plI t.f, plI t.t, plS t.on, t.ns.map plE, t.g, t.ss.map (fun s => ⟨plI s.n, s.e⟩)⟩
def plT (s : Tr) : Tr := ⟨plI s.n, s.ds.map (fun d => ⟨plI d.n, d.ks⟩), s.qs.map (fun q => ⟨q.all, plI q.n, q.t⟩), s.fs.map (fun f => ⟨plI f.n, f.v⟩), s.st.map (fun x => ⟨plI x.n, x.nx, x.ac⟩), plI s.s, s.al.map plS, s.ts.map plTs⟩
theorem nodeS_pl (S : List Nat) (x : Ex) : nodeS S (plE x) = nodeS S x := rfl
theorem nodeD_pl (S : List Nat) (x : Ex) : nodeD S (plE x) = nodeD S x := rfl
theorem acc_pl {f : List Nat → Ex → Nat} (hf : ∀ S x, f S (plE x) = f S x) : ∀ (l : List Ex) (S : List Nat), accT f (l.map plE) S = accT f l S
  | [], S => rfl
  | x :: r, S => by rw [List.map_cons, accT, accT, hf, acc_pl hf r]
theorem sizeT_pl (l : List Ex) (i : Int) : sizeT (l.map plE) i = sizeT l i := by unfold sizeT; rw [acc_pl nodeS_pl]
theorem depthT_pl (l : List Ex) (i : Int) : depthT (l.map plE) i = depthT l i := by unfold depthT; rw [acc_pl nodeD_pl]
theorem wholeB_pl (l : List Ex) (b i : Int) : wholeB (l.map plE) b i = wholeB l b i := by unfold wholeB; rw [sizeT_pl, depthT_pl]
theorem setsB_pl (l : List Ex) : ∀ (ss : List Se) (b : Int), setsB (l.map plE) (ss.map (fun s => ⟨plI s.n, s.e⟩)) b = setsB l ss b
  | [], b => by rw [List.map_nil, setsB, setsB, List.length_map]
  | s :: r, b => by rw [List.map_cons, setsB, setsB, wholeB_pl, setsB_pl l r]; rfl
theorem symB_pl (s : Sy) : symB (plS s) = symB s := by
  unfold symB plS
  simp only [List.all_map]
  rfl
theorem transB_pl (t : Ts) : transB (plTs t) = transB t := by
  have h1 : symB (plTs t).on = symB t.on := symB_pl t.on
  have h2 : (plTs t).ns = t.ns.map plE := rfl
  have h3 : (plTs t).ss = t.ss.map (fun s => ⟨plI s.n, s.e⟩) := rfl
  have h4 : (plTs t).g = t.g := rfl
  have h5 : (plTs t).f.t = t.f.t := rfl
  have h6 : (plTs t).t.t = t.t.t := rfl
  unfold transB
  rw [h1, h2, h3, h4, h5, h6, setsB_pl, setsB_pl, wholeB_pl]
/-- That without their places they may be, too. -/
theorem rightT_pl (s : Tr) : rightT (plT s) = rightT s := by
  unfold rightT plT
  simp only [List.all_map]
  have h1 : (symB ∘ plS) = symB := funext symB_pl
  have h2 : (transB ∘ plTs) = transB := funext transB_pl
  rw [h1, h2]
  rfl
theorem plI_pl (x : Id3) : plI (plI x) = plI x := rfl
theorem plS_pl (s : Sy) : plS (plS s) = plS s := by
  unfold plS
  simp only [List.map_map]
  rfl
theorem plTs_pl (t : Ts) : plTs (plTs t) = plTs t := by
  have h := plS_pl t.on
  unfold plTs
  simp only [List.map_map, h]
  rfl
theorem plT_pl (s : Tr) : plT (plT s) = plT s := by
  unfold plT
  simp only [List.map_map]
  have h1 : (plS ∘ plS) = plS := funext plS_pl
  have h2 : (plTs ∘ plTs) = plTs := funext plTs_pl
  rw [h1, h2]
  rfl
/-- Small trees. -/
def shortB (s : Sy) : Bool := decide (s.ar.length ≤ 12) && s.ar.all (fun a => decide (a.v.s.size ≤ 100))
def fewB (s : Tr) : Bool :=
  decide (s.ds.length ≤ 12 ∧ s.qs.length ≤ 12 ∧ s.fs.length ≤ 12 ∧ s.st.length ≤ 12 ∧ s.al.length ≤ 12 ∧ s.ts.length ≤ 12) && s.ds.all (fun d => decide (d.ks.length ≤ 12)) && s.fs.all (fun f => decide (f.v.s.size ≤ 100)) && s.al.all shortB && s.ts.all (fun t => shortB t.on && decide (t.ns.length ≤ 40) && decide (t.ss.length ≤ 12) && t.ns.all (fun x => decide (x.v.s.size ≤ 100)))
end Go.Proofs.YtmknmmbfaljkbaaGreatDoor
