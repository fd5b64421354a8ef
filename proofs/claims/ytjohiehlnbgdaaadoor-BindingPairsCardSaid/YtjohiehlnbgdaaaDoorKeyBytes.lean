/- Rows of bytes in memory: one that the call has made, whole; any one, byte by byte; and the texts that strings.ReplaceAll and strings.Count make of a text. -/
import Derived.Test.YtjohiehlnbgdaaaDoorKeyMath
import Derived.Test.YtjohiehlnbgdaaaDoorShelfRepl
import Derived.Lib.BufferWrite
import Derived.Laws.CopyOwn
import Derived.OwnWalk
namespace Go.Proofs.YtjohiehlnbgdaaaDoor
open Go.RowKit
set_option linter.unusedVariables false

/-- A block of bytes. -/
def Holds (g : Nat) (l : List UInt8) (w : World) : Prop := w.heap[g]? = some (.cells (Lib.byteCells l).toArray 5 (0, 0))
theorem Holds.cell {g : Nat} {l : List UInt8} {w : World} (h : Holds g l w) {j : Nat} {c : UInt8} (hj : l[j]? = some c) : w.cell? ⟨g, j, none⟩ = some (.int .u8 c.toNat) := by
  rw [cell_of_row w g j _ _ _ h]
  simp [Lib.byteCells, hj]
theorem Holds.frozen {g : Nat} {l : List UInt8} {w : World} (h : Holds g l w) (j : Nat) : w.frozen? ⟨g, j, none⟩ = false := frozen_of_row w g j _ _ h
theorem Holds.lt {g : Nat} {l : List UInt8} {w : World} (h : Holds g l w) : g < w.heap.size := (Array.getElem?_eq_some_iff.1 h).1
theorem Holds.below {g : Nat} {l : List UInt8} {w w' : World} (h : Holds g l w) (hb : Below w.heap.size w w') : Holds g l w' := by
  unfold Holds
  rw [hb.block g h.lt]
  exact h
theorem Holds.alloc {g : Nat} {l : List UInt8} {w : World} (h : Holds g l w) (o : Obj) : Holds g l (w.alloc o) := (heap_alloc_old w o h.lt).trans h
theorem Holds.drew {g : Nat} {l : List UInt8} {w : World} (h : Holds g l w) : Holds g l w.drew := h
theorem Holds.set {g : Nat} {l : List UInt8} {w : World} (h : Holds g l w) (i : Nat) (c : UInt8) : Holds g (l.set i c) (w.setCell ⟨g, i, none⟩ (.int .u8 c.toNat)) := by
  have := heap_setCell_same w g i _ _ (.int .u8 c.toNat) h
  unfold Holds
  rw [this]
  congr 2
  apply Array.ext'
  simp [Lib.byteCells, List.map_set]
theorem Holds.row {g : Nat} {l m : List UInt8} {w : World} (h : Holds g l w) : Holds g m (w.setRow g (Lib.byteCells m).toArray) := setRow_heap w g _ _ _ _ h
theorem Holds.made (w : World) (n : Nat) : Holds w.heap.size (List.replicate n 0) (w.alloc (.cells (madeCells #[.int .u8 0] n) 5)) := by
  have h := heap_alloc_new w (.cells (madeCells #[.int .u8 0] n) 5)
  unfold Holds
  rw [h]
  congr 2
  apply Array.ext'
  apply List.ext_getElem (by simp [Lib.byteCells, madeCells])
  intro j h1 h2
  simp [Lib.byteCells, madeCells, Nat.mod_one]

/-- But for one block, the world is as it was; new ones may have come. -/
def But (g : Nat) (w w' : World) : Prop := w.grownBy w' (some g)
theorem But.refl (g : Nat) (w : World) : But g w w := ⟨rfl, rfl, rfl, Nat.le_refl _, fun _ _ _ => rfl⟩
theorem But.set {g o : Nat} {w w' : World} (h : But g w w') (v : Value) : But g w (w'.setCell ⟨g, o, none⟩ v) :=
  ⟨h.os, h.tape, h.output, by rw [World.size_setCell]; exact h.size, fun k hk hne => (heap_setCell_other w' _ k v (fun e => hne (by rw [e]))).trans (h.block k hk hne)⟩
theorem But.row {g : Nat} {w w' : World} (h : But g w w') (cs : Array Value) : But g w (w'.setRow g cs) :=
  ⟨h.os, h.tape, h.output, by rw [size_setRow]; exact h.size, fun k hk hne => (setRow_other w' g k cs (fun e => hne (by rw [e]))).trans (h.block k hk hne)⟩
theorem But.alloc {g : Nat} {w w' : World} (h : But g w w') (o : Obj) : But g w (w'.alloc o) :=
  ⟨h.os, h.tape, h.output, Nat.le_trans h.size (by simp), fun k hk hne => (heap_alloc_old w' o (Nat.lt_of_lt_of_le hk h.size)).trans (h.block k hk hne)⟩
theorem But.drew {g : Nat} {w w' : World} (h : But g w w') : But g w w'.drew := ⟨h.os, h.tape, h.output, h.size, h.block⟩
theorem But.trans {g : Nat} {a b c : World} (h : But g a b) (k : But g b c) : But g a c :=
  ⟨k.os.trans h.os, k.tape.trans h.tape, k.output.trans h.output, Nat.le_trans h.size k.size, fun i hi hne => (k.block i (Nat.lt_of_lt_of_le hi h.size) hne).trans (h.block i hi hne)⟩
theorem But.of {g : Nat} {w w' : World} (h : Below w.heap.size w w') : But g w w' := ⟨h.os, h.tape, h.output, h.size, fun k hk _ => h.block k hk⟩
theorem But.after {g : Nat} {a w w' : World} (h : But g a w) (k : Below w.heap.size w w') : But g a w' := h.trans (But.of k)
theorem But.to {g B : Nat} {a w w' : World} (h : But g w w') (hb : Below B a w) (hB : B ≤ w.heap.size) (hg : B ≤ g) : Below B a w' := hb.grown h hB (fun k hk => by cases hk; exact hg)
theorem But.boxed {g c : Nat} {k i : Int} {s : ByteArray} {b : Bool} {w w' : World} (h : But g w w') (hx : Boxed c k i s b w) (hne : c ≠ g) : Boxed c k i s b w' := by
  have hn : some c ≠ some g := fun e => hne (Option.some.inj e)
  obtain ⟨h0, h1, h2, h3⟩ := hx
  exact ⟨World.grownBy.cell h h0 hn, World.grownBy.cell h h1 hn, World.grownBy.cell h h2 hn, World.grownBy.cell h h3 hn⟩

/-- Bytes that lie in a row. -/
structure Bts (w : World) (g off : Nat) (l : List UInt8) : Prop where
  at' : ∀ j c, l[j]? = some c → w.cell? ⟨g, off + j, none⟩ = some (.int .u8 c.toNat)
theorem Bts.below {w w' : World} {g off : Nat} {l : List UInt8} (h : Bts w g off l) (hb : Below w.heap.size w w') : Bts w' g off l :=
  ⟨fun j c hj => by
    have hc := h.at' j c hj
    exact (hb.cell (p := ⟨g, off + j, none⟩) (block_lt_of_cell hc)).trans hc⟩
theorem Bts.drop {w : World} {g off : Nat} {l : List UInt8} (h : Bts w g off l) (n : Nat) : Bts w g (off + n) (l.drop n) :=
  ⟨fun j c hj => by rw [Nat.add_assoc]; exact h.at' (n + j) c (by rw [List.getElem?_drop] at hj; exact hj)⟩
theorem Bts.take {w : World} {g off : Nat} {l : List UInt8} (h : Bts w g off l) (n : Nat) : Bts w g off (l.take n) :=
  ⟨fun j c hj => h.at' j c (by rw [List.getElem?_take] at hj; split at hj; exact hj; cases hj)⟩
theorem Bts.get {w : World} {g off : Nat} {l : List UInt8} (h : Bts w g off l) {j : Nat} (hj : j < l.length) : w.cell? ⟨g, off + j, none⟩ = some (.int .u8 l[j].toNat) :=
  h.at' j l[j] (List.getElem?_eq_getElem hj)
theorem Holds.bts {g : Nat} {l : List UInt8} {w : World} (h : Holds g l w) : Bts w g 0 l := ⟨fun j c hj => by rw [Nat.zero_add]; exact h.cell hj⟩
theorem Bts.text {w : World} {g off : Nat} {l : List UInt8} (h : Bts w g off l) (cap : Nat) :
    (convert 32 9 (.slice (some ⟨g, off, none⟩) l.length cap)).run Tryd.prog w = .ok (.string ⟨l.toArray⟩) w := by
  refine run_convert_bytes_back w 32 9 5 ⟨g, off, none⟩ cap l Tryd.underlying32 Tryd.underlying5 Tryd.underlying9 fun j hj => ?_
  have hadd : (⟨g, off, none⟩ : Addr).add j = ⟨g, off + j, none⟩ := by unfold Addr.add; split <;> simp_all
  rw [hadd]
  exact h.get hj

theorem infoU8 : (Tryd.prog.info? 5).map (fun i => (i.zero, i.size, i.bytes)) = some (some (.int .u8 0), 1, 1) := by kernel_rfl
theorem sizeByte : (Tryd.prog.info? 5).map (·.size) = some 1 := by kernel_rfl
theorem wpList_copy_str {P : Program} {w : World} {ops : Array Oper} {rest : List Oper} {o : Oper} {a : Act} {Q : Exit → Act → World → Prop} (hgd : o.guard = none) (d s : Operand) (dT sT : TypeId)
    (ho : o.op = .call { callee := .builtin .copy, args := #[d, s], argTypes := #[dT, sT] }) (elem : TypeId) (hu : P.underlying dT = some (.slice elem)) (hsz : (P.info? elem).map (·.size) = some 1)
    (g off dLen dCap : Nat) (t : ByteArray) (hd : a.eval d = .slice (some ⟨g, off, none⟩) dLen dCap) (hs : a.eval s = .string t)
    (cur : Array Value) (ty : TypeId) (hg : w.heap[g]? = some (.cells cur ty (0, 0))) (hle : t.size ≤ dLen) (hfit : off + t.size ≤ cur.size)
    (h : wpList P ops Q rest (a.put o.dst (goInt t.size)) (w.setRow g (cur.toList.take off ++ Lib.byteCells t.data.toList ++ cur.toList.drop (off + t.size)).toArray)) : wpList P ops Q (o :: rest) a w := by
  refine wpList_plain hgd fun K hK => ?_
  have hrun := Lib.run_copy_row_string (P := P) w dT sT o.type elem g off dLen dCap t cur ty hu hsz hg hle hfit
  unfold Oper.wp
  simp [execOp, ho, resolve, invoke, builtin, hd, hs, hrun, Result.andThen]
  exact hK _ _ (by simpa using h)

/-- Bytes laid over others. -/
theorem splice_bytes (p z t : List UInt8) (h : t.length ≤ z.length) :
    (Lib.byteCells (p ++ z)).toArray.toList.take p.length ++ Lib.byteCells t ++ (Lib.byteCells (p ++ z)).toArray.toList.drop (p.length + t.length) = Lib.byteCells (p ++ t ++ z.drop t.length) := by
  simp [Lib.byteCells, List.map_drop]
  rw [List.drop_append]
  simp

theorem esc_replaceK : ∀ l : List UInt8, Lib.replaceK [0] [0, 255] (Lib.count l [0]) l = escL l
  | [] => by
    rw [Lib.count_miss (by rfl)]; rfl
  | c :: r => by
    have ih := esc_replaceK r
    by_cases hc : c = 0
    · subst hc
      have h0 : Lib.index (0 :: r) [0] = ((0 : Nat) : Int) := by simp [Lib.index]
      rw [Lib.count_hit (by simp) h0, Nat.add_comm, Lib.replaceK_hit _ _ _ _ 0 h0, escL_zero]
      simp
      exact ih
    · rw [escL_else hc]
      have hp : ¬ (List.isPrefixOf [0] (c :: r)) = true := by simp [List.isPrefixOf]; exact fun e => hc e.symm
      by_cases hm : Lib.index r [0] = -1
      · have h1 : Lib.index (c :: r) [0] = -1 := by rw [Lib.index, if_neg hp, if_pos (by rw [hm]; rfl)]
        rw [Lib.count_miss hm] at ih
        rw [Lib.count_miss h1, Lib.replaceK]
        rw [Lib.replaceK] at ih
        rw [← ih]
      · have hge := Lib.index_ge r [0]
        obtain ⟨i, hi⟩ : ∃ i : Nat, Lib.index r [0] = i := ⟨(Lib.index r [0]).toNat, by omega⟩
        have h1 : Lib.index (c :: r) [0] = ((i + 1 : Nat) : Int) := by
          rw [Lib.index, if_neg hp, if_neg (by rw [hi]; simp), hi]; rfl
        rw [Lib.count_hit (by simp) hi, Nat.add_comm, Lib.replaceK_hit _ _ _ _ i hi] at ih
        rw [Lib.count_hit (by simp) h1, Nat.add_comm, Lib.replaceK_hit _ _ _ _ (i + 1) h1]
        rw [show (c :: r).drop (i + 1 + [(0 : UInt8)].length) = r.drop (i + [(0 : UInt8)].length) by simp, List.take_succ_cons]
        rw [← ih]
        simp
theorem esc_replace (l : List UInt8) : Lib.replaceAll l [0] [0, 255] = escL l := by
  have h : ([(0 : UInt8)] == [0, 255]) = false := by decide
  rw [Lib.replaceAll, Lib.replace, if_neg (by rw [h]; simp), Lib.replaceNum, if_pos (.inl (by decide)), esc_replaceK]

/-- The library's own number, whatever it holds. -/
def MaxAt (w : World) : Prop := ∃ m, w.cell? ⟨0, 0, none⟩ = some (.int .i64 m)
theorem MaxAt.below {w w' : World} (h : MaxAt w) (hb : Below w.heap.size w w') : MaxAt w' := by
  obtain ⟨m, hm⟩ := h
  exact ⟨m, (hb.cell (p := ⟨0, 0, none⟩) (block_lt_of_cell hm)).trans hm⟩
theorem MaxAt.drew {w : World} (h : MaxAt w) : MaxAt w.drew := h

theorem replace_calls (s : ByteArray) (w : World) (hs : s.size ≤ 1000000) (hm : MaxAt w) :
    Calls Tryd.prog 68 #[.string s, .string ⟨#[0]⟩, .string ⟨#[0, 255]⟩] w fun e w' => e = .returned (.string ⟨(escL s.toList).toArray⟩) ∧ Below w.heap.size w w' := by
  obtain ⟨m, hm⟩ := hm
  have hc := Lib.count_le s.data.toList [0]
  have hl : s.data.toList.length = s.size := by rw [Array.length_toList]; rfl
  refine (Tryd.strings_ReplaceAll s ⟨#[0]⟩ ⟨#[0, 255]⟩ m w (by omega) hm (by decide) ?_).mono ?_
  · show s.size + Lib.count s.data.toList [0] * 2 ≤ _
    omega
  · rintro e w' ⟨rfl, hb⟩
    refine ⟨?_, hb⟩
    rw [show (⟨#[0]⟩ : ByteArray).data.toList = [0] from rfl, show (⟨#[0, 255]⟩ : ByteArray).data.toList = [0, 255] from rfl, esc_replace, ByteArray.toList_eq]
theorem count_calls (s : ByteArray) (w : World) :
    Calls Tryd.prog 62 #[.string s, .string ⟨#[0]⟩] w fun e w' => e = .returned (.int .i64 (s.toList.count 0 : Nat)) ∧ w = w' := by
  refine (Tryd.strings_Count_one s 0 w).mono ?_
  rintro e w' ⟨rfl, rfl⟩
  rw [ByteArray.toList_eq]
  exact ⟨rfl, rfl⟩
end Go.Proofs.YtjohiehlnbgdaaaDoor
