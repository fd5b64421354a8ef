/- Slots and bindings as plain data, and how they lie in memory. -/
import Derived.Test.YtjohiehlnbgdaaaDoorLowVal
import Derived.Shelf.SlicesE.Kit
namespace Go.Proofs.YtjohiehlnbgdaaaDoor
open Go.RowKit
set_option linter.unusedVariables false

theorem bytes_eq {a b : ByteArray} (h : a.toList = b.toList) : a = b := by
  rw [ByteArray.toList_eq, ByteArray.toList_eq] at h
  exact ByteArray.ext (Array.toList_inj.1 h)
theorem tl_eq (a b : ByteArray) : a.toList = b.toList ↔ a = b := ⟨bytes_eq, fun h => by rw [h]⟩
theorem Vd.same {a b : Vd} (h : eqB a.k a.i a.s a.b b.k b.i b.s b.b = true) : a = b := by
  obtain ⟨k, i, s, c⟩ := a
  obtain ⟨k', i', s', c'⟩ := b
  obtain ⟨h1, h2, h3, h4⟩ := (eqB_iff _ _ _ _ _ _ _ _).1 h
  simp only at h1 h2 h3 h4
  rw [h1, h2, bytes_eq h3, h4]
instance : DecidableEq Vd := fun a b =>
  if h : eqB a.k a.i a.s a.b b.k b.i b.s b.b = true then isTrue (Vd.same h) else isFalse (fun e => h (by rw [e]; exact (eqB_iff _ _ _ _ _ _ _ _).2 ⟨rfl, rfl, rfl, rfl⟩))
theorem eqB_dec (a b : Vd) : eqB a.k a.i a.s a.b b.k b.i b.s b.b = decide (a = b) := by
  cases h : eqB a.k a.i a.s a.b b.k b.i b.s b.b
  · exact (decide_eq_false (fun e => by rw [e, (eqB_iff _ _ _ _ _ _ _ _).2 ⟨rfl, rfl, rfl, rfl⟩] at h; cases h)).symm
  · exact (decide_eq_true (Vd.same h)).symm

/-- A slot: a variable, and its value. -/
structure Sd where
  (x : Int) (v : Vd)
deriving DecidableEq
instance : Inhabited Sd := ⟨⟨0, default⟩⟩
def encS (z : Sd) : List Value := [.int .i64 z.x, .int .i64 z.v.k, .int .i64 z.v.i, .string z.v.s, .bool z.v.b]
theorem encS_len (z : Sd) : (encS z).length = 5 := rfl
theorem encS_one (z : Sd) : ∀ v ∈ encS z, v.oneCell' = true := by
  intro v hv
  simp [encS] at hv
  rcases hv with rfl | rfl | rfl | rfl | rfl <;> rfl
theorem guardS : Tryd.prog.eqGuardType Tryd.prog.depth 36 = false := by kernel_rfl
set_option maxRecDepth 100000 in
theorem eqInS (a b : Sd) (w : World) : (Op.equalIn 10000 36 (.agg #[.int .i64 a.x, .int .i64 a.v.k, .int .i64 a.v.i, .string a.v.s, .bool a.v.b]) (.agg #[.int .i64 b.x, .int .i64 b.v.k, .int .i64 b.v.i, .string b.v.s, .bool b.v.b])).run Tryd.prog w = .ok (decide (a = b)) w := by
  rw [run_equalIn_agg w 9999 _ _ _ (by simp only [Program.fieldsOf, Tryd.underlying36]) (by kernel_rfl)]
  simp only [Program.fieldsOf, Tryd.underlying36]
  go_simp
  obtain ⟨x, k, i, s, c⟩ := a
  obtain ⟨x', k', i', s', c'⟩ := b
  simp only [tl_eq, Sd.mk.injEq, Vd.mk.injEq]
  repeat' split
  all_goals simp_all

/-- A slot's cells lie at a place of a block. -/
def LiesS (g o : Nat) (z : Sd) (w : World) : Prop :=
  w.cell? ⟨g, o, none⟩ = some (.int .i64 z.x) ∧ w.cell? ⟨g, o + 1, none⟩ = some (.int .i64 z.v.k) ∧ w.cell? ⟨g, o + 2, none⟩ = some (.int .i64 z.v.i) ∧ w.cell? ⟨g, o + 3, none⟩ = some (.string z.v.s) ∧ w.cell? ⟨g, o + 4, none⟩ = some (.bool z.v.b)
theorem LiesS.below {g o B : Nat} {z : Sd} {w w' : World} (h : LiesS g o z w) (hb : Below B w w') (hg : g < B) : LiesS g o z w' :=
  ⟨(hb.cell (p := ⟨g, o, none⟩) hg).trans h.1, (hb.cell (p := ⟨g, o + 1, none⟩) hg).trans h.2.1, (hb.cell (p := ⟨g, o + 2, none⟩) hg).trans h.2.2.1, (hb.cell (p := ⟨g, o + 3, none⟩) hg).trans h.2.2.2.1, (hb.cell (p := ⟨g, o + 4, none⟩) hg).trans h.2.2.2.2⟩
theorem LiesS.new (z : Sd) (w : World) (t : TypeId) : LiesS w.heap.size 0 z (w.alloc (.cells #[.int .i64 z.x, .int .i64 z.v.k, .int .i64 z.v.i, .string z.v.s, .bool z.v.b] t)) := by
  refine ⟨?_, ?_, ?_, ?_, ?_⟩ <;> (rw [World.cell?_alloc_at (hn := rfl)]; rfl)
theorem LiesS.enc {g o : Nat} {z : Sd} {w : World} (h : LiesS g o z w) (i : Nat) (v : Value) (hi : (encS z)[i]? = some v) : w.cell? ⟨g, o + i, none⟩ = some v := by
  obtain ⟨h0, h1, h2, h3, h4⟩ := h
  match i, hi with
  | 0, hi => simp [encS] at hi; rw [← hi]; exact h0
  | 1, hi => simp [encS] at hi; rw [← hi]; exact h1
  | 2, hi => simp [encS] at hi; rw [← hi]; exact h2
  | 3, hi => simp [encS] at hi; rw [← hi]; exact h3
  | 4, hi => simp [encS] at hi; rw [← hi]; exact h4
  | i + 5, hi => simp [encS] at hi
theorem LiesS.of_enc {g o : Nat} {z : Sd} {w : World} (h : ∀ i v, (encS z)[i]? = some v → w.cell? ⟨g, o + i, none⟩ = some v) : LiesS g o z w :=
  ⟨h 0 _ rfl, h 1 _ rfl, h 2 _ rfl, h 3 _ rfl, h 4 _ rfl⟩
/-- What a slot that a program holds keeps to. -/
def FitS (z : Sd) : Prop := (-9223372036854775808 ≤ z.x ∧ z.x ≤ 9223372036854775807) ∧ z.v.s.size ≤ 9223372036854775807 ∧ -9223372036854775808 ≤ z.v.i ∧ z.v.i ≤ 9223372036854775807
/-- A list of slots in memory: none, or they lie in a row. -/
structure SIn (w : World) (a : Option Addr) (len : Nat) (L : List Sd) : Prop where
  leng : L.length = len
  small : len ≤ 9223372036854775807
  row : 0 < len → ∃ g off, a = some ⟨g, off, none⟩ ∧ g < w.heap.size ∧ ∀ n, n < len → LiesS g (off + n * 5) (L.getD n default) w
  fits : ∀ z ∈ L, FitS z
theorem SIn.below {w w' : World} {a : Option Addr} {len : Nat} {L : List Sd} (h : SIn w a len L) (hb : Below w.heap.size w w') : SIn w' a len L :=
  ⟨h.leng, h.small, fun h0 => by
    obtain ⟨g, off, e, hg, hr⟩ := h.row h0
    exact ⟨g, off, e, Nat.lt_of_lt_of_le hg hb.size, fun n hn => (hr n hn).below hb hg⟩, h.fits⟩
theorem getD_mem {L : List Sd} {n : Nat} (h : n < L.length) : L.getD n default ∈ L := by
  have : L.getD n default = L[n] := by simp [List.getD, h]
  rw [this]
  exact List.getElem_mem h
theorem SIn.fit {w : World} {a : Option Addr} {len : Nat} {L : List Sd} (h : SIn w a len L) {n : Nat} (hn : n < len) : FitS (L.getD n default) :=
  h.fits _ (getD_mem (by rw [h.leng]; exact hn))
theorem SIn.none' {w : World} {a : Option Addr} : SIn w a 0 [] := ⟨rfl, by omega, fun h => by omega, fun z hz => by simp at hz⟩
/-- The cells of slots in a row. -/
def cellsS (L : List Sd) : List Value := L.flatMap encS
theorem cellsS_nil : cellsS [] = [] := rfl
theorem cellsS_cons (z : Sd) (L : List Sd) : cellsS (z :: L) = encS z ++ cellsS L := rfl
theorem cellsS_app (A B : List Sd) : cellsS (A ++ B) = cellsS A ++ cellsS B := by simp [cellsS]
theorem cellsS_len : ∀ L : List Sd, (cellsS L).length = L.length * 5
  | [] => rfl
  | z :: L => by rw [cellsS_cons, List.length_append, cellsS_len L, encS_len, List.length_cons]; omega
theorem cellsS_at : ∀ (L : List Sd) (n i : Nat), n < L.length → i < 5 → (cellsS L)[n * 5 + i]? = (encS (L.getD n default))[i]?
  | z :: L, 0, i, _, hi => by
    rw [cellsS_cons, List.getElem?_append_left (by rw [encS_len]; omega)]
    simp [List.getD]
  | z :: L, n + 1, i, h, hi => by
    rw [cellsS_cons, List.getElem?_append_right (by rw [encS_len]; omega), encS_len, show (n + 1) * 5 + i - 5 = n * 5 + i by omega, cellsS_at L n i (by simpa using h) hi]
    simp [List.getD]
theorem cellsS_one (L : List Sd) : ∀ u ∈ cellsS L, u.oneCell' = true := by
  intro u hu
  simp only [cellsS, List.mem_flatMap] at hu
  obtain ⟨z, _, hz⟩ := hu
  exact encS_one z u hz
/-- The cells of slots that lie in memory, one by one. -/
theorem SIn.cells {w : World} {g off len : Nat} {L : List Sd} (h : SIn w (some ⟨g, off, none⟩) len L) (j : Nat) (u : Value) (hj : (cellsS L)[j]? = some u) : w.cell? ⟨g, off + j, none⟩ = some u := by
  have hl : j < L.length * 5 := by rw [← cellsS_len]; exact (List.getElem?_eq_some_iff.1 hj).1
  have hn : j / 5 < L.length := by omega
  obtain ⟨g', off', e, _, hr⟩ := h.row (by have := h.leng; omega)
  cases e
  have h1 := (hr (j / 5) (by rw [← h.leng]; exact hn)).enc (j % 5) u (by rw [← cellsS_at L (j / 5) (j % 5) hn (by omega), show j / 5 * 5 + j % 5 = j by omega]; exact hj)
  rwa [show off + j / 5 * 5 + j % 5 = off + j by omega] at h1
theorem infoS : (Tryd.prog.info? 36).map (fun i => (i.zero, i.size, i.bytes)) = some (some (.agg #[.int .i64 0, .int .i64 0, .int .i64 0, .string ⟨#[]⟩, .bool false]), 5, 48) := by kernel_rfl
/-- Slots that a call has gathered lie in a row. -/
theorem own_sin {B : Nat} {o : Value} {L : List Sd} {w : World} (h : w.ownsRow B 36 5 o L.length (cellsS L)) (hall : ∀ z ∈ L, FitS z) :
    ∃ a cap, o = .slice a L.length cap ∧ SIn w a L.length L := by
  obtain ⟨hl, hown⟩ := h
  rcases hown with ⟨rfl, h0⟩ | ⟨g, cap, cur, rfl, h1, hg, hcap, hm, hsz, htk⟩
  · exact ⟨none, 0, by rw [h0], ⟨rfl, by omega, fun h => by omega, hall⟩⟩
  · refine ⟨_, cap, rfl, ⟨rfl, by unfold maxLen at hm; omega, fun _ => ⟨g, 0, rfl, (Array.getElem?_eq_some_iff.1 hg).1, fun n hn => LiesS.of_enc (fun i v hi => ?_)⟩, hall⟩⟩
    have hi5 : i < 5 := by have := (List.getElem?_eq_some_iff.1 hi).1; rwa [encS_len] at this
    rw [← cellsS_at L n i hn hi5] at hi
    rw [Nat.zero_add, cell_of_row w g (n * 5 + i) cur _ (0, 0) hg]
    rw [← htk, List.getElem?_take, if_pos (by omega)] at hi
    simpa using hi
end Go.Proofs.YtjohiehlnbgdaaaDoor
