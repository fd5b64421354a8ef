/- Bytes and values that a call gathers by append; a value in a block of the call's own beside them. -/
import Derived.Test.YtppplkfidjjodaaDoorKeyRead
namespace Go.Proofs.YtppplkfidjjodaaDoor
open Go.RowKit
set_option linter.unusedVariables false

theorem own_base {B B' : Nat} {t : TypeId} {k : Nat} {v : Value} {n : Nat} {xs : List Value} {w : World} (h : w.ownsRow B t k v n xs) (hb : B' ≤ B) : w.ownsRow B' t k v n xs := by
  obtain ⟨hl, hown⟩ := h
  refine ⟨hl, ?_⟩
  rcases hown with hn | ⟨g, cap, cur, rfl, h1, rest⟩
  · exact .inl hn
  · exact .inr ⟨g, cap, cur, rfl, Nat.le_trans hb h1, rest⟩
/-- A slice that has just been built is the call's own. -/
theorem own_new {B : Nat} (w : World) (x : Int) (c : UInt8) (hx : x = c.toNat) (hB : B ≤ w.heap.size) : (w.alloc (.cells #[.int .u8 x] 5)).ownsRow B 5 1 (.slice (some ⟨w.heap.size, 0, none⟩) 1 1) [c].length (Lib.byteCells [c]) := by
  subst hx
  exact ⟨rfl, .inr ⟨w.heap.size, 1, #[.int .u8 c.toNat], rfl, hB, heap_alloc_new w _, Nat.le_refl _, by unfold maxLen; omega, rfl, rfl⟩⟩
theorem new_byte (w : World) (x : Int) (c : UInt8) (hx : x = c.toNat) (g : Nat) (hg : g = w.heap.size) : ∀ j u, (Lib.byteCells [c])[j]? = some u → (w.alloc (.cells #[.int .u8 x] 5)).cell? ((⟨g, 0, none⟩ : Addr).add j) = some u := by
  subst hx hg
  intro j u hj
  have hadd : (⟨w.heap.size, 0, none⟩ : Addr).add j = ⟨w.heap.size, j, none⟩ := by unfold Addr.add; split <;> simp_all
  rw [hadd, World.cell?_alloc_at (hn := rfl)]
  simpa [Lib.byteCells] using hj
theorem new_byte2 (w : World) (x y : Int) (c d : UInt8) (hx : x = c.toNat) (hy : y = d.toNat) (g : Nat) (hg : g = w.heap.size) : ∀ j u, (Lib.byteCells [c, d])[j]? = some u → (w.alloc (.cells #[.int .u8 x, .int .u8 y] 5)).cell? ((⟨g, 0, none⟩ : Addr).add j) = some u := by
  subst hx hy hg
  intro j u hj
  have hadd : (⟨w.heap.size, 0, none⟩ : Addr).add j = ⟨w.heap.size, j, none⟩ := by unfold Addr.add; split <;> simp_all
  rw [hadd, World.cell?_alloc_at (hn := rfl)]
  simpa [Lib.byteCells] using hj
theorem owned_cells {B : Nat} {v : Value} {t : List UInt8} {w : World} {g cap : Nat} (h : w.ownsRow B 5 1 v t.length (Lib.byteCells t)) (hv : v = .slice (some ⟨g, 0, none⟩) t.length cap) : ∀ j u, (Lib.byteCells t)[j]? = some u → w.cell? ((⟨g, 0, none⟩ : Addr).add j) = some u := by
  subst hv
  obtain ⟨hl, hown⟩ := h
  rcases hown with ⟨e, _⟩ | ⟨g', cap', cur, e, h1, hg, hcap, hm, hsz, htk⟩
  · cases e
  · cases e
    intro j u hj
    have hadd : (⟨g, 0, none⟩ : Addr).add j = ⟨g, j, none⟩ := by unfold Addr.add; split <;> simp_all
    have hlt : j < t.length := by have := (List.getElem?_eq_some_iff.1 hj).1; simpa [Lib.byteCells] using this
    rw [hadd, cell_of_row w g j cur 5 (0, 0) hg]
    rw [← htk, Nat.mul_one, List.getElem?_take, if_pos hlt] at hj
    simpa using hj
theorem byteCells_one (t : List UInt8) : ∀ u ∈ Lib.byteCells t, u.oneCell' = true := by
  intro u hu
  obtain ⟨x, _, rfl⟩ := List.mem_map.1 hu
  rfl
/-- append, of bytes that lie somewhere, to bytes of the call's own. -/
theorem wpList_append_bytes {w : World} {ops : Array Oper} {rest : List Oper} {o : Oper} {a : Act} {Q : Exit → Act → World → Prop} (hgd : o.guard = none) (s x : Operand)
    (ho : o.op = .call { callee := .builtin .append, args := #[s, x], argTypes := #[25, 25] }) (B : Nat) (v : Value) (t : List UInt8) (hs : a.eval s = v) (hown : w.ownsRow B 5 1 v t.length (Lib.byteCells t))
    (ad : Addr) (m c : Nat) (news : List UInt8) (hx : a.eval x = .slice (some ad) m c) (hl : news.length = m) (hnews : ∀ j u, (Lib.byteCells news)[j]? = some u → w.cell? (ad.add j) = some u) (hsz : t.length + m ≤ 1000000000) (hbase : B ≤ w.heap.size) (A : Nat) (w0 : World) (hb : Below A w0 w) (hA : A ≤ B) (r : List UInt8) (hr : r = t ++ news)
    (h : ∀ v' w', Hid (w'.ownsRow B 5 1 v' r.length (Lib.byteCells r)) → Hid (Below A w0 w') → wpList Tryd.prog ops Q rest (a.put o.dst v') w') : wpList Tryd.prog ops Q (o :: rest) a w := by
  subst hr
  obtain ⟨i0, hi, hz0, hz1, hz2⟩ := info_parts infoU8
  refine wpList_append_own _ hgd s x 25 ho B 5 i0 (.int .u8 0) 1 1 Tryd.underlying25 hi hz0 hz1 hz2 rfl (by decide) v t.length (Lib.byteCells t) hs hown ad m c (Lib.byteCells news) hx (by rw [Lib.byteCells_length, hl, Nat.mul_one]) hnews (byteCells_one _) (by unfold maxLen; omega) (by omega) hbase ?_
  intro v' w' h1 h2 _
  refine h v' w' (Lib.hid ?_) (Lib.hid (hb.grown h2 (Nat.le_trans hA hbase) (fun k hk => Nat.le_trans hA (hown.lt k hk).1)))
  rw [List.length_append, hl]
  have : Lib.byteCells (t ++ news) = Lib.byteCells t ++ Lib.byteCells news := by simp [Lib.byteCells]
  rw [this]
  exact h1

/-- A value in a block of the call's own, below which, and it, the world is as it was. -/
def BxB (w : World) (v : Vd) (wr : World) : Prop := Below (w.heap.size + 1) (w.alloc (.cells #[.int .i64 v.k, .int .i64 v.i, .string v.s, .bool v.b] 33)) wr
theorem BxB.new (w : World) (v : Vd) : BxB w v (w.alloc (.cells #[.int .i64 v.k, .int .i64 v.i, .string v.s, .bool v.b] 33)) := Below.refl _ _
theorem BxB.boxed {w wr : World} {v : Vd} (h : BxB w v wr) : Boxed w.heap.size v.k v.i v.s v.b wr := (Boxed.new _ _ _ _ _ _).below h (by omega)
theorem BxB.to {w wr : World} {v : Vd} (h : BxB w v wr) : Below w.heap.size w wr := ((Below.refl w.heap.size w).alloc (Nat.le_refl _) _).trans (h.mono (by omega))
theorem BxB.size {w wr : World} {v : Vd} (h : BxB w v wr) : w.heap.size + 1 ≤ wr.heap.size := by
  have := Below.size h
  simpa using this
end Go.Proofs.YtppplkfidjjodaaDoor
