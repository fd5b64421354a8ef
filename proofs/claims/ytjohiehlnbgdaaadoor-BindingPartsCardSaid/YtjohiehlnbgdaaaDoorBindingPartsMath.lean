/- Small facts for the walk of the law BindingParts. -/
import Derived.Test.YtjohiehlnbgdaaaDoorSlotKey
import Derived.Test.YtjohiehlnbgdaaaDoorSlotUnder1
import Derived.Test.YtjohiehlnbgdaaaDoorSlotVars
import Derived.Test.YtjohiehlnbgdaaaDoorLowKey
import Derived.Maps.AppendAt
namespace Go.Proofs.YtjohiehlnbgdaaaDoor
open Go.RowKit
set_option linter.unusedVariables false

theorem owned_at {B : Nat} {v : Value} {n : Nat} {xs : List Value} {w : World} {t : TypeId} {k : Nat} (h : w.ownsRow B t k v n xs) (hn : 0 < n) : ∃ g cap, v = .slice (some ⟨g, 0, none⟩) n cap := by
  obtain ⟨_, hown⟩ := h
  rcases hown with ⟨rfl, rfl⟩ | ⟨g, cap, cur, rfl, _⟩
  · omega
  · exact ⟨g, cap, rfl⟩
theorem own_slice3 {W : World} {base : Nat} {e : TypeId} {size : Nat} {v : Value} {k : Nat} {xs : List Value} (h : W.ownsRow base e size v k xs) : ∃ a l c, v = .slice a l c := by
  obtain ⟨a, c, e⟩ := own_slice h
  exact ⟨a, k, c, e⟩
theorem byte_of {x : Int} (h : 0 ≤ x ∧ x ≤ 7) : IntKind.u8.wrap (x + 16) = ((UInt8.ofNat (16 + x.toNat)).toNat : Int) := by
  rw [UInt8.toNat_ofNat']
  simp only [IntKind.wrap, IntKind.bits, IntKind.signed]
  simp
  omega
theorem own_made0 (W : World) (B : Nat) (hB : B ≤ W.heap.size) : (W.alloc (.cells #[] 36)).ownsRow B 36 5 (.slice (some ⟨W.heap.size, 0, none⟩) 0 0) 0 [] :=
  World.ownsRow_made (base := B) (e := 36) (size := 5) W #[] 0 hB (by unfold maxLen; omega) rfl
theorem sin_hi {w : World} {g off la ca k : Nat} {L : List Sd} (h : SIn w (some ⟨g, off, none⟩) la L) (hk : k ≤ la) (hc : la ≤ ca) : ∀ j u, (cellsS (L.drop k))[j]? = some u → w.cell? ((hiAd g off ca k).add j) = some u := by
  intro j u hj
  have hs := h.hi hk hc
  unfold hiAd at hs ⊢
  by_cases e : ca = k
  · rw [if_pos e] at hs ⊢; exact sin_add hs j u hj
  · rw [if_neg e] at hs ⊢; exact sin_add hs j u hj
theorem out_rows {w : World} {B : Nat} {v : Value} {L : List Sd} {la k : Nat} (hl : L.length = la) (hk : k < la) (h : w.ownsRow B 36 5 v (k + (la - (k + 1))) (cellsS (L.take k) ++ cellsS (L.drop (k + 1)))) :
    w.ownsRow B 36 5 v (outL L k).length (cellsS (outL L k)) := by
  rw [outL_len (by rw [hl]; exact hk), outL_eq, cellsS_app, hl, show la - 1 = k + (la - (k + 1)) by omega]
  exact h
theorem mem_drop_yes {V : List Int} {n : Nat} {x : Int} (h : n < V.length) (e : V.getD n 0 = x) : x ∈ V := by
  rw [← e]
  simp [List.getD, h]
theorem mem_drop_no {V : List Int} {n : Nat} {x : Int} (h : n < V.length) (e : V.getD n 0 ≠ x) (H : x ∈ V ↔ x ∈ V.drop n) : x ∈ V ↔ x ∈ V.drop (n + 1) := by
  rw [H, dropI_at V n h, List.mem_cons]
  exact ⟨fun k => k.elim (fun k => absurd k.symm e) id, .inr⟩
theorem SIn.grown0 {w w' : World} {row : Option Nat} {a : Option Addr} {len : Nat} {L : List Sd} (h : SIn w a len L) (hg : w.grownBy w' row) (hne : 0 < len → ∀ g off, a = some ⟨g, off, none⟩ → some g ≠ row) : SIn w' a len L := by
  by_cases h0 : 0 < len
  · exact h.grown hg (hne h0)
  · exact ⟨h.leng, h.small, fun k => absurd k h0, h.fits⟩
theorem LIn.grown {w w' : World} {row : Option Nat} {a : Option Addr} {len : Nat} {LL : List (List Sd)} {vs : List Value} (h : LIn w a len LL vs) (hg : w.grownBy w' row) (hn : NotAt row a len vs) : LIn w' a len LL vs :=
  ⟨⟨h.vals.leng, fun n hl => by
    obtain ⟨b, c, e, hs⟩ := h.vals.at' n hl
    exact ⟨b, c, e, hs.grown0 hg (fun h0 g off e2 => by subst e2; exact hn.2 _ (List.mem_of_getElem? e) g off _ _ rfl h0)⟩⟩, h.leng, h.small, fun h0 => by
    obtain ⟨g, off, e, hlt, hr⟩ := h.row h0
    exact ⟨g, off, e, Nat.lt_of_lt_of_le hlt hg.size, fun j u hj => (World.cell?_of_block (a := ⟨g, off + j, none⟩) (hg.block g hlt (hn.1 h0 g off e))).trans (hr j u hj)⟩⟩
theorem NotAt.fresh {w : World} {a : Option Addr} {len : Nat} {LL : List (List Sd)} {vs : List Value} (h : LIn w a len LL vs) : NotAt (some w.heap.size) a len vs := by
  refine ⟨fun h0 g off e k => ?_, fun u hu g off l c e h0 k => ?_⟩
  · obtain ⟨g', off', e', hlt, _⟩ := h.row h0
    rw [e] at e'
    cases e'
    cases k
    omega
  · obtain ⟨n, hn, e2⟩ := List.getElem_of_mem hu
    obtain ⟨b, c', e3, hs⟩ := h.vals.at' n (by rw [← h.vals.leng]; exact hn)
    rw [List.getElem?_eq_getElem hn, e2, e] at e3
    simp only [Option.some.injEq, Value.slice.injEq] at e3
    obtain ⟨rfl, rfl, rfl⟩ := e3
    obtain ⟨g', off', e', hlt, _⟩ := hs.row h0
    cases e'
    cases k
    omega
theorem NotAt.next {w : World} {a : Option Addr} {len : Nat} {LL : List (List Sd)} {vs : List Value} {v v' : Value} (hn : NotAt v.ownBlock a len vs) (h : LIn w a len LL vs) (e : v'.ownBlock = v.ownBlock ∨ v'.ownBlock = some w.heap.size) : NotAt v'.ownBlock a len vs := by
  rcases e with e | e <;> rw [e]
  · exact hn
  · exact NotAt.fresh h
theorem NotAt.put {w : World} {a b a' : Option Addr} {len lb len' : Nat} {vs vs' : List Value} {B : Nat} {t : TypeId} {k n : Nat} {v : Value} {xs : List Value} (hn : NotAt v.ownBlock a len vs) (ho : w.ownsRow B t k v n xs) (hlt : ∀ r, v.ownBlock = some r → r < w.heap.size)
    (hb : 0 < lb → ∀ g off, b = some ⟨g, off, none⟩ → w.heap.size ≤ g) {W : World} (hW : w.heap.size ≤ W.heap.size)
    (h : ∀ r, r < W.heap.size → NotAt (some r) a len vs → (0 < lb → ∀ g off, b = some ⟨g, off, none⟩ → some g ≠ some r) → NotAt (some r) a' len' vs') : NotAt v.ownBlock a' len' vs' := by
  cases e : v.ownBlock with
  | none => exact NotAt.of_none _ _ _
  | some r =>
    rw [e] at hn
    have h1 := hlt r e
    refine h r (by omega) hn (fun h0 g off e2 k => ?_)
    have h2 := hb h0 g off e2
    cases k
    omega
theorem row_lt {w : World} {B : Nat} {t : TypeId} {k n : Nat} {v : Value} {xs : List Value} (ho : w.ownsRow B t k v n xs) : ∀ r, v.ownBlock = some r → r < w.heap.size := fun r e => (ho.lt r e).2
theorem rows_apart {w w' : World} {B B' : Nat} {e e' : TypeId} {s s' n m : Nat} {v v' : Value} {xs ys : List Value} (h1 : w.ownsRow B e s v n xs) (h2 : w.ownsRow B' e' s' v' m ys) (hne : e ≠ e') (hg : w.grownBy w' v'.ownBlock) : w'.ownsRow B e s v n xs := by
  rcases h1.2 with ⟨rfl, _⟩ | ⟨g, cap, cur, rfl, _, hgb, _⟩
  · exact h1.kept hg (.inl rfl)
  · refine h1.kept hg (.inr fun k => ?_)
    rcases h2.2 with ⟨rfl, _⟩ | ⟨g', cap', cur', rfl, _, hgb', _⟩
    · cases k
    · have k2 : g = g' := Option.some.inj k
      subst k2
      rw [hgb] at hgb'
      simp only [Option.some.injEq, Obj.cells.injEq] at hgb'
      exact hne hgb'.2.1
theorem wpList_append_bytesK {w : World} {ops : Array Oper} {rest : List Oper} {o : Oper} {a : Act} {Q : Exit → Act → World → Prop} (hgd : o.guard = none) (s x : Operand)
    (ho : o.op = .call { callee := .builtin .append, args := #[s, x], argTypes := #[32, 32] }) (B : Nat) (v : Value) (t : List UInt8) (hs : a.eval s = v) (hown : w.ownsRow B 5 1 v t.length (Lib.byteCells t))
    (ad : Addr) (m c : Nat) (news : List UInt8) (hx : a.eval x = .slice (some ad) m c) (hl : news.length = m) (hnews : ∀ j u, (Lib.byteCells news)[j]? = some u → w.cell? (ad.add j) = some u) (hsz : t.length + m ≤ 1000000000) (hbase : B ≤ w.heap.size) (r : List UInt8) (hr : r = t ++ news)
    (h : ∀ v' w', Hid (w'.ownsRow B 5 1 v' r.length (Lib.byteCells r)) → Hid (w.grownBy w' v.ownBlock) → Hid (v'.ownBlock = v.ownBlock ∨ v'.ownBlock = some w.heap.size) → wpList Tryd.prog ops Q rest (a.put o.dst v') w') : wpList Tryd.prog ops Q (o :: rest) a w := by
  subst hr
  obtain ⟨i0, hi, hz0, hz1, hz2⟩ := info_parts infoU8
  refine wpList_append_own_at _ hgd s x 32 ho B 5 i0 (.int .u8 0) 1 1 Tryd.underlying32 hi hz0 hz1 hz2 rfl (by decide) v t.length (Lib.byteCells t) hs hown ad m c (Lib.byteCells news) hx (by rw [Lib.byteCells_length, hl, Nat.mul_one]) hnews (byteCells_one _) (by unfold maxLen; omega) (by omega) hbase ?_
  intro v' w' h1 h2 _ h4
  refine h v' w' (Lib.hid ?_) (Lib.hid h2) (Lib.hid h4)
  rw [List.length_append, hl]
  have : Lib.byteCells (t ++ news) = Lib.byteCells t ++ Lib.byteCells news := by simp [Lib.byteCells]
  rw [this]
  exact h1
end Go.Proofs.YtjohiehlnbgdaaaDoor
