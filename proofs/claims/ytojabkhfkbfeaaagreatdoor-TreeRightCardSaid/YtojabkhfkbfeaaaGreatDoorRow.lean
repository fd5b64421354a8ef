/- Rows that a call gathers by append, as lists of things; and worlds that differ in blocks of one type alone. No program. -/
import Derived.Test.YtojabkhfkbfeaaaGreatDoorGinPut
import Derived.Maps.AppendAt
import Derived.OwnWalk
namespace Go.Proofs.YtojabkhfkbfeaaaGreatDoor
open Go.RowKit
set_option linter.unusedVariables false

/-- All blocks but those of the type U are as they were. -/
def KU (U : TypeId) (w w' : World) : Prop := w.heap.size ≤ w'.heap.size ∧ ∀ g, g < w.heap.size → ¬ CBlk w g U → w'.heap[g]? = w.heap[g]?
theorem KU.of_below {U : TypeId} {w w' : World} (h : Below w.heap.size w w') : KU U w w' := ⟨h.size, fun g hg _ => h.block g hg⟩
theorem KU.trans {U : TypeId} {w w1 w2 : World} (h : KU U w w1) (k : KU U w1 w2) : KU U w w2 :=
  ⟨Nat.le_trans h.1 k.1, fun g hg hn => by
    have e := h.2 g hg hn
    rw [k.2 g (Nat.lt_of_lt_of_le hg h.1) (fun ⟨cs, f, c⟩ => hn ⟨cs, f, e.symm.trans c⟩), e]⟩
theorem KU.grown {U : TypeId} {B k n : Nat} {w w' : World} {v : Value} {xs : List Value} (ho : w.ownsRow B U k v n xs) (hg : w.grownBy w' v.ownBlock) : KU U w w' :=
  ⟨hg.size, fun g hl hn => hg.block g hl (fun e => hn (CBlk.row ho e.symm))⟩
theorem KU.set {U : TypeId} {w : World} {b : Nat} (hb : CBlk w b U) (o : Nat) (v : Value) : KU U w (w.setCell ⟨b, o, none⟩ v) :=
  ⟨by simp, fun g _ hn => heap_setCell_other w ⟨b, o, none⟩ g v (fun e => hn (by rw [show g = b from e]; exact hb))⟩
theorem KU.kept {U T : TypeId} {w w' : World} (h : KU U w w') {g : Nat} (hc : CBlk w g T) (hne : T ≠ U) : w'.heap[g]? = w.heap[g]? :=
  h.2 g hc.lt (fun hu => hc.ne hu hne rfl)
theorem KU.obj {U T : TypeId} {w w' : World} (h : KU U w w') {g : Nat} {A : Array Value} {f : Nat × Nat} (hc : w.heap[g]? = some (.cells A T f)) (hne : T ≠ U) : w'.heap[g]? = some (.cells A T f) :=
  (h.kept ⟨A, f, hc⟩ hne).trans hc
theorem GIn.ku {α : Type} {C : α → List Value} {P : α → Prop} {T U : TypeId} {k : Nat} {w w' : World} {a : Option Addr} {len : Nat} {L : List α} (h : GIn (RF C P) T True k w a len L) (hk : KU U w w') (hne : T ≠ U) : GIn (RF C P) T True k w' a len L :=
  h.keptF trivial hk.1 (fun g hc => hk.kept hc hne)
theorem rSy_ku {Y : TyT} {U : TypeId} {w w' : World} {cs : List Value} {s : Sy} (h : rSy Y True w cs s) (hk : KU U w w') (hne : Y.ag ≠ U) : rSy Y True w' cs s := by
  obtain ⟨a, c, e, h1, h2⟩ := h
  exact ⟨a, c, e, h1.ku hk hne, h2⟩
theorem rDe_ku {Y : TyT} {U : TypeId} {w w' : World} {cs : List Value} {s : De} (h : rDe Y True w cs s) (hk : KU U w w') (hne : Y.int ≠ U) : rDe Y True w' cs s := by
  obtain ⟨a, c, e, h1, h2⟩ := h
  exact ⟨a, c, e, h1.ku hk hne, h2⟩
theorem rTs_ku {Y : TyT} {U : TypeId} {w w' : World} {cs : List Value} {s : Ts} (h : rTs Y True w cs s) (hk : KU U w w') (hne : Y.ag ≠ U) (hne2 : Y.ex ≠ U) (hne3 : Y.se ≠ U) : rTs Y True w' cs s := by
  obtain ⟨oa, oc, na, nc, sa, sc, e, h1, h2, h3, h4⟩ := h
  exact ⟨oa, oc, na, nc, sa, sc, e, h1.ku hk hne, h2.ku hk hne2, h3.ku hk hne3, h4⟩

/-- A row of the call's own that stands for a list of things. -/
def Row {α : Type} (R : World → List Value → α → Prop) (T : TypeId) (k B : Nat) (w : World) (v : Value) (L : List α) : Prop :=
  ∃ css, w.ownsRow B T k v L.length css.flatten ∧ Gs R k w css L
theorem Row.nil {α : Type} {R : World → List Value → α → Prop} {T : TypeId} {k B : Nat} {w : World} : Row R T k B w (.slice none 0 0) ([] : List α) :=
  ⟨[], World.ownsRow_nil _ _ _ _, Gs.nil⟩
theorem ownsRow_heap {w w' : World} {B : Nat} {T : TypeId} {k n : Nat} {v : Value} {xs : List Value} (h : w.ownsRow B T k v n xs) (hk : ∀ g, CBlk w g T → w'.heap[g]? = w.heap[g]?) : w'.ownsRow B T k v n xs := by
  obtain ⟨hl, hown⟩ := h
  refine ⟨hl, ?_⟩
  rcases hown with ⟨rfl, hz⟩ | ⟨g, cap, cur, rfl, h1, hg, hcap, hm, hsz, htk⟩
  · exact .inl ⟨rfl, hz⟩
  · exact .inr ⟨g, cap, cur, rfl, h1, (hk g ⟨cur, _, hg⟩).trans hg, hcap, hm, hsz, htk⟩
theorem Row.below {α : Type} {R : World → List Value → α → Prop} {T : TypeId} {k B : Nat} {w w' : World} {v : Value} {L : List α} (h : Row R T k B w v L) (hb : Below w.heap.size w w') (hR : ∀ cs x, x ∈ L → R w cs x → R w' cs x) : Row R T k B w' v L := by
  obtain ⟨css, ho, hs⟩ := h
  exact ⟨css, ownsRow_heap ho (fun g hc => hb.block g hc.lt), hs.kept hR⟩
theorem Row.ku {α : Type} {R : World → List Value → α → Prop} {T U : TypeId} {k B : Nat} {w w' : World} {v : Value} {L : List α} (h : Row R T k B w v L) (hk : KU U w w') (hne : T ≠ U) (hR : ∀ cs x, x ∈ L → R w cs x → R w' cs x) : Row R T k B w' v L := by
  obtain ⟨css, ho, hs⟩ := h
  exact ⟨css, ownsRow_heap ho (fun g hc => hk.kept hc hne), hs.kept hR⟩
theorem Row.slice {α : Type} {R : World → List Value → α → Prop} {T : TypeId} {k B : Nat} {w : World} {v : Value} {L : List α} (h : Row R T k B w v L) : ∃ a c, v = .slice a L.length c := by
  obtain ⟨css, ho, _⟩ := h
  exact cs_own ho
theorem Row.gin {α : Type} {R : World → List Value → α → Prop} {T : TypeId} {k B : Nat} {w : World} {a : Option Addr} {n c : Nat} {L : List α} (h : Row R T k B w (.slice a n c) L) : n = L.length ∧ GIn R T True k w a L.length L := by
  obtain ⟨css, ho, hs⟩ := h
  obtain ⟨a', c', e, hg, _⟩ := own_gin ho hs
  cases e
  exact ⟨rfl, hg⟩
/-- One more thing has been appended. -/
theorem Row.snoc {α : Type} {R : World → List Value → α → Prop} {T : TypeId} {k B : Nat} {w : World} {v : Value} {L : List α} {css : List (List Value)} {cs : List Value} {x : α} (ho : w.ownsRow B T k v (L.length + 1) (css.flatten ++ cs)) (hs : Gs R k w css L) (hl : cs.length = k) (hr : R w cs x) : Row R T k B w v (L ++ [x]) :=
  ⟨css ++ [cs], by rw [List.length_append, List.length_singleton, List.flatten_append]; simpa using ho, hs.snoc hl hr⟩
theorem map_snoc {α β : Type} {f : α → β} {L : List α} {n : Nat} {x : α} (h : L[n]? = some x) : (L.take (n + 1)).map f = (L.take n).map f ++ [f x] := by
  obtain ⟨hn, e⟩ := List.getElem?_eq_some_iff.1 h
  rw [List.take_succ_eq_append_getElem hn, e, List.map_append]; rfl
/-- Things out of a list that comes in, whether it has a place or none. -/
theorem ints_out {T : TypeId} {O : Prop} {w : World} {A : Option Addr} {len : Nat} {L : List Int} (h : GIn rInt T O 1 w A len L) :
    ∃ css, Gs rInt 1 w css L ∧ css.flatten.length = len * 1 ∧ (∀ u ∈ css.flatten, u.oneCell' = true) ∧ (A = none → len = 0) ∧ ∀ ad, A = some ad → ∀ j u, css.flatten[j]? = some u → w.cell? (ad.add j) = some u := by
  cases A with
  | none =>
    have hL : L = [] := by
      cases L with
      | nil => rfl
      | cons x r =>
        obtain ⟨g, off, cs, e, _⟩ := h.at' 0 x rfl
        cases e
    subst hL
    have h0 : len = 0 := h.leng.symm
    subst h0
    exact ⟨[], Gs.nil, rfl, (fun u hu => by simp at hu), (fun _ => rfl), (fun ad e => by cases e)⟩
  | some ad =>
    obtain ⟨css, hgs, hcs⟩ := gin_out h (by decide) ad rfl
    refine ⟨css, hgs, by rw [flat_len _ hgs.all, hgs.leng, h.leng], gs_one hgs (fun cs x hr u hu => by
      rw [hr.1, List.mem_singleton] at hu
      rw [hu]; rfl), (fun e => by cases e), (fun ad' e => by cases e; exact hcs)⟩
section
variable {P : Program} {w : World}
/-- An append of a list that has a place or none to a row of the call's own. -/
theorem wp_append_opt {o : Oper} {a : Act} {K : Act → World → Prop} {Q : Exit → Act → World → Prop} (s x : Operand) (t : TypeId)
    (ho : o.op = .call { callee := .builtin .append, args := #[s, x], argTypes := #[t, t] })
    (base : Nat) (e : TypeId) (i : TypeInfo) (z : Value) (size bytes : Nat) (ht : P.underlying t = some (.slice e)) (hi : P.info? e = some i) (hz : i.zero = some z)
    (hsize : i.size = size) (hby : i.bytes = bytes) (hzs : z.cells.size = size) (hsz : 0 < size)
    (g : Nat) (hs : a.eval s = .slice (some ⟨g, 0, none⟩) 0 0) (hown : w.ownsRow base e size (.slice (some ⟨g, 0, none⟩) 0 0) 0 [])
    (A : Option Addr) (m c : Nat) (news : List Value) (hx : a.eval x = .slice A m c) (h0 : A = none → m = 0) (hl : news.length = m * size)
    (hnews : ∀ ad, A = some ad → ∀ j u, news[j]? = some u → w.cell? (ad.add j) = some u) (h1 : ∀ u ∈ news, u.oneCell' = true)
    (h63 : 0 + m ≤ maxLen) (hbytes : (0 + m) * bytes ≤ 140737488355328) (hbase : base ≤ w.heap.size)
    (h : ∀ v' w', w'.ownsRow base e size v' (0 + m) ([] ++ news) → w.grownBy w' (Value.slice (some ⟨g, 0, none⟩) 0 0).ownBlock → K (a.put o.dst v') w') : o.wp P a w K Q := by
  cases A with
  | some ad => exact wp_append_own w s x t ho base e i z size bytes ht hi hz hsize hby hzs hsz _ 0 [] hs hown ad m c news hx hl (hnews ad rfl) h1 h63 hbytes hbase (fun v' w' k1 k2 _ => h v' w' k1 k2)
  | none =>
    obtain rfl := h0 rfl
    obtain rfl : news = [] := List.eq_nil_of_length_eq_zero (by simpa using hl)
    have hrun : (Builtin.append_ #[t, t] o.type #[.slice (some ⟨g, 0, none⟩) 0 0, .slice none 0 c]).run P w = .ok (.slice (some ⟨g, 0, none⟩) 0 0) w := by
      simp [Builtin.append_, run_underlying ht, sizeOf, typeInfo, hi, Builtin.lenOf, Builtin.firstCells, storeCells]
    unfold Oper.wp execOp
    simp only [ho, resolve, invoke, builtin, Sem.run_bind, Sem.run_pure, Result.andThen_ok, List.map_toArray, List.map_cons, List.map_nil, hs, hx, hrun]
    exact h _ w hown (World.grownBy.refl w _)
end
end Go.Proofs.YtojabkhfkbfeaaaGreatDoor
