/- Lists of things that are copied into a block of the call's own and then made anew there, one by one. No program. -/
import Derived.Test.YtojabkhfkbfeaaaGreatDoorTreeMem
import Derived.Laws.IdiomCopy
namespace Go.Proofs.YtojabkhfkbfeaaaGreatDoor
open Go.RowKit
set_option linter.unusedVariables false

theorem setCells_size (b : Nat) : ∀ (vs : List Value) (o : Nat) (w : World), (w.setCells b o vs).heap.size = w.heap.size
  | [], _, _ => rfl
  | v :: r, o, w => by rw [World.setCells, setCells_size b r, World.size_setCell]
theorem setCells_other {b c : Nat} (h : c ≠ b) : ∀ (vs : List Value) (o : Nat) (w : World), (w.setCells b o vs).heap[c]? = w.heap[c]?
  | [], _, _ => rfl
  | v :: r, o, w => by rw [World.setCells, setCells_other h r, heap_setCell_other w _ c v h]
theorem setCells_blk {b : Nat} {T : TypeId} : ∀ (vs : List Value) (o : Nat) (w : World), (∃ cur, w.heap[b]? = some (.cells cur T (0, 0))) → ∃ cur, (w.setCells b o vs).heap[b]? = some (.cells cur T (0, 0))
  | [], _, _, h => h
  | v :: r, o, w, ⟨cur, h⟩ => setCells_blk r (o + 1) _ ⟨_, heap_setCell_same w b o cur T v h⟩
theorem setCells_below {B b : Nat} {a : World} (hb : B ≤ b) : ∀ (vs : List Value) (o : Nat) (w : World), Below B a w → Below B a (w.setCells b o vs)
  | [], _, _, h => h
  | v :: r, o, w, h => setCells_below hb r (o + 1) _ (h.setCell hb v)

/-- A list in memory as the cells of its things. -/
theorem gin_out {α : Type} {R : World → List Value → α → Prop} {T : TypeId} {O : Prop} {k : Nat} {w : World} {a : Option Addr} {len : Nat} {L : List α} (h : GIn R T O k w a len L) (hk : 0 < k) (ad : Addr) (ha : a = some ad) :
    ∃ css, Gs R k w css L ∧ ∀ j u, css.flatten[j]? = some u → w.cell? (ad.add j) = some u := by
  have H : ∀ n, ∃ cs : List Value, ∀ x, L[n]? = some x → cs.length = k ∧ (∀ j v, cs[j]? = some v → w.cell? (ad.add (n * k + j)) = some v) ∧ R w cs x := by
    intro n
    cases hx : L[n]? with
    | none => exact ⟨[], fun x e => by cases e⟩
    | some x =>
      obtain ⟨g, off, cs, e, hg, hl, hc, hr, _⟩ := h.at' n x hx
      rw [ha] at e
      cases e
      refine ⟨cs, fun y e => ?_⟩
      cases e
      refine ⟨hl, fun j v hj => ?_, hr⟩
      have h1 : (⟨g, off, none⟩ : Addr).add (n * k + j) = ⟨g, off + n * k + j, none⟩ := by unfold Addr.add; split <;> simp_all; omega
      rw [h1]
      exact hc j v hj
  obtain ⟨f, hf⟩ : ∃ f : Nat → List Value, ∀ n x, L[n]? = some x → (f n).length = k ∧ (∀ j v, (f n)[j]? = some v → w.cell? (ad.add (n * k + j)) = some v) ∧ R w (f n) x := ⟨fun n => Classical.choose (H n), fun n => Classical.choose_spec (H n)⟩
  have hat : ∀ n x, L[n]? = some x → ((List.range L.length).map f)[n]? = some (f n) := fun n x hx => by
    have hn : n < L.length := (List.getElem?_eq_some_iff.1 hx).1
    rw [List.getElem?_map, List.getElem?_range hn]; rfl
  have hall : ∀ cs ∈ (List.range L.length).map f, cs.length = k := fun cs hc => by
    obtain ⟨n, hn, rfl⟩ := List.mem_map.1 hc
    rw [List.mem_range] at hn
    exact (hf n _ (List.getElem?_eq_getElem hn)).1
  refine ⟨(List.range L.length).map f, ⟨by simp, hall, fun n x hx => ⟨f n, hat n x hx, (hf n x hx).2.2⟩⟩, fun j u hj => ?_⟩
  have hlt := (List.getElem?_eq_some_iff.1 hj).1
  rw [flat_len _ hall] at hlt
  simp only [List.length_map, List.length_range] at hlt
  have hn : j / k < L.length := Nat.div_lt_of_lt_mul (by rw [Nat.mul_comm]; exact hlt)
  have hm : j % k < k := Nat.mod_lt _ hk
  have he : j / k * k + j % k = j := by rw [Nat.mul_comm]; exact Nat.div_add_mod j k
  have h2 := flat_at _ (j / k) (j % k) _ hall (hat (j / k) _ (List.getElem?_eq_getElem hn)) hm
  rw [he, hj] at h2
  have h3 := (hf _ _ (List.getElem?_eq_getElem hn)).2.1 (j % k) u h2.symm
  rwa [he] at h3

/-- Of a copy of things in a block of the call's own, n things have been made anew, the others are as they came. -/
structure Ea (T : TypeId) (k : Nat) (w0 : World) (g : Nat) (css : List (List Value)) (n : Nat) (w : World) : Prop where
  below : Below w0.heap.size w0 w
  own : w0.heap.size ≤ g
  blk : ∃ cur, w.heap[g]? = some (.cells cur T (0, 0))
  todo : ∀ j cs, n ≤ j → css[j]? = some cs → ∀ i v, cs[i]? = some v → w.cell? ⟨g, j * k + i, none⟩ = some v
theorem Ea.lt {T : TypeId} {k : Nat} {w0 : World} {g : Nat} {css : List (List Value)} {n : Nat} {w : World} (h : Ea T k w0 g css n w) : g < w.heap.size := by
  obtain ⟨cur, e⟩ := h.blk
  exact (Array.getElem?_eq_some_iff.1 e).1
theorem Ea.cblk {T : TypeId} {k : Nat} {w0 : World} {g : Nat} {css : List (List Value)} {n : Nat} {w : World} (h : Ea T k w0 g css n w) : CBlk w g T := by
  obtain ⟨cur, e⟩ := h.blk
  exact ⟨cur, _, e⟩
theorem Ea.frozen {T : TypeId} {k : Nat} {w0 : World} {g : Nat} {css : List (List Value)} {n : Nat} {w : World} (h : Ea T k w0 g css n w) (j : Nat) : w.frozen? ⟨g, j, none⟩ = false := by
  obtain ⟨cur, e⟩ := h.blk
  exact frozen_of_row w g j cur T e
theorem Ea.start {w0 w' : World} {T : TypeId} {k n : Nat} {css : List (List Value)} {v : Value} (ho : w'.ownsRow w0.heap.size T k v n css.flatten) (hne : v ≠ .slice none 0 0) (hb : Below w0.heap.size w0 w') (hk : ∀ cs ∈ css, cs.length = k) :
    ∃ g c, v = .slice (some ⟨g, 0, none⟩) n c ∧ n ≤ c ∧ Ea T k w0 g css 0 w' := by
  obtain ⟨hl, hown⟩ := ho
  rcases hown with ⟨rfl, hz⟩ | ⟨g, cap, cur, rfl, h1, hg, hcap, hm, hsz, htk⟩
  · exact absurd rfl hne
  · refine ⟨g, cap, rfl, hcap, hb, h1, ⟨cur, hg⟩, fun j cs _ hj i v hi => ?_⟩
    have hik : i < k := by rw [← hk cs (List.mem_of_getElem? hj)]; exact (List.getElem?_eq_some_iff.1 hi).1
    rw [cell_of_row w' g (j * k + i) cur _ (0, 0) hg]
    have h2 := (flat_at css j i cs hk hj hik).trans hi
    have hlt := (List.getElem?_eq_some_iff.1 h2).1
    rw [hl] at hlt
    rw [← htk, List.getElem?_take, if_pos hlt] at h2
    simpa using h2
theorem Ea.call {T : TypeId} {k : Nat} {w0 : World} {g : Nat} {css : List (List Value)} {n : Nat} {w w' : World} (h : Ea T k w0 g css n w) (hb : Below w.heap.size w w') : Ea T k w0 g css n w' := by
  have hlt := h.lt
  obtain ⟨cur, e⟩ := h.blk
  exact ⟨h.below.trans (hb.mono h.below.size), h.own, ⟨cur, (hb.block g hlt).trans e⟩, fun j cs hj hc i v hi => (hb.cell (p := ⟨g, j * k + i, none⟩) hlt).trans (h.todo j cs hj hc i v hi)⟩
theorem Ea.put {T : TypeId} {k : Nat} {w0 : World} {g : Nat} {css : List (List Value)} {n : Nat} {w : World} (h : Ea T k w0 g css n w) (vs : List Value) (hl : vs.length = k) : Ea T k w0 g css (n + 1) (w.setCells g (n * k) vs) :=
  ⟨setCells_below h.own vs _ _ h.below, h.own, setCells_blk vs _ _ h.blk, fun j cs hj hc i v hi => by
    rw [World.cell?_setCells_out g vs (n * k) w ⟨g, j * k + i, none⟩ (fun _ _ => .inr (by
      show n * k + vs.length ≤ j * k + i
      have := Nat.mul_le_mul_right k hj
      rw [Nat.succ_mul] at this
      omega))]
    exact h.todo j cs (by omega) hc i v hi⟩
/-- One more thing has been made anew. -/
theorem gin_put {α : Type} {R : World → List Value → α → Prop} {T : TypeId} {k : Nat} {w0 : World} {g : Nat} {css : List (List Value)} {n : Nat} {w : World} {M : List α} {y : α} {vs cs : List Value} (h : GIn R T True k w (some ⟨g, 0, none⟩) n (M.take n)) (hE : Ea T k w0 g css n w) (hcs : css[n]? = some cs) (hck : cs.length = k) (hM : M[n]? = some y) (hl : vs.length = k)
    (hr : R (w.setCells g (n * k) vs) vs y) (hR : ∀ cs x, R w cs x → R (w.setCells g (n * k) vs) cs x) (hsm : n + 1 ≤ 9223372036854775807) : GIn R T True k (w.setCells g (n * k) vs) (some ⟨g, 0, none⟩) (n + 1) (M.take (n + 1)) := by
  obtain ⟨hn, e⟩ := List.getElem?_eq_some_iff.1 hM
  have hlt := hE.lt
  have hcb : CBlk (w.setCells g (n * k) vs) g T := by
    obtain ⟨cur, e⟩ := setCells_blk vs (n * k) w hE.blk
    exact ⟨cur, _, e⟩
  have hsz := setCells_size g vs (n * k) w
  refine ⟨by rw [List.length_take]; omega, hsm, fun j x hx => ?_⟩
  rw [List.getElem?_take] at hx
  split at hx
  · by_cases hj : j < n
    · obtain ⟨g', off, ds, e', hg, hl', hc, hr', _⟩ := h.at' j x (by rw [List.getElem?_take, if_pos hj]; exact hx)
      cases e'
      refine ⟨g, 0, ds, rfl, by rw [hsz]; exact hlt, hl', fun i v hi => ?_, hR ds x hr', fun _ => hcb⟩
      have hik : i < k := by rw [← hl']; exact (List.getElem?_eq_some_iff.1 hi).1
      rw [World.cell?_setCells_out g vs (n * k) w _ (fun _ _ => .inl (by
        show 0 + j * k + i < n * k
        have := Nat.mul_le_mul_right k (show j + 1 ≤ n by omega)
        rw [Nat.succ_mul] at this
        omega))]
      exact hc i v hi
    · obtain rfl : j = n := by omega
      rw [hM] at hx
      cases hx
      refine ⟨g, 0, vs, rfl, by rw [hsz]; exact hlt, hl, fun i v hi => ?_, hr, fun _ => hcb⟩
      obtain ⟨hi2, ei⟩ := List.getElem?_eq_some_iff.1 hi
      have := World.cell?_setCells_in g vs (j * k) w (fun i hi => by
        rw [hE.todo j cs (Nat.le_refl _) hcs i (cs[i]'(by omega)) (List.getElem?_eq_getElem _)]; rfl) i hi2
      rw [Nat.zero_add, this, ei]
  · cases hx
/-- Lists in other blocks stay. -/
theorem gin_apart {α : Type} {C : α → List Value} {P : α → Prop} {T U : TypeId} {k : Nat} {w : World} {a : Option Addr} {len : Nat} {L : List α} (h : GIn (RF C P) T True k w a len L) {g : Nat} (hg : CBlk w g U) (hne : T ≠ U) (o : Nat) (vs : List Value) : GIn (RF C P) T True k (w.setCells g o vs) a len L :=
  h.keptF trivial (by rw [setCells_size]; exact Nat.le_refl _) (fun g' hc => setCells_other (hc.ne hg hne) vs o w)
theorem rSy_put {Y : TyT} {w : World} {cs : List Value} {s : Sy} (h : rSy Y True w cs s) {g : Nat} {U : TypeId} (hg : CBlk w g U) (hne : Y.ag ≠ U) (o : Nat) (vs : List Value) : rSy Y True (w.setCells g o vs) cs s := by
  obtain ⟨a, c, e, h1, h2⟩ := h
  exact ⟨a, c, e, gin_apart h1 hg hne o vs, h2⟩
theorem rDe_put {Y : TyT} {w : World} {cs : List Value} {s : De} (h : rDe Y True w cs s) {g : Nat} {U : TypeId} (hg : CBlk w g U) (hne : Y.int ≠ U) (o : Nat) (vs : List Value) : rDe Y True (w.setCells g o vs) cs s := by
  obtain ⟨a, c, e, h1, h2⟩ := h
  exact ⟨a, c, e, gin_apart h1 hg hne o vs, h2⟩
theorem rTs_put {Y : TyT} {w : World} {cs : List Value} {s : Ts} (h : rTs Y True w cs s) {g : Nat} {U : TypeId} (hg : CBlk w g U) (hne : Y.ag ≠ U) (hne2 : Y.ex ≠ U) (hne3 : Y.se ≠ U) (o : Nat) (vs : List Value) : rTs Y True (w.setCells g o vs) cs s := by
  obtain ⟨oa, oc, na, nc, sa, sc, e, h1, h2, h3, h4⟩ := h
  exact ⟨oa, oc, na, nc, sa, sc, e, gin_apart h1 hg hne o vs, gin_apart h2 hg hne2 o vs, gin_apart h3 hg hne3 o vs, h4⟩
theorem gs_one {α : Type} {R : World → List Value → α → Prop} {k : Nat} {w : World} {css : List (List Value)} {L : List α} (h : Gs R k w css L) (hR : ∀ cs x, R w cs x → ∀ u ∈ cs, u.oneCell' = true) : ∀ u ∈ css.flatten, u.oneCell' = true := by
  intro u hu
  obtain ⟨cs, hc, huc⟩ := List.mem_flatten.1 hu
  obtain ⟨n, hn⟩ := List.mem_iff_getElem?.1 hc
  have hlt : n < L.length := by rw [← h.leng]; exact (List.getElem?_eq_some_iff.1 hn).1
  obtain ⟨ds, e, hr⟩ := h.at' n _ (List.getElem?_eq_getElem hlt)
  rw [hn] at e
  cases e
  exact hR cs _ hr u huc
end Go.Proofs.YtojabkhfkbfeaaaGreatDoor
