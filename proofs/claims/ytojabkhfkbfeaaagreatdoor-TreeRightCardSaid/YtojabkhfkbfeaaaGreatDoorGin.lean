/- Lists of things in memory, whatever they are: each of k cells, which stand for it by a relation; and what a call gathers of such things by append. No program. -/
import Derived.Test.YtojabkhfkbfeaaaGreatDoorKp
namespace Go.Proofs.YtojabkhfkbfeaaaGreatDoor
open Go.RowKit
set_option linter.unusedVariables false

/-- A list of things in memory: things of k cells of the type T; O: its blocks are of that type (a call has made it). -/
structure GIn {α : Type} (R : World → List Value → α → Prop) (T : TypeId) (O : Prop) (k : Nat) (w : World) (a : Option Addr) (len : Nat) (L : List α) : Prop where
  leng : L.length = len
  small : len ≤ 9223372036854775807
  at' : ∀ (n : Nat) (x : α), L[n]? = some x → ∃ g off cs, a = some ⟨g, off, none⟩ ∧ g < w.heap.size ∧ cs.length = k ∧ (∀ j v, cs[j]? = some v → w.cell? ⟨g, off + n * k + j, none⟩ = some v) ∧ R w cs x ∧ (O → CBlk w g T)
theorem GIn.nil {α : Type} {R : World → List Value → α → Prop} {T : TypeId} {O : Prop} {k : Nat} {w : World} {a : Option Addr} : GIn R T O k w a 0 [] :=
  ⟨rfl, by omega, fun n x h => by simp at h⟩
theorem GIn.below {α : Type} {R : World → List Value → α → Prop} {T : TypeId} {O : Prop} {k : Nat} {w w' : World} {a : Option Addr} {len : Nat} {L : List α} (h : GIn R T O k w a len L) (hb : Below w.heap.size w w') (hR : ∀ cs x, x ∈ L → R w cs x → R w' cs x) : GIn R T O k w' a len L :=
  ⟨h.leng, h.small, fun n x hx => by
    obtain ⟨g, off, cs, e, hg, hl, hc, hr, ho⟩ := h.at' n x hx
    exact ⟨g, off, cs, e, Nat.lt_of_lt_of_le hg hb.size, hl, fun j v hj => (hb.cell (p := ⟨g, off + n * k + j, none⟩) hg).trans (hc j v hj), hR cs x (List.mem_of_getElem? hx) hr, fun o => (ho o).below hb⟩⟩
theorem GIn.kept {α : Type} {R : World → List Value → α → Prop} {T : TypeId} {O : Prop} {k : Nat} {w w' : World} {a : Option Addr} {len : Nat} {L : List α} (h : GIn R T O k w a len L) (hO : O) (hsz : w.heap.size ≤ w'.heap.size) (hg : ∀ g, CBlk w g T → w'.heap[g]? = w.heap[g]?) (hR : ∀ cs x, x ∈ L → R w cs x → R w' cs x) : GIn R T O k w' a len L :=
  ⟨h.leng, h.small, fun n x hx => by
    obtain ⟨g, off, cs, e, hgl, hl, hc, hr, ho⟩ := h.at' n x hx
    have hb := hg g (ho hO)
    obtain ⟨ds, f, ed⟩ := ho hO
    exact ⟨g, off, cs, e, Nat.lt_of_lt_of_le hgl hsz, hl, fun j v hj => (World.cell?_of_block (a := ⟨g, off + n * k + j, none⟩) hb).trans (hc j v hj), hR cs x (List.mem_of_getElem? hx) hr, fun _ => ⟨ds, f, hb.trans ed⟩⟩⟩
theorem GIn.mono {α : Type} {R : World → List Value → α → Prop} {T : TypeId} {O O' : Prop} {k : Nat} {w : World} {a : Option Addr} {len : Nat} {L : List α} (h : GIn R T O k w a len L) (ho : O' → O) : GIn R T O' k w a len L :=
  ⟨h.leng, h.small, fun n x hx => by
    obtain ⟨g, off, cs, e, hg, hl, hc, hr, h5⟩ := h.at' n x hx
    exact ⟨g, off, cs, e, hg, hl, hc, hr, fun o => h5 (ho o)⟩⟩
/-- Things that are their cells and nothing else. -/
def RF {α : Type} (C : α → List Value) (P : α → Prop) : World → List Value → α → Prop := fun _ cs x => cs = C x ∧ P x
theorem RF.any {α : Type} {C : α → List Value} {P : α → Prop} {w w' : World} {cs : List Value} {x : α} (h : RF C P w cs x) : RF C P w' cs x := h
theorem GIn.flat {α : Type} {C : α → List Value} {P : α → Prop} {T : TypeId} {O : Prop} {k : Nat} {w : World} {a : Option Addr} {len : Nat} {L : List α} (h : GIn (RF C P) T O k w a len L) {n : Nat} {x : α} (hx : L[n]? = some x) :
    ∃ g off, a = some ⟨g, off, none⟩ ∧ g < w.heap.size ∧ (∀ j v, (C x)[j]? = some v → w.cell? ⟨g, off + n * k + j, none⟩ = some v) ∧ P x := by
  obtain ⟨g, off, cs, e, hg, hl, hc, ⟨rfl, hp⟩, _⟩ := h.at' n x hx
  exact ⟨g, off, e, hg, hc, hp⟩
theorem GIn.take {α : Type} {R : World → List Value → α → Prop} {T : TypeId} {O : Prop} {k : Nat} {w : World} {a : Option Addr} {len : Nat} {L : List α} (h : GIn R T O k w a len L) {n : Nat} (hn : n ≤ len) : GIn R T O k w a n (L.take n) :=
  ⟨by rw [List.length_take, h.leng]; omega, by have := h.small; omega, fun j x hj => by
    rw [List.getElem?_take] at hj
    split at hj
    · exact h.at' j x hj
    · cases hj⟩

/-- The cells of things that a call gathers stand for these. -/
structure Gs {α : Type} (R : World → List Value → α → Prop) (k : Nat) (w : World) (css : List (List Value)) (L : List α) : Prop where
  leng : css.length = L.length
  all : ∀ cs ∈ css, cs.length = k
  at' : ∀ (n : Nat) (x : α), L[n]? = some x → ∃ cs, css[n]? = some cs ∧ R w cs x
theorem Gs.nil {α : Type} {R : World → List Value → α → Prop} {k : Nat} {w : World} : Gs R k w [] ([] : List α) := ⟨rfl, fun cs h => by simp at h, fun n x h => by simp at h⟩
theorem Gs.snoc {α : Type} {R : World → List Value → α → Prop} {k : Nat} {w : World} {css : List (List Value)} {L : List α} (h : Gs R k w css L) {cs : List Value} {x : α} (hl : cs.length = k) (hr : R w cs x) : Gs R k w (css ++ [cs]) (L ++ [x]) :=
  ⟨by simp [h.leng], fun c hc => by
    rw [List.mem_append, List.mem_singleton] at hc
    rcases hc with hc | rfl
    · exact h.all c hc
    · exact hl, fun n y hy => by
    by_cases hn : n < L.length
    · rw [List.getElem?_append_left hn] at hy
      obtain ⟨c, e, r⟩ := h.at' n y hy
      exact ⟨c, by rw [List.getElem?_append_left (by rw [h.leng]; exact hn)]; exact e, r⟩
    · have hn2 : n = L.length := by
        have := (List.getElem?_eq_some_iff.1 hy).1
        simp at this
        omega
      subst hn2
      rw [List.getElem?_append_right (Nat.le_refl _), Nat.sub_self] at hy
      simp at hy
      subst hy
      exact ⟨cs, by rw [List.getElem?_append_right (by rw [h.leng]; exact Nat.le_refl _), h.leng, Nat.sub_self]; rfl, hr⟩⟩
theorem Gs.kept {α : Type} {R : World → List Value → α → Prop} {k : Nat} {w w' : World} {css : List (List Value)} {L : List α} (h : Gs R k w css L) (hR : ∀ cs x, x ∈ L → R w cs x → R w' cs x) : Gs R k w' css L :=
  ⟨h.leng, h.all, fun n x hx => by
    obtain ⟨c, e, r⟩ := h.at' n x hx
    exact ⟨c, e, hR c x (List.mem_of_getElem? hx) r⟩⟩
theorem flat_len {k : Nat} : ∀ (css : List (List Value)), (∀ cs ∈ css, cs.length = k) → css.flatten.length = css.length * k
  | [], _ => by simp
  | c :: css, h => by
    rw [List.flatten_cons, List.length_append, flat_len css (fun d hd => h d (by simp [hd])), h c (by simp), List.length_cons, Nat.succ_mul]
    omega
theorem flat_at {k : Nat} : ∀ (css : List (List Value)) (n j : Nat) (cs : List Value), (∀ c ∈ css, c.length = k) → css[n]? = some cs → j < k → css.flatten[n * k + j]? = cs[j]?
  | [], n, j, cs, _, h, _ => by simp at h
  | c :: css, 0, j, cs, ha, h, hj => by
    simp at h
    subst h
    rw [List.flatten_cons, Nat.zero_mul, Nat.zero_add, List.getElem?_append_left (by rw [ha c (by simp)]; exact hj)]
  | c :: css, n + 1, j, cs, ha, h, hj => by
    have h2 : css[n]? = some cs := by simpa using h
    have hc := ha c (by simp)
    rw [List.flatten_cons, List.getElem?_append_right (by rw [hc, Nat.succ_mul]; omega), hc, show (n + 1) * k + j - k = n * k + j by rw [Nat.succ_mul]; omega]
    exact flat_at css n j cs (fun d hd => ha d (by simp [hd])) h2 hj
theorem own_gin {α : Type} {R : World → List Value → α → Prop} {B : Nat} {T : TypeId} {k : Nat} {o : Value} {L : List α} {css : List (List Value)} {w : World} (h : w.ownsRow B T k o L.length css.flatten) (hv : Gs R k w css L) :
    ∃ a cap, o = .slice a L.length cap ∧ GIn R T True k w a L.length L ∧ L.length ≤ cap ∧ cap ≤ 9223372036854775807 := by
  have h0 := h
  obtain ⟨hl, hown⟩ := h
  rcases hown with ⟨rfl, hz⟩ | ⟨g, cap, cur, rfl, h1, hg, hcap, hm, hsz, htk⟩
  · have hnil : L = [] := List.length_eq_zero_iff.1 hz
    subst hnil
    exact ⟨none, 0, rfl, GIn.nil, by simp, by omega⟩
  · refine ⟨_, cap, rfl, ⟨rfl, by unfold maxLen at hm; omega, fun n x hx => ?_⟩, by unfold maxLen at hm; omega, by unfold maxLen at hm; omega⟩
    obtain ⟨cs, e, r⟩ := hv.at' n x hx
    have hk := hv.all cs (List.mem_of_getElem? e)
    refine ⟨g, 0, cs, rfl, (Array.getElem?_eq_some_iff.1 hg).1, hk, fun j v hj => ?_, r, fun _ => CBlk.row h0 rfl⟩
    have hjk : j < k := by rw [← hk]; exact (List.getElem?_eq_some_iff.1 hj).1
    have hnl : n < L.length := (List.getElem?_eq_some_iff.1 hx).1
    rw [Nat.zero_add, cell_of_row w g (n * k + j) cur _ (0, 0) hg]
    have h2 := (flat_at css n j cs hv.all e hjk).trans hj
    have hlt : n * k + j < L.length * k := by
      have : (n + 1) * k ≤ L.length * k := Nat.mul_le_mul_right k hnl
      rw [Nat.succ_mul] at this
      omega
    rw [← htk, List.getElem?_take, if_pos hlt] at h2
    simpa using h2
/-- The cells of one thing that has just been made. -/
theorem new_cells (w : World) (cs : List Value) (T : TypeId) : ∀ j u, cs[j]? = some u → (w.alloc (.cells cs.toArray T)).cell? ((⟨w.heap.size, 0, none⟩ : Addr).add j) = some u := by
  intro j u hj
  have hadd : (⟨w.heap.size, 0, none⟩ : Addr).add j = ⟨w.heap.size, j, none⟩ := by unfold Addr.add; split <;> simp_all
  rw [hadd, World.cell?_alloc_at (hn := rfl)]
  simpa using hj
end Go.Proofs.YtojabkhfkbfeaaaGreatDoor
