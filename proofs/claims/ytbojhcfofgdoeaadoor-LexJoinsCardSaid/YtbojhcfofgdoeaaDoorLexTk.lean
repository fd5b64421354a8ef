/- Lists of tokens in memory; one step of reading, as the cuts tell it. -/
import Derived.Test.YtbojhcfofgdoeaaDoorLexCut
namespace Go.Proofs.YtbojhcfofgdoeaaDoor
open Go.RowKit
set_option linter.unusedVariables false

/-- A token's cells. -/
def tkC (x : Tk) : List Value := [.int .i64 (x.k : Nat), .string ⟨x.t.toArray⟩, .int .i64 (x.line : Nat), .int .i64 (x.col : Nat)]
def tkCs : List Tk → List Value
  | [] => []
  | x :: M => tkC x ++ tkCs M
theorem tkCs_snoc : ∀ (M : List Tk) (x : Tk), tkCs (M ++ [x]) = tkCs M ++ tkC x
  | [], x => by simp [tkCs]
  | y :: M, x => by rw [List.cons_append, tkCs, tkCs_snoc M x, tkCs, List.append_assoc]
theorem tkCs_len : ∀ (M : List Tk), (tkCs M).length = M.length * 4
  | [] => rfl
  | y :: M => by rw [tkCs, List.length_append, tkCs_len M, List.length_cons]; simp [tkC]; omega
theorem tkCs_at : ∀ (M : List Tk) (n j : Nat) (x : Tk), M[n]? = some x → j < 4 → (tkCs M)[n * 4 + j]? = (tkC x)[j]?
  | [], n, j, x, h, _ => by simp at h
  | y :: M, 0, j, x, h, hj => by
    simp at h
    subst h
    rw [tkCs, Nat.zero_mul, Nat.zero_add, List.getElem?_append_left (by simpa [tkC] using hj)]
  | y :: M, n + 1, j, x, h, hj => by
    have h2 : M[n]? = some x := by simpa using h
    have e : (tkC y).length = 4 := rfl
    rw [tkCs, List.getElem?_append_right (by rw [e]; omega), e, show (n + 1) * 4 + j - 4 = n * 4 + j by omega]
    exact tkCs_at M n j x h2 hj
/-- A list of tokens in memory. -/
structure TkIn (w : World) (T : TypeId) (a : Option Addr) (len : Nat) (M : List Tk) : Prop where
  leng : M.length = len
  small : len ≤ 9223372036854775807
  at' : ∀ n x, M[n]? = some x → ∃ g off, a = some ⟨g, off, none⟩ ∧ CBlk w g T ∧ w.cell? ⟨g, off + n * 4, none⟩ = some (.int .i64 (x.k : Nat)) ∧ w.cell? ⟨g, off + n * 4 + 1, none⟩ = some (.string ⟨x.t.toArray⟩) ∧ w.cell? ⟨g, off + n * 4 + 2, none⟩ = some (.int .i64 (x.line : Nat)) ∧ w.cell? ⟨g, off + n * 4 + 3, none⟩ = some (.int .i64 (x.col : Nat))
theorem TkIn.kept {w w' : World} {T : TypeId} {a : Option Addr} {len : Nat} {M : List Tk} (h : TkIn w T a len M) (hg : ∀ g, CBlk w g T → w'.heap[g]? = w.heap[g]?) : TkIn w' T a len M :=
  ⟨h.leng, h.small, fun n x hn => by
    obtain ⟨g, off, e, hb, h1, h2, h3, h4⟩ := h.at' n x hn
    have key : ∀ o, w'.cell? ⟨g, o, none⟩ = w.cell? ⟨g, o, none⟩ := fun o => World.cell?_of_block (a := ⟨g, o, none⟩) (hg g hb)
    obtain ⟨cs, f, eb⟩ := hb
    exact ⟨g, off, e, ⟨cs, f, (hg g ⟨cs, f, eb⟩).trans eb⟩, (key _).trans h1, (key _).trans h2, (key _).trans h3, (key _).trans h4⟩⟩
theorem TkIn.below {w w' : World} {T : TypeId} {a : Option Addr} {len : Nat} {M : List Tk} (h : TkIn w T a len M) (hb : Below w.heap.size w w') : TkIn w' T a len M :=
  h.kept (fun g k => hb.block g k.lt)
theorem own_tkin {B : Nat} {T : TypeId} {o : Value} {M : List Tk} {w : World} (h : w.ownsRow B T 4 o M.length (tkCs M)) : ∃ a cap, o = .slice a M.length cap ∧ TkIn w T a M.length M := by
  have h0 := h
  obtain ⟨hl, hown⟩ := h
  rcases hown with ⟨rfl, hz⟩ | ⟨g, cap, cur, rfl, h1, hg, hcap, hm, hsz, htk⟩
  · exact ⟨none, 0, by rw [hz], ⟨rfl, by omega, fun n x h => by have := (List.getElem?_eq_some_iff.1 h).1; omega⟩⟩
  · refine ⟨_, cap, rfl, ⟨rfl, by unfold maxLen at hm; omega, fun n x hn => ?_⟩⟩
    have hnl : n < M.length := (List.getElem?_eq_some_iff.1 hn).1
    have key : ∀ j v, j < 4 → (tkC x)[j]? = some v → w.cell? ⟨g, 0 + n * 4 + j, none⟩ = some v := fun j v hj hv => by
      rw [Nat.zero_add, cell_of_row w g (n * 4 + j) cur _ (0, 0) hg]
      have h2 := (tkCs_at M n j x hn hj).trans hv
      rw [← htk, List.getElem?_take, if_pos (by omega)] at h2
      simpa using h2
    exact ⟨g, 0, rfl, CBlk.row h0 rfl, key 0 _ (by omega) rfl, key 1 _ (by omega) rfl, key 2 _ (by omega) rfl, key 3 _ (by omega) rfl⟩
theorem infoTk : (Tryd.prog.info? 34).map (fun i => (i.zero, i.size, i.bytes)) = some (some (.agg #[.int .i64 0, .string ⟨#[]⟩, .int .i64 0, .int .i64 0]), 4, 40) := by kernel_rfl
theorem tk_new (w : World) (x : Tk) (T : TypeId) : ∀ j u, (tkC x)[j]? = some u → (w.alloc (.cells #[.int .i64 (x.k : Nat), .string ⟨x.t.toArray⟩, .int .i64 (x.line : Nat), .int .i64 (x.col : Nat)] T)).cell? ((⟨w.heap.size, 0, none⟩ : Addr).add j) = some u := by
  intro j u hj
  have hadd : (⟨w.heap.size, 0, none⟩ : Addr).add j = ⟨w.heap.size, j, none⟩ := by unfold Addr.add; split <;> simp_all
  rw [hadd, World.cell?_alloc_at (hn := rfl)]
  simpa [tkC] using hj

/-- The cuts of one token, in their order: kind, text, how many bytes, an error's number. -/
noncomputable def cutAt : Nat → List UInt8 → Nat × List UInt8 × Nat × Nat
  | 0, l => ((runK l).1, runL l, (runL l).length, (runK l).2)
  | 1, l => quoT l
  | _, l => (signK l, l.take (signN l), signN l, 0)
/-- None of the first cuts cuts, or tells an error. -/
def noneTo' (l : List UInt8) (j : Nat) : Prop := ∀ i, i < j → (cutAt i l).2.2.1 = 0 ∧ (cutAt i l).2.2.2 = 0
theorem none_zero (l : List UInt8) : noneTo' l 0 := fun i h => by omega
theorem none_more {l : List UInt8} {j : Nat} (h : noneTo' l j) (h1 : (cutAt j l).2.2.1 = 0) (h2 : (cutAt j l).2.2.2 = 0) : noneTo' l (j + 1) := fun i hi => by
  by_cases e : i = j
  · subst e; exact ⟨h1, h2⟩
  · exact h i (by omega)
theorem runL_all (l : List UInt8) : (⟨(runL l).toArray⟩ : ByteArray).data.toList = runL l := rfl
theorem run_kind {l : List UInt8} (h : runL l ≠ []) : firstT l = if (runK l).2 = 0 then .ok ((runK l).1, runL l, (runL l).length) else .error (runK l).2 := by
  have hne : (runL l).isEmpty = false := by cases e : runL l with | nil => exact absurd e h | cons c x => rfl
  rw [first_run hne, runK, if_neg h]
  exact kind_word (s := ⟨(runL l).toArray⟩) (by rw [lx_size]; exact List.length_pos_iff.2 h) (run_all l)
theorem none_run {l : List UInt8} {j : Nat} (h : noneTo' l j) (hj : 0 < j) : runL l = [] := List.length_eq_zero_iff.1 (h 0 hj).1
theorem none_quo {l : List UInt8} {j : Nat} (h : noneTo' l j) (hj : 1 < j) : l.head? ≠ some 34 := by
  intro e
  obtain ⟨h1, h2⟩ := h 1 hj
  simp only [cutAt, quoT, if_pos e] at h1 h2
  split at h1
  · rename_i hc; rw [hc] at h2; exact absurd h2 (by decide)
  · rename_i t hc
    rw [hc] at h2
    by_cases hl : 4096 < t.length
    · simp only [if_pos hl] at h2; exact absurd h2 (by decide)
    · simp only [if_neg hl] at h1
      rw [quote_len] at h1; omega
theorem run_34 {l : List UInt8} (h : l.head? = some 34) : runL l = [] := by
  cases hr : runL l with
  | nil => rfl
  | cons c x =>
    have h1 := run_head hr
    rw [h] at h1
    cases h1
    have h2 := List.all_eq_true.1 (run_all l) 34 (by rw [hr]; simp)
    exact absurd h2 (by decide)
theorem firstT_at {l : List UInt8} {j : Nat} (hj : j < 3) (h : noneTo' l j) (hc : (cutAt j l).2.2.1 ≠ 0 ∨ (cutAt j l).2.2.2 ≠ 0) :
    firstT l = if (cutAt j l).2.2.2 = 0 then .ok ((cutAt j l).1, (cutAt j l).2.1, (cutAt j l).2.2.1) else .error (cutAt j l).2.2.2 := by
  match j, hj with
  | 0, _ =>
    have hr : runL l ≠ [] := by
      intro e
      simp only [cutAt] at hc
      rw [runK, if_pos e, e] at hc
      simp at hc
    exact run_kind hr
  | 1, _ =>
    have h34 : l.head? = some 34 := by
      by_cases e : l.head? = some 34
      · exact e
      · simp only [cutAt, quoT, if_neg e] at hc
        simp at hc
    simp only [cutAt, quoT, if_pos h34]
    rw [firstT, if_pos h34]
    cases hcl : cutL l with
    | none => rfl
    | some t =>
      simp only
      by_cases hl : 4096 < t.length
      · simp only [if_pos hl]; rfl
      · simp only [if_neg hl]; rfl
  | 2, _ =>
    have h34 := none_quo h (by omega)
    have hr := none_run h (by omega)
    simp only [cutAt] at hc ⊢
    have hs : signN l ≠ 0 := by rcases hc with h | h; exact h; exact absurd rfl h
    rw [firstT, if_neg h34, if_pos hr, if_neg hs, if_pos trivial, signK, if_neg hs]
theorem firstT_none {l : List UInt8} (h : noneTo' l 3) : firstT l = .error 15 := by
  rw [firstT, if_neg (none_quo h (by omega)), if_pos (none_run h (by omega)), if_pos (show signN l = 0 from (h 2 (by omega)).1)]

/-- One step, as it is gone. -/
theorem stepT_none {l : List UInt8} {p : Nat × Nat} (h : l.drop (blankN l false) = []) : stepT l p = .ok none := if_pos h
theorem stepT_err {l : List UInt8} {p : Nat × Nat} {e : Nat} (h : l.drop (blankN l false) ≠ []) (hf : firstT (l.drop (blankN l false)) = .error e) : stepT l p = .error (e, adv (l.take (blankN l false)) p) := by
  rw [stepT, if_neg h, hf]
theorem stepT_ok {l : List UInt8} {p : Nat × Nat} {k n : Nat} {t : List UInt8} (h : l.drop (blankN l false) ≠ []) (hf : firstT (l.drop (blankN l false)) = .ok (k, t, n)) :
    stepT l p = .ok (some (⟨k, t, (adv (l.take (blankN l false)) p).1, (adv (l.take (blankN l false)) p).2⟩, (l.drop (blankN l false)).drop n, ((adv (l.take (blankN l false)) p).1, (adv (l.take (blankN l false)) p).2 + n))) := by
  rw [stepT, if_neg h, hf]
theorem tok_adv {l : List UInt8} {k n : Nat} {t : List UInt8} (hf : firstT l = .ok (k, t, n)) (p : Nat × Nat) : adv (l.take n) p = (p.1, p.2 + n) ∧ 0 < n ∧ n ≤ l.length := by
  have ht := told_first hf
  obtain ⟨y, hy⟩ := ht.pre
  have h1 : l.take n = tkL k t := by rw [hy, ht.len, List.take_left]
  refine ⟨?_, ht.pos, ?_⟩
  · rw [h1, adv_line10 _ _ ht.no10, ht.len]
  · rw [hy, List.length_append, ← ht.len]; omega
theorem adv_le : ∀ (l : List UInt8) (p : Nat × Nat), 1 ≤ p.2 → (adv l p).1 ≤ p.1 + l.length ∧ (adv l p).2 ≤ p.2 + l.length ∧ 1 ≤ (adv l p).2
  | [], p, h => ⟨Nat.le_refl _, Nat.le_refl _, h⟩
  | c :: r, p, h => by
    rw [adv, List.length_cons]
    by_cases e : c = 10
    · rw [if_pos e]
      have := adv_le r (p.1 + 1, 1) (Nat.le_refl _)
      simp only at this
      omega
    · rw [if_neg e]
      have := adv_le r (p.1, p.2 + 1) (by show 1 ≤ p.2 + 1; omega)
      simp only at this
      omega
end Go.Proofs.YtbojhcfofgdoeaaDoor
