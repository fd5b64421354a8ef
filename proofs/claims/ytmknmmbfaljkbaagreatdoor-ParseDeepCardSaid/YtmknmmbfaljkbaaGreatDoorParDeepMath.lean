/- What parse.Expr tells of texts in which much is open, or of which expressions are deep. No program. -/
import Derived.Test.YtmknmmbfaljkbaaGreatDoorParTop
namespace Go.Proofs.YtmknmmbfaljkbaaGreatDoor
open Go.RowKit
set_option linter.unusedVariables false

/-! ## The text, and its tokens -/
def repT {α : Type} (n : Nat) (l : List α) : List α := (List.replicate n l).flatten
theorem rep_zero {α : Type} (l : List α) : repT 0 l = [] := rfl
theorem rep_succ {α : Type} (n : Nat) (l : List α) : repT (n + 1) l = l ++ repT n l := by unfold repT; rw [List.replicate_succ, List.flatten_cons]
theorem rep_snoc {α : Type} (n : Nat) (l : List α) : repT (n + 1) l = repT n l ++ l := by unfold repT; rw [List.replicate_succ', List.flatten_append]; simp
theorem rep_len {α : Type} (n : Nat) (l : List α) : (repT n l).length = n * l.length := by
  induction n with
  | zero => simp [rep_zero]
  | succ n ih => rw [rep_succ, List.length_append, ih, Nat.succ_mul, Nat.add_comm]
def preL (b : Bool) : List UInt8 := if b then [110, 111, 116, 32] else [40]
def deepL (o c : Nat) (b : Bool) : List UInt8 := repT o (preL b) ++ [120] ++ repT c [43, 120] ++ repT (if b then 0 else o) [41]
def TokE (l : List UInt8) (q : List (Nat × List UInt8)) : Prop := ∀ p : Nat × Nat, ∃ M, tokT l p = .ok M ∧ M.map (fun x => (x.k, x.t)) = q ∧ ∀ x ∈ M, x.line = p.1
theorem tokE_nil : TokE [] [] := fun p => ⟨[], tok_end (step_none p), rfl, fun x hx => by cases hx⟩
theorem tokE_32 {l : List UInt8} {q : List (Nat × List UInt8)} (h : TokE l q) : TokE (32 :: l) q := fun p => by
  obtain ⟨M, h1, h2, h3⟩ := h (p.1, p.2 + 1)
  exact ⟨M, by rw [tok_32, h1], h2, h3⟩
theorem tokE_step {l r t : List UInt8} {k n : Nat} {q : List (Nat × List UInt8)} (hb : blankN l false = 0) (hl : l ≠ []) (hf : firstT l = .ok (k, t, n)) (hr : l.drop n = r) (h : TokE r q) : TokE l ((k, t) :: q) := fun p => by
  obtain ⟨M, h1, h2, h3⟩ := h (p.1, p.2 + n)
  have hs := stepT_ok (l := l) (p := p) (k := k) (t := t) (n := n) (by rw [hb]; exact hl) (by rw [hb]; exact hf)
  rw [hb, List.take_zero, List.drop_zero, hr] at hs
  have hs2 : stepT l p = .ok (some (⟨k, t, p.1, p.2⟩, r, (p.1, p.2 + n))) := hs
  refine ⟨⟨k, t, p.1, p.2⟩ :: M, by rw [tok_more hs2, h1], ?_, ?_⟩
  · rw [List.map_cons, h2]
  · intro x hx
    rcases List.mem_cons.1 hx with rfl | hx
    · rfl
    · exact h3 x hx
theorem word_not : wordT [110, 111, 116] = .ok (2, [110, 111, 116], 3) := by
  unfold wordT
  rw [if_neg (by decide), if_neg (by decide), if_neg (by decide +kernel)]; rfl
theorem word_x : wordT [120] = .ok (1, [120], 1) := by
  unfold wordT
  rw [if_neg (by decide), if_neg (by decide), if_pos (by decide +kernel)]; rfl
theorem tokE_not {r : List UInt8} {q : List (Nat × List UInt8)} (h : TokE r q) : TokE (110 :: 111 :: 116 :: 32 :: r) ((2, kwNot) :: q) := by
  have hr : runL (110 :: 111 :: 116 :: 32 :: r) = [110, 111, 116] := rfl
  refine tokE_step (n := 3) rfl (by simp) ?_ rfl (tokE_32 h)
  rw [first_run (by rw [hr]; rfl), hr]
  exact word_not
theorem tokE_x {r : List UInt8} {q : List (Nat × List UInt8)} (hx : runL r = []) (h : TokE r q) : TokE (120 :: r) ((1, [120]) :: q) := by
  have hr : runL (120 :: r) = [120] := by
    have : runL (120 :: r) = 120 :: runL r := rfl
    rw [this, hx]
  refine tokE_step (n := 1) rfl (by simp) ?_ rfl h
  rw [first_run (by rw [hr]; rfl), hr]
  exact word_x
theorem sign_1 {c : UInt8} {r : List UInt8} (hc : c = 40 ∨ c = 41 ∨ c = 43) : signN (c :: r) = 1 := by
  rcases hc with rfl | rfl | rfl
  all_goals (rw [signN, if_neg (by rintro ⟨h, _⟩; revert h; decide), if_pos (by decide)])
theorem tokE_sign {c : UInt8} {r : List UInt8} {q : List (Nat × List UInt8)} (hc : c = 40 ∨ c = 41 ∨ c = 43) (h : TokE r q) : TokE (c :: r) ((5, [c]) :: q) := by
  have h1 : blankN (c :: r) false = 0 := by rcases hc with rfl | rfl | rfl <;> rfl
  have h2 : runL (c :: r) = [] := by rcases hc with rfl | rfl | rfl <;> rfl
  refine tokE_step (n := 1) h1 (by simp) ?_ rfl h
  rw [firstT, if_neg (by rcases hc with rfl | rfl | rfl <;> simp), if_pos h2, sign_1 hc, if_neg (by decide)]
  rfl
theorem run_41 (n : Nat) : runL (repT n [41]) = [] := by
  cases n with
  | zero => rfl
  | succ n => rw [rep_succ]; rfl
theorem tokE_shut (n : Nat) : TokE (repT n [41]) (List.replicate n (5, [41])) := by
  induction n with
  | zero => exact tokE_nil
  | succ n ih => rw [rep_succ, List.replicate_succ]; exact tokE_sign (.inr (.inl rfl)) ih
def plusQ : List (Nat × List UInt8) := [(5, [43]), (1, [120])]
theorem run_plus (c : Nat) {r : List UInt8} (hr : runL r = []) : runL (repT c [43, 120] ++ r) = [] := by
  cases c with
  | zero => exact hr
  | succ n => rw [rep_succ]; rfl
theorem tokE_plus {r : List UInt8} {q : List (Nat × List UInt8)} (hr : runL r = []) (h : TokE r q) (c : Nat) : TokE (repT c [43, 120] ++ r) (repT c plusQ ++ q) := by
  induction c with
  | zero => exact h
  | succ n ih =>
    rw [rep_succ, rep_succ]
    exact tokE_sign (.inr (.inr rfl)) (tokE_x (run_plus n hr) ih)
def preQ (b : Bool) : Nat × List UInt8 := if b then (2, kwNot) else (5, [40])
def deepQ (o c : Nat) (b : Bool) : List (Nat × List UInt8) := List.replicate o (preQ b) ++ ((1, [120]) :: (repT c plusQ ++ List.replicate (if b then 0 else o) (5, [41])))
theorem tokE_pre {r : List UInt8} {q : List (Nat × List UInt8)} (b : Bool) (h : TokE r q) (o : Nat) : TokE (repT o (preL b) ++ r) (List.replicate o (preQ b) ++ q) := by
  induction o with
  | zero => exact h
  | succ n ih =>
    rw [rep_succ, List.replicate_succ, List.append_assoc]
    cases b with
    | true => exact tokE_not ih
    | false => exact tokE_sign (.inl rfl) ih
theorem tokE_deep (o c : Nat) (b : Bool) : TokE (deepL o c b) (deepQ o c b) := by
  unfold deepL deepQ
  rw [List.append_assoc, List.append_assoc]
  refine tokE_pre b ?_ o
  exact tokE_x (run_plus c (run_41 _)) (tokE_plus (run_41 _) (tokE_shut _) c)
theorem deep_len (o c : Nat) (b : Bool) : (deepL o c b).length ≤ 5 * o + 1 + 2 * c := by
  unfold deepL
  cases b <;> simp [rep_len, preL] <;> omega
def TkK (M : List Tk) (i k : Nat) (t : List UInt8) : Prop := ∃ x, M[i]? = some x ∧ x.k = k ∧ x.t = t ∧ x.line = 1
theorem plus_at (c : Nat) : ∀ j, j < c → (repT c plusQ)[2 * j]? = some (5, [43]) ∧ (repT c plusQ)[2 * j + 1]? = some (1, [120]) := by
  induction c with
  | zero => intro j h; omega
  | succ n ih =>
    intro j h
    rw [rep_succ]
    cases j with
    | zero => exact ⟨rfl, rfl⟩
    | succ j =>
      obtain ⟨h1, h2⟩ := ih j (by omega)
      refine ⟨?_, ?_⟩
      · rw [show 2 * (j + 1) = 2 * j + 2 by omega]; exact h1
      · rw [show 2 * (j + 1) + 1 = 2 * j + 1 + 2 by omega]; exact h2
/-- The tokens of such a text. -/
structure Dp (M : List Tk) (o c : Nat) (b : Bool) : Prop where
  pre : ∀ i, i < o → TkK M i (preQ b).1 (preQ b).2
  x0 : TkK M o 1 [120]
  pl : ∀ j, j < c → TkK M (o + 1 + 2 * j) 5 [43] ∧ TkK M (o + 1 + 2 * j + 1) 1 [120]
  sh : ∀ i, i < (if b then 0 else o) → TkK M (o + 1 + 2 * c + i) 5 [41]
  len : M.length = o + 1 + 2 * c + (if b then 0 else o)
theorem tk_of {M : List Tk} {q : List (Nat × List UInt8)} (h : M.map (fun x => (x.k, x.t)) = q) (hl : ∀ x ∈ M, x.line = 1) {i k : Nat} {t : List UInt8} (hq : q[i]? = some (k, t)) : TkK M i k t := by
  rw [← h, List.getElem?_map] at hq
  cases e : M[i]? with
  | none => rw [e] at hq; cases hq
  | some x =>
    rw [e] at hq
    cases hq
    exact ⟨x, e, rfl, rfl, hl x (List.mem_of_getElem? e)⟩
theorem deep_toks (o c : Nat) (b : Bool) (ho : o ≤ 140) (hc : c ≤ 140) : ∃ M, tokL (deepL o c b) = .ok M ∧ Dp M o c b := by
  obtain ⟨M, h1, h2, h3⟩ := tokE_deep o c b (1, 1)
  have hl := deep_len o c b
  refine ⟨M, by rw [tokL, if_neg (by omega), h1], ?_⟩
  have h3 : ∀ x ∈ M, x.line = 1 := h3
  have hL : M.length = (deepQ o c b).length := by rw [← h2, List.length_map]
  have hlen : M.length = o + 1 + 2 * c + (if b then 0 else o) := by
    rw [hL]; unfold deepQ
    simp [rep_len, plusQ]; omega
  have hq : ∀ i, (deepQ o c b)[o + i]? = ((1, [120]) :: (repT c plusQ ++ List.replicate (if b then 0 else o) (5, [41])))[i]? := fun i => by
    unfold deepQ
    rw [List.getElem?_append_right (by simp)]
    simp
  have hr : (repT c plusQ).length = 2 * c := by rw [rep_len, plusQ]; simp; omega
  refine ⟨fun i hi => tk_of h2 h3 ?_, tk_of h2 h3 (hq 0), fun j hj => ⟨tk_of h2 h3 ?_, tk_of h2 h3 ?_⟩, fun i hi => tk_of h2 h3 ?_, hlen⟩
  · unfold deepQ
    rw [List.getElem?_append_left (by simpa using hi), List.getElem?_replicate_of_lt hi]
  · rw [show o + 1 + 2 * j = o + (2 * j + 1) by omega, hq, List.getElem?_cons_succ, List.getElem?_append_left (by omega)]
    exact (plus_at c j hj).1
  · rw [show o + 1 + 2 * j + 1 = o + (2 * j + 1 + 1) by omega, hq, List.getElem?_cons_succ, List.getElem?_append_left (by omega)]
    exact (plus_at c j hj).2
  · rw [show o + 1 + 2 * c + i = o + (2 * c + i + 1) by omega, hq, List.getElem?_cons_succ, List.getElem?_append_right (by omega), hr, show 2 * c + i - 2 * c = i by omega, List.getElem?_replicate_of_lt hi]

/-! ## What is read -/
theorem isP_k {M : List Tk} {p : Pl} {k : Nat} {t s : List UInt8} (h : TkK M p.a k t) (he : p.er = 0) : isP M p s = ((k == 2 || k == 5) && t == s) := by
  obtain ⟨x, h1, rfl, rfl, _⟩ := h
  unfold isP
  rw [he, h1]; rfl
theorem isP_out {M : List Tk} {p : Pl} {s : List UInt8} (h : M.length ≤ p.a) : isP M p s = false := by
  cases e : isP M p s with
  | false => rfl
  | true => exact absurd (isP_some e).2 (by omega)
theorem tkK_at {M : List Tk} {i k : Nat} {t : List UInt8} (h : TkK M i k t) : (tkAt M i).k = k ∧ (tkAt M i).t = t ∧ (tkAt M i).line = 1 ∧ i < M.length := by
  obtain ⟨x, h1, h2, h3, h4⟩ := h
  have e : tkAt M i = x := by unfold tkAt; rw [List.getD, h1]; rfl
  exact ⟨by rw [e, h2], by rw [e, h3], by rw [e, h4], (List.getElem?_eq_some_iff.1 h1).1⟩
def NoP (M : List Tk) (p : Pl) : Prop := ∀ s, s ≠ [41] → isP M p s = false
theorem NoP.first {M : List Tk} {p : Pl} (h : NoP M p) : ∀ (L : List (List UInt8 × Nat)), (∀ x ∈ L, x.1 ≠ [41]) → firstOp M p L = 0
  | [], _ => rfl
  | (s, o) :: r, hL => by
    rw [firstOp, h s (hL _ (List.mem_cons_self ..)), if_neg (by decide)]
    exact NoP.first h r (fun x hx => hL x (List.mem_cons_of_mem _ hx))
theorem deep_unary {M : List Tk} {p : Pl} (h : TkK M p.a 1 [120]) (he : p.er = 0) (n : Nat) : exprC M (n + 1) 10 p z0 = (leafC (tkAt M p.a) 17 [120] v0, skipP p) := by
  obtain ⟨a1, a2, a3, a4⟩ := tkK_at h
  have e : peekC M p = tkAt M p.a := by unfold peekC; rw [if_pos he]
  rw [exprC_10]
  unfold unaryC
  rw [isP_k h he, isP_k h he, if_neg (fun k => by cases k.1), if_neg (by decide), e, a2]
  unfold isNameT
  rw [a1, a2, if_pos (by decide)]
theorem deep_factor {M : List Tk} {p : Pl} (h : TkK M p.a 1 [120]) (he : p.er = 0) (hn : firstOp M (skipP p) timesS = 0) (n : Nat) : exprC M (n + 2) 8 p z0 = (leafC (tkAt M p.a) 17 [120] v0, skipP p) := by
  rw [exprC_up (by omega), deep_unary h he]
  exact exprC_end (by unfold joinL; omega) hn
theorem over2_snd (p : Pl) (t : Tk) (op : Int) (a b : Cx) : (overL p t op [a, b]).2 = if 64 < max a.d b.d + 1 then failC p t 13 else p := by
  unfold overL
  simp [List.foldl]
theorem over1_snd (p : Pl) (t : Tk) (op : Int) (a : Cx) : (overL p t op [a]).2 = if 64 < a.d + 1 then failC p t 13 else p := by
  unfold overL
  simp [List.foldl]
theorem no_times {M : List Tk} {p : Pl} (h : TkK M p.a 5 [43]) (he : p.er = 0) : firstOp M p timesS = 0 := by
  unfold timesS
  rw [firstOp, firstOp, firstOp, firstOp, isP_k h he, isP_k h he, isP_k h he, if_neg (by decide), if_neg (by decide), if_neg (by decide)]
theorem is_plus {M : List Tk} {p : Pl} (h : TkK M p.a 5 [43]) (he : p.er = 0) : firstOp M p plusS = 8 := by
  unfold plusS
  rw [firstOp, isP_k h he, if_pos (by decide)]
/-- What is told: either all, or that it is too deep. -/
def Good (r : Cx × Pl) (ok : Prop) (e : Nat) (p : Pl) (d n : Nat) : Prop :=
  (ok → r.2 = ⟨e, 0, p.line, p.col, p.op⟩ ∧ r.1.d = d ∧ r.1.ns.length = n) ∧ (¬ ok → r.2.er = 13 ∧ r.2.line = 1)
theorem good_err {r : Cx × Pl} {ok : Prop} {e : Nat} {p : Pl} {d n : Nat} (hok : ¬ ok) (h : r.2.er = 13 ∧ r.2.line = 1) : Good r ok e p d n := ⟨fun k => absurd k hok, fun _ => h⟩
theorem Good.nop {M : List Tk} {r : Cx × Pl} {ok : Prop} {e : Nat} {p : Pl} {d n : Nat} (h : Good r ok e p d n) (hN : ∀ q : Pl, q.a = e → NoP M q) : NoP M r.2 := by
  intro s hs
  by_cases hok : ok
  · obtain ⟨h1, _, _⟩ := h.1 hok
    rw [h1]
    exact hN _ rfl s hs
  · exact isP_err (by rw [(h.2 hok).1]; decide)
theorem deep_loop {M : List Tk} {e : Nat} (hN : ∀ q : Pl, q.a = e → NoP M q) : ∀ (m n : Nat) (p : Pl) (l : Cx), p.er = 0 → p.a + 2 * m = e → (∀ j, j < m → TkK M (p.a + 2 * j) 5 [43] ∧ TkK M (p.a + 2 * j + 1) 1 [120]) → 1 ≤ l.d → l.d ≤ 64 → m + 4 ≤ n →
    Good (exprC M n 7 p l) (l.d + m ≤ 64) e p (l.d + m) (l.ns.length + 2 * m)
  | 0, n, p, l, he, ha, _, h1, h64, hn => by
    obtain ⟨n, rfl⟩ : ∃ k, n = k + 1 := ⟨n - 1, by omega⟩
    obtain rfl : p.a = e := by omega
    rw [exprC_end (by unfold joinL; omega) ((hN p rfl).first _ (by decide))]
    refine ⟨fun _ => ⟨?_, rfl, rfl⟩, fun k => absurd h64 k⟩
    obtain ⟨a, er, ln, cl, op⟩ := p
    obtain rfl : er = 0 := he
    rfl
  | m + 1, n, p, l, he, ha, hT, h1, h64, hn => by
    obtain ⟨n, rfl⟩ : ∃ k, n = k + 3 := ⟨n - 3, by omega⟩
    obtain ⟨t0, t1⟩ := hT 0 (by omega)
    have t0 : TkK M p.a 5 [43] := t0
    have t1 : TkK M (skipP p).a 1 [120] := t1
    have he1 : (skipP p).er = 0 := he
    have he2 : (skipP (skipP p)).er = 0 := he
    have hnt : firstOp M (skipP (skipP p)) timesS = 0 := by
      cases m with
      | zero => exact (hN _ (by unfold skipP; show p.a + 1 + 1 = e; omega)).first _ (by decide)
      | succ m => exact no_times (hT 1 (by omega)).1 he2
    have hp : firstOp M p (opsL 7) = 8 := is_plus t0 he
    rw [exprC_more (by unfold joinL; omega) (by rw [hp]; decide), hp, deep_factor t1 he1 hnt n]
    have hd : (overL (skipP (skipP p)) (tkAt M p.a) (8 : Nat) [l, leafC (tkAt M (skipP p).a) 17 [120] v0]).1.d = l.d + 1 := by
      rw [over_two]
      show max l.d 1 + 1 = _
      omega
    have hl : (overL (skipP (skipP p)) (tkAt M p.a) (8 : Nat) [l, leafC (tkAt M (skipP p).a) 17 [120] v0]).1.ns.length = l.ns.length + 2 := by
      rw [over_two]
      simp [leafC]
    have h2 : (overL (skipP (skipP p)) (tkAt M p.a) (8 : Nat) [l, leafC (tkAt M (skipP p).a) 17 [120] v0]).2 = if 64 < l.d + 1 then failC (skipP (skipP p)) (tkAt M p.a) 13 else skipP (skipP p) := by
      rw [over2_snd]
      show (if 64 < max l.d 1 + 1 then _ else _) = _
      rw [Nat.max_eq_left h1]
    generalize (overL (skipP (skipP p)) (tkAt M p.a) (8 : Nat) [l, leafC (tkAt M (skipP p).a) 17 [120] v0]) = R at hd hl h2 ⊢
    by_cases hx : 64 < l.d + 1
    · rw [if_pos hx] at h2
      have h3 : failC (skipP (skipP p)) (tkAt M p.a) 13 = ⟨p.a + 1 + 1, 13, (tkAt M p.a).line, (tkAt M p.a).col, p.op⟩ := by unfold failC; rw [if_pos he2]; rfl
      have h4 := (exprC_err M (n + 2) 7 R.2 R.1 (by rw [h2, h3]; exact Nat.succ_ne_zero 12)).1
      refine good_err (by omega) ?_
      rw [h4, h2, h3]
      exact ⟨rfl, (tkK_at t0).2.2.1⟩
    · rw [if_neg hx] at h2
      have G := deep_loop hN m (n + 2) (skipP (skipP p)) R.1 he2 (by show p.a + 1 + 1 + 2 * m = e; omega) (fun j hj => by
        have := hT (j + 1) (by omega)
        rw [show p.a + 2 * (j + 1) = p.a + 1 + 1 + 2 * j by omega] at this
        exact this) (by omega) (by omega) (by omega)
      rw [h2]
      rw [hd, hl, show l.d + 1 + m = l.d + (m + 1) by omega, show l.ns.length + 2 + 2 * m = l.ns.length + 2 * (m + 1) by omega] at G
      exact G
theorem deep_sum {M : List Tk} {o c e : Nat} (hN : ∀ q : Pl, q.a = e → NoP M q) (hx : TkK M o 1 [120]) (hT : ∀ j, j < c → TkK M (o + 1 + 2 * j) 5 [43] ∧ TkK M (o + 1 + 2 * j + 1) 1 [120]) (hE : o + 1 + 2 * c = e) (n : Nat) (p : Pl) (hp : p.a = o) (he : p.er = 0) (hn : c + 8 ≤ n) :
    Good (exprC M n 6 p z0) (c + 1 ≤ 64) e p (c + 1) (2 * c + 1) := by
  obtain ⟨n, rfl⟩ : ∃ k, n = k + 3 := ⟨n - 3, by omega⟩
  subst hp
  have he1 : (skipP p).er = 0 := he
  have hnt : firstOp M (skipP p) timesS = 0 := by
    cases c with
    | zero => exact (hN _ (by unfold skipP; show p.a + 1 = e; omega)).first _ (by decide)
    | succ c => exact no_times (hT 0 (by omega)).1 he1
  rw [exprC_up (by omega), deep_factor hx he hnt n]
  have G := deep_loop hN c (n + 2) (skipP p) (leafC (tkAt M p.a) 17 [120] v0) he1 (by show p.a + 1 + 2 * c = e; omega) hT (Nat.le_refl _) (show 1 ≤ 64 by decide) (by omega)
  have e1 : (leafC (tkAt M p.a) 17 [120] v0).d = 1 := rfl
  have e2 : (leafC (tkAt M p.a) 17 [120] v0).ns.length = 1 := rfl
  rw [e1, e2, show 1 + c = c + 1 by omega, show 1 + 2 * c = 2 * c + 1 by omega] at G
  exact G
theorem up6 {M : List Tk} {n : Nat} {p : Pl} {r : Cx × Pl} (h : exprC M n 6 p z0 = r) (hN : NoP M r.2) (hk : isP M p kwNot = false) : exprC M (n + 2) 4 p z0 = r := by
  rw [exprC_4]
  unfold notC
  rw [hk, if_neg (by decide), exprC_5]
  unfold cmpC
  rw [h, hN.first _ (by decide), if_pos rfl]
theorem up4 {M : List Tk} {n : Nat} {p : Pl} {r : Cx × Pl} (h : exprC M (n + 1) 4 p z0 = r) (hN : NoP M r.2) : exprC M (n + 3) 0 p z0 = r := by
  rw [exprC_up (by omega), exprC_up (lv := 2) (by omega), show 2 + 2 = 4 from rfl, h, exprC_end (by unfold joinL; omega) (hN.first _ (by decide))]
  exact exprC_end (by unfold joinL; omega) (hN.first _ (by decide))
theorem up10 {M : List Tk} {n : Nat} {p : Pl} {r : Cx × Pl} (h : exprC M (n + 1) 10 p z0 = r) (hN : NoP M r.2) (hk : isP M p kwNot = false) : exprC M (n + 7) 0 p z0 = r := by
  have h8 : exprC M (n + 2) 8 p z0 = r := by
    rw [exprC_up (by omega), show 8 + 2 = 10 from rfl, h]
    exact exprC_end (by unfold joinL; omega) (hN.first _ (by decide))
  have h6 : exprC M (n + 3) 6 p z0 = r := by
    rw [exprC_up (by omega), show 6 + 2 = 8 from rfl, h8]
    exact exprC_end (by unfold joinL; omega) (hN.first _ (by decide))
  exact up4 (up6 h6 hN hk) hN
def at' (i : Nat) : Pl := ⟨i, 0, 0, 0, (i : Int)⟩
theorem within_err {i : Nat} {t : Tk} (h : 128 ≤ i) : withinC (skipP (at' i)) t = ⟨i + 1, 13, t.line, t.col, (i : Int) + 1⟩ := by
  unfold withinC
  rw [if_pos (by unfold skipP at'; show 128 < (i : Int) + 1; omega)]
  rfl
theorem within_ok' {i : Nat} {t : Tk} (h : i < 128) : withinC (skipP (at' i)) t = at' (i + 1) := by
  unfold withinC
  rw [if_neg (by unfold skipP at'; show ¬ 128 < (i : Int) + 1; omega)]
  unfold skipP at'
  simp
theorem shut_at (e i : Nat) : shutP ⟨e, 0, (at' (i + 1)).line, (at' (i + 1)).col, (at' (i + 1)).op⟩ = ⟨e, 0, (at' i).line, (at' i).col, (at' i).op⟩ := by
  unfold shutP at'
  dsimp only
  congr 1
  omega
theorem deep_nots {M : List Tk} {o c : Nat} (h : Dp M o c true) : ∀ (k n i : Nat), i + k = o → i ≤ 128 → k + c + 12 ≤ n →
    Good (exprC M n 4 (at' i) z0) (o ≤ 128 ∧ c + 1 + k ≤ 64) (o + 1 + 2 * c) (at' i) (c + 1 + k) (2 * c + 1 + k)
  | 0, n, i, hi, h128, hn => by
    obtain ⟨n, rfl⟩ : ∃ k, n = k + 2 := ⟨n - 2, by omega⟩
    obtain rfl : i = o := by omega
    have hl := h.len
    have hN : ∀ q : Pl, q.a = i + 1 + 2 * c → NoP M q := fun q hq s _ => isP_out (by rw [hq, hl]; simp)
    have G := deep_sum hN h.x0 h.pl rfl n (at' i) rfl rfl (by omega)
    have hk : isP M (at' i) kwNot = false := by rw [isP_k h.x0 rfl]; rfl
    rw [up6 rfl (G.nop hN) hk]
    exact ⟨fun k => G.1 (by omega), fun k => G.2 (by omega)⟩
  | k + 1, n, i, hi, h128, hn => by
    obtain ⟨n, rfl⟩ : ∃ k, n = k + 1 := ⟨n - 1, by omega⟩
    have hK : TkK M (at' i).a 2 kwNot := h.pre i (by omega)
    have hln := (tkK_at hK).2.2.1
    rw [exprC_4]
    unfold notC
    rw [isP_k hK rfl, if_pos (by decide)]
    by_cases hx : 128 ≤ i
    · rw [within_err hx]
      have h4 := (exprC_err M n 4 ⟨i + 1, 13, (tkAt M (at' i).a).line, (tkAt M (at' i).a).col, (i : Int) + 1⟩ z0 (Nat.succ_ne_zero 12)).1
      refine good_err (by omega) ?_
      rw [(over_op _ _ _ _).2.2.2 (by unfold shutP; rw [h4]; exact Nat.succ_ne_zero 12)]
      unfold shutP
      rw [h4]
      exact ⟨rfl, hln⟩
    · rw [within_ok' (by omega)]
      have G := deep_nots h k n (i + 1) (by omega) (by omega) (by omega)
      generalize exprC M n 4 (at' (i + 1)) z0 = r at G ⊢
      by_cases hok : o ≤ 128 ∧ c + 1 + k ≤ 64
      · obtain ⟨g1, g2, g3⟩ := G.1 hok
        by_cases h64 : c + 1 + (k + 1) ≤ 64
        · refine ⟨fun _ => ⟨?_, ?_, ?_⟩, fun k => absurd ⟨hok.1, h64⟩ k⟩
          · rw [over1_snd, if_neg (by omega), g1, shut_at]
          · rw [over_one, g2]; rfl
          · rw [over_one]; simp; omega
        · refine good_err (by omega) ?_
          rw [over1_snd, if_pos (by omega), g1, shut_at]
          unfold failC
          rw [if_pos rfl]
          exact ⟨rfl, hln⟩
      · obtain ⟨g1, g2⟩ := G.2 hok
        refine good_err (by omega) ?_
        rw [(over_op _ _ _ _).2.2.2 (by unfold shutP; rw [g1]; decide)]
        exact ⟨g1, g2⟩
theorem deep_parens {M : List Tk} {o c : Nat} (h : Dp M o c false) : ∀ (k n i : Nat), i + k = o → i ≤ 128 → 7 * k + c + 14 ≤ n →
    Good (exprC M n 0 (at' i) z0) (o ≤ 128 ∧ c + 1 ≤ 64) (o + 1 + 2 * c + k) (at' i) (c + 1) (2 * c + 1)
  | 0, n, i, hi, h128, hn => by
    obtain ⟨n, rfl⟩ : ∃ k, n = k + 4 := ⟨n - 4, by omega⟩
    obtain rfl : i = o := by omega
    have hl := h.len
    have hN : ∀ q : Pl, q.a = i + 1 + 2 * c → NoP M q := fun q hq s hs => by
      by_cases h0 : i = 0
      · exact isP_out (by rw [hq, hl, h0]; simp)
      · by_cases he : q.er = 0
        · have hK := h.sh 0 (by simp; omega)
          rw [Nat.add_zero, ← hq] at hK
          rw [isP_k hK he, beq_eq_false_iff_ne.2 (fun e => hs e.symm)]; rfl
        · exact isP_err he
    have G := deep_sum hN h.x0 h.pl rfl n (at' i) rfl rfl (by omega)
    have hk : isP M (at' i) kwNot = false := by rw [isP_k h.x0 rfl]; rfl
    rw [show n + 4 = (n + 1) + 3 by omega, up4 (up6 rfl (G.nop hN) hk) (G.nop hN)]
    exact ⟨fun k => G.1 (by omega), fun k => G.2 (by omega)⟩
  | k + 1, n, i, hi, h128, hn => by
    obtain ⟨n, rfl⟩ : ∃ k, n = k + 7 := ⟨n - 7, by omega⟩
    have hl := h.len
    have hK : TkK M (at' i).a 5 [40] := h.pre i (by omega)
    have hln := (tkK_at hK).2.2.1
    have hkn : isP M (at' i) kwNot = false := by rw [isP_k hK rfl]; rfl
    have hN : ∀ q : Pl, q.a = o + 1 + 2 * c + (k + 1) → NoP M q := fun q hq s hs => by
      by_cases h0 : k + 1 = o
      · exact isP_out (by rw [hq, hl]; simp; omega)
      · by_cases he : q.er = 0
        · have hK := h.sh (k + 1) (by simp; omega)
          rw [← hq] at hK
          rw [isP_k hK he, beq_eq_false_iff_ne.2 (fun e => hs e.symm)]; rfl
        · exact isP_err he
    have key : Good (exprC M (n + 1) 10 (at' i) z0) (o ≤ 128 ∧ c + 1 ≤ 64) (o + 1 + 2 * c + (k + 1)) (at' i) (c + 1) (2 * c + 1) := by
      rw [exprC_10]
      unfold unaryC
      rw [isP_k hK rfl, if_neg (fun k => by cases k.1), isP_k hK rfl, if_pos (by decide)]
      by_cases hx : 128 ≤ i
      · rw [within_err hx]
        have h4 := (exprC_err M n 0 ⟨i + 1, 13, (tkAt M (at' i).a).line, (tkAt M (at' i).a).col, (i : Int) + 1⟩ z0 (Nat.succ_ne_zero 12)).1
        refine good_err (by omega) ?_
        rw [h4]
        unfold wantP
        rw [isP_err (Nat.succ_ne_zero 12), if_neg (by decide), stop_err (Nat.succ_ne_zero 12)]
        exact ⟨rfl, hln⟩
      · rw [within_ok' (by omega)]
        have G := deep_parens h k n (i + 1) (by omega) (by omega) (by omega)
        generalize exprC M n 0 (at' (i + 1)) z0 = r at G ⊢
        refine ⟨fun hok => ?_, fun hok => ?_⟩
        · obtain ⟨g1, g2, g3⟩ := G.1 hok
          refine ⟨?_, g2, g3⟩
          have hK2 := h.sh k (by simp; omega)
          rw [g1, shut_at]
          unfold wantP
          rw [isP_k hK2 rfl, if_pos (by decide)]
          rfl
        · obtain ⟨g1, g2⟩ := G.2 hok
          have h9 : (shutP r.2).er ≠ 0 := by unfold shutP; rw [g1]; decide
          unfold wantP
          rw [isP_err h9, if_neg (by decide), stop_err h9]
          exact ⟨g1, g2⟩
    rw [up10 rfl (key.nop hN) hkn]
    exact key
/-- What Expr tells of such a text. -/
theorem deep_tells (o c : Nat) (b : Bool) (ho : o ≤ 140) (hc : c ≤ 140) :
    (o ≤ 128 ∧ (c + 1 + if b then o else 0) ≤ 64 → ∃ L, exprL (deepL o c b) = .ok L ∧ L.length = 2 * c + 1 + if b then o else 0) ∧
    (¬ (o ≤ 128 ∧ (c + 1 + if b then o else 0) ≤ 64) → ∃ col, exprL (deepL o c b) = .error (13, 1, col)) := by
  obtain ⟨M, h1, h⟩ := deep_toks o c b ho hc
  have hl := h.len
  have e1 : exprL (deepL o c b) = exprX M := by unfold exprL; rw [h1]
  rw [e1]
  have hG : Good (xC M) (o ≤ 128 ∧ (c + 1 + if b then o else 0) ≤ 64) M.length pl0 (c + 1 + if b then o else 0) (2 * c + 1 + if b then o else 0) := by
    have hn : needP M 0 pl0 = 13 * M.length + 12 := rfl
    unfold xC
    rw [hn]
    cases b with
    | true =>
      have hl2 : M.length = o + 1 + 2 * c := by simpa using hl
      have hN : ∀ q : Pl, q.a = o + 1 + 2 * c → NoP M q := fun q hq s _ => isP_out (by rw [hq, hl2]; exact Nat.le_refl _)
      obtain ⟨n, hn2⟩ : ∃ n, 13 * M.length + 12 = n + 3 := ⟨13 * M.length + 9, by omega⟩
      rw [hn2]
      have G := deep_nots h o (n + 1) 0 (by omega) (by omega) (by omega)
      have e0 : at' 0 = pl0 := rfl
      rw [e0] at G
      rw [up4 rfl (G.nop hN), hl2]
      exact G
    | false =>
      have hl2 : M.length = o + 1 + 2 * c + o := by simpa using hl
      have G := deep_parens h o (13 * M.length + 12) 0 (by omega) (by omega) (by omega)
      have e0 : at' 0 = pl0 := rfl
      rw [e0] at G
      rw [← hl2] at G
      exact G
  unfold exprX
  refine ⟨fun hok => ?_, fun hok => ?_⟩
  · obtain ⟨g1, g2, g3⟩ := hG.1 hok
    have g4 : endC M (xC M) = (xC M).2 := by
      unfold endC
      rw [if_neg (by rw [g1]; exact Nat.lt_irrefl _)]
    rw [g4, if_pos (by rw [g1])]
    exact ⟨_, rfl, by rw [linkS_len, g3]⟩
  · obtain ⟨g1, g2⟩ := hG.2 hok
    have g4 : endC M (xC M) = (xC M).2 := by
      unfold endC
      rw [stop_err (by rw [g1]; decide)]
      split <;> rfl
    rw [g4, if_neg (by rw [g1]; decide), g1, g2]
    exact ⟨_, rfl⟩
end Go.Proofs.YtmknmmbfaljkbaaGreatDoor
