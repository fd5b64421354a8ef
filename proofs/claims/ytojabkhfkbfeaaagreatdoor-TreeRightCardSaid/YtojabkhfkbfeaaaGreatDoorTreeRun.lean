/- How an expression is gone through from its root back, and that this tells its size and its depth. No program. -/
import Derived.Test.YtojabkhfkbfeaaaGreatDoorTreeNode
import Derived.Test.YtojabkhfkbfeaaaGreatDoorTreeDec
namespace Go.Proofs.YtojabkhfkbfeaaaGreatDoor
open Go.RowKit
set_option linter.unusedVariables false

theorem emptyB_iff (s : ByteArray) : emptyB s = true ↔ s = ⟨#[]⟩ := by
  unfold emptyB
  rw [List.isEmpty_iff]
  exact ⟨fun h => bytes_eq (by rw [h, none_list]), fun h => by rw [h, none_list]⟩
theorem zeroV_iff (v : Vd) : zeroV v = true ↔ v = v0 := by
  show eqB v.k v.i v.s v.b v0.k v0.i v0.s v0.b = true ↔ v = v0
  rw [eqB_dec v v0, decide_eq_true_iff]
theorem mkE_iff (x : Ex) (a b : Int) (n : ByteArray) (v : Vd) : x = mkE x a b n v ↔ x.a = a ∧ x.b = b ∧ x.n = n ∧ x.v = v := by
  cases x
  unfold mkE
  simp only [Ex.mk.injEq, true_and, and_true]
theorem okN_one {x : Ex} (h : x.op = 1) : okN x = true ↔ x.a = 0 ∧ x.b = 0 ∧ emptyB x.n = true ∧ rightV x.v = true := by
  unfold okN
  rw [if_pos (by rw [h]; rfl), Bool.and_eq_true, decide_eq_true_iff, mkE_iff, emptyB_iff]
  simp only [and_true, and_assoc]
theorem okN_name {x : Ex} (h : x.op = 17) : okN x = true ↔ x.a = 0 ∧ x.b = 0 ∧ nameB x.n = true ∧ zeroV x.v = true := by
  unfold okN
  rw [if_neg (by rw [h]; decide), if_pos (by rw [h]; rfl), Bool.and_eq_true, decide_eq_true_iff, mkE_iff, zeroV_iff]
  simp only [true_and]
  exact ⟨fun ⟨⟨a, b, c⟩, d⟩ => ⟨a, b, d, c⟩, fun ⟨a, b, d, c⟩ => ⟨⟨a, b, c⟩, d⟩⟩
theorem oneB_iff (o : Int) : oneB o = true ↔ o = 4 ∨ o = 5 := by
  unfold oneB; rw [Bool.or_eq_true, beq_iff_eq, beq_iff_eq]
theorem twoB_iff (o : Int) : twoB o = true ↔ 6 ≤ o ∧ o ≤ 16 := by
  unfold twoB; rw [Bool.and_eq_true, decide_eq_true_iff, decide_eq_true_iff]
theorem okN_op1 {x : Ex} (h : 4 ≤ x.op ∧ x.op ≤ 5) : okN x = true ↔ x.b = 0 ∧ emptyB x.n = true ∧ zeroV x.v = true := by
  unfold okN
  rw [if_neg (by rw [beq_iff_eq]; omega), if_neg (by rw [beq_iff_eq]; omega), if_pos ((oneB_iff _).2 (by omega)), decide_eq_true_iff, mkE_iff, zeroV_iff, emptyB_iff]
  simp only [true_and]
theorem okN_op2 {x : Ex} (h : 6 ≤ x.op ∧ x.op ≤ 16) : okN x = true ↔ emptyB x.n = true ∧ zeroV x.v = true := by
  unfold okN
  rw [if_neg (by rw [beq_iff_eq]; omega), if_neg (by rw [beq_iff_eq]; omega), if_neg (by rw [oneB_iff]; omega), if_pos ((twoB_iff _).2 h), decide_eq_true_iff, mkE_iff, zeroV_iff, emptyB_iff]
  simp only [true_and]
theorem okN_no {x : Ex} (h1 : x.op ≠ 1) (h17 : x.op ≠ 17) (h : x.op < 4 ∨ 16 < x.op) : okN x = false := by
  unfold okN
  rw [if_neg (by rw [beq_iff_eq]; omega), if_neg (by rw [beq_iff_eq]; omega), if_neg (by rw [oneB_iff]; omega), if_neg (by rw [twoB_iff]; omega)]
theorem roots_leaf {x : Ex} (h : x.op = 1 ∨ x.op = 17) : rootsT x = [] := by
  unfold rootsT
  rw [if_neg (by rw [oneB_iff]; omega), if_neg (by rw [twoB_iff]; omega)]
theorem roots_op1 {x : Ex} (h : 4 ≤ x.op ∧ x.op ≤ 5) : rootsT x = [x.a] := by
  unfold rootsT
  rw [if_pos ((oneB_iff _).2 (by omega))]
theorem roots_op2 {x : Ex} (h : 6 ≤ x.op ∧ x.op ≤ 16) : rootsT x = [x.a, x.b] := by
  unfold rootsT
  rw [if_neg (by rw [oneB_iff]; omega), if_pos ((twoB_iff _).2 h)]

/-- What is still to come: roots and depths, the next one first. -/
abbrev Stk := List (Int × Int)
def pushT (x : Ex) (d : Int) (R : Stk) : Stk := ((rootsT x).map (fun r => (r, d + 1))).reverse ++ R
/-- Nodes gone through, from place k - 1 back: what is left of them, and the depth; none: it is no expression. -/
def mrun (l : List Ex) : Nat → Stk → Int → Option (Nat × Int)
  | 0, [], dep => some (0, dep)
  | 0, _ :: _, _ => none
  | k + 1, [], dep => some (k + 1, dep)
  | k + 1, p :: R, dep => match l[k]? with
    | none => none
    | some x => if p.1 = (k : Int) ∧ okN x = true then mrun l k (pushT x p.2 R) (max dep p.2) else none
theorem mrun_nil (l : List Ex) (k : Nat) (dep : Int) : mrun l k [] dep = some (k, dep) := by cases k <;> rfl
theorem mrun_zero (l : List Ex) (p : Int × Int) (R : Stk) (dep : Int) : mrun l 0 (p :: R) dep = none := rfl
theorem mrun_out {l : List Ex} {k : Nat} (h : l[k]? = none) (p : Int × Int) (R : Stk) (dep : Int) : mrun l (k + 1) (p :: R) dep = none := by
  rw [mrun, h]
theorem mrun_at {l : List Ex} {k : Nat} {x : Ex} (h : l[k]? = some x) (p : Int × Int) (R : Stk) (dep : Int) : mrun l (k + 1) (p :: R) dep = if p.1 = (k : Int) ∧ okN x = true then mrun l k (pushT x p.2 R) (max dep p.2) else none := by
  rw [mrun, h]
theorem mrun_off {l : List Ex} {k : Nat} {p : Int × Int} (h : p.1 ≠ (k : Int)) (R : Stk) (dep : Int) : mrun l (k + 1) (p :: R) dep = none := by
  cases e : l[k]? with
  | none => exact mrun_out e _ _ _
  | some x => rw [mrun_at e, if_neg (fun k => h k.1)]
theorem depthT_leaf {l : List Ex} {n : Nat} {x : Ex} (h : l[n]? = some x) (hx : x.op = 1 ∨ x.op = 17) : depthT l n = 1 := by
  have e : depthT l n = nodeD ((accT nodeD l []).take n) x := by
    rw [← acc_at nodeD h]
    unfold depthT getS
    rw [if_neg (by omega)]; rfl
  rw [e, nodeD, if_pos hx]
theorem mrun_node (l : List Ex) : ∀ (k : Nat), k < l.length → ∀ (d : Int) (R : Stk) (dep : Int),
    (sizeT l k = 0 → mrun l (k + 1) ((k, d) :: R) dep = none) ∧ (sizeT l k ≠ 0 → mrun l (k + 1) ((k, d) :: R) dep = mrun l (k + 1 - sizeT l k) R (max dep (d - 1 + depthT l k))) := by
  intro k
  induction k using Nat.strongRecOn with
  | ind k ih =>
    intro hk d R dep
    obtain ⟨x, hx⟩ : ∃ x, l[k]? = some x := ⟨_, List.getElem?_eq_getElem hk⟩
    have hs := sizeT_at hx
    have hm : mrun l (k + 1) (((k : Int), d) :: R) dep = if okN x = true then mrun l k (pushT x d R) (max dep d) else none := by
      rw [mrun_at hx]; simp only [true_and]
    by_cases h1 : x.op = 1
    · rw [if_pos h1] at hs
      by_cases hc : x.a = 0 ∧ x.b = 0 ∧ emptyB x.n = true ∧ rightV x.v = true
      · rw [if_pos hc] at hs
        rw [if_pos ((okN_one h1).2 hc)] at hm
        refine ⟨fun h => absurd h (by omega), fun _ => ?_⟩
        rw [hm, hs, depthT_leaf hx (.inl h1), pushT, roots_leaf (.inl h1)]
        simp only [List.map_nil, List.reverse_nil, List.nil_append, Nat.add_sub_cancel]
        congr 1; omega
      · rw [if_neg hc] at hs
        rw [if_neg (fun h => hc ((okN_one h1).1 h))] at hm
        exact ⟨fun _ => hm, fun h => absurd hs h⟩
    rw [if_neg h1] at hs
    by_cases h17 : x.op = 17
    · rw [if_pos h17] at hs
      by_cases hc : x.a = 0 ∧ x.b = 0 ∧ nameB x.n = true ∧ zeroV x.v = true
      · rw [if_pos hc] at hs
        rw [if_pos ((okN_name h17).2 hc)] at hm
        refine ⟨fun h => absurd h (by omega), fun _ => ?_⟩
        rw [hm, hs, depthT_leaf hx (.inr h17), pushT, roots_leaf (.inr h17)]
        simp only [List.map_nil, List.reverse_nil, List.nil_append, Nat.add_sub_cancel]
        congr 1; omega
      · rw [if_neg hc] at hs
        rw [if_neg (fun h => hc ((okN_name h17).1 h))] at hm
        exact ⟨fun _ => hm, fun h => absurd hs h⟩
    rw [if_neg h17] at hs
    by_cases hb : x.op < 4 ∨ 16 < x.op
    · rw [if_pos (by rcases hb with hb | hb <;> simp [hb])] at hs
      rw [okN_no h1 h17 hb, if_neg (by simp)] at hm
      exact ⟨fun _ => hm, fun h => absurd hs h⟩
    by_cases h5 : x.op ≤ 5
    · have ho : 4 ≤ x.op ∧ x.op ≤ 5 := by omega
      by_cases hc : x.b = 0 ∧ emptyB x.n = true ∧ zeroV x.v = true
      · rw [if_neg (by rw [hc.2.1, hc.2.2]; simp; omega), if_pos h5] at hs
        rw [if_pos ((okN_op1 ho).2 hc), pushT, roots_op1 ho] at hm
        simp only [List.map_cons, List.map_nil, List.reverse_cons, List.reverse_nil, List.nil_append, List.singleton_append] at hm
        cases k with
        | zero =>
          rw [sizeT_out (l := l) (i := ((0 : Nat) : Int) - 1) (.inl (by omega)), if_neg (by simp)] at hs
          exact ⟨fun _ => by rw [hm]; rfl, fun h => absurd hs h⟩
        | succ j =>
          have ej : (((j + 1 : Nat) : Int) - 1) = (j : Int) := by omega
          rw [ej] at hs
          by_cases ha : x.a = (j : Int)
          · have hi := ih j (by omega) (by omega) (d + 1) R (max dep d)
            rw [ha] at hm
            by_cases hz : sizeT l j = 0
            · rw [if_neg (fun h => h.2.2 hz)] at hs
              exact ⟨fun _ => by rw [hm]; exact hi.1 hz, fun h => absurd hs h⟩
            · rw [if_pos ⟨ha, hc.1, hz⟩] at hs
              refine ⟨fun h => absurd h (by omega), fun _ => ?_⟩
              have hd := depthT_at hx (by rw [ha]; omega) (by rw [hc.1]; omega)
              rw [if_neg (by omega), if_neg (by omega), ha] at hd
              rw [hm, hi.2 hz, hs, hd]
              congr 1 <;> omega
          · rw [if_neg (fun h => ha h.1)] at hs
            exact ⟨fun _ => by rw [hm]; exact mrun_off ha _ _, fun h => absurd hs h⟩
      · have hf : okN x = false := by
          cases e : okN x
          · rfl
          · exact absurd ((okN_op1 ho).1 e) hc
        rw [hf, if_neg (by simp)] at hm
        refine ⟨fun _ => hm, fun h => absurd ?_ h⟩
        rw [hs]
        split
        · rfl
        · rename_i hh
          rw [if_neg (fun h => hc ⟨h.2.1, by
            cases e : emptyB x.n
            · exact absurd (.inr (.inr (.inl e))) hh
            · rfl, by
            cases e : zeroV x.v
            · exact absurd (.inr (.inr (.inr e))) hh
            · rfl⟩)]
    · have ho : 6 ≤ x.op ∧ x.op ≤ 16 := by omega
      by_cases hc : emptyB x.n = true ∧ zeroV x.v = true
      · rw [if_neg (by rw [hc.1, hc.2]; simp; omega), if_neg h5] at hs
        rw [if_pos ((okN_op2 ho).2 hc), pushT, roots_op2 ho] at hm
        simp only [List.map_cons, List.map_nil, List.reverse_cons, List.reverse_nil, List.nil_append, List.cons_append] at hm
        cases k with
        | zero =>
          rw [sizeT_out (l := l) (i := ((0 : Nat) : Int) - 1) (.inl (by omega)), if_neg (by simp)] at hs
          exact ⟨fun _ => by rw [hm]; rfl, fun h => absurd hs h⟩
        | succ j =>
          have ej : (((j + 1 : Nat) : Int) - 1) = (j : Int) := by omega
          rw [ej] at hs
          by_cases hbj : x.b = (j : Int)
          · rw [hbj] at hm
            have hi := ih j (by omega) (by omega) (d + 1) ((x.a, d + 1) :: R) (max dep d)
            by_cases hz : sizeT l j = 0
            · rw [if_neg (fun h => h.1 hz)] at hs
              exact ⟨fun _ => by rw [hm]; exact hi.1 hz, fun h => absurd hs h⟩
            · have hle := sizeT_le l j
              have hm2 := hm.trans (hi.2 hz)
              by_cases hfull : sizeT l j = j + 1
              · rw [hfull, show (j : Int) - ((j + 1 : Nat) : Int) = -1 by omega, sizeT_out (l := l) (i := -1) (.inl (by omega)), if_neg (fun h => h.2.2.2 rfl)] at hs
                exact ⟨fun _ => by rw [hm2, hfull, Nat.sub_self, mrun_zero], fun h => absurd hs h⟩
              · obtain ⟨q, hq⟩ : ∃ q, j = q + sizeT l j := ⟨j - sizeT l j, by omega⟩
                have e2 : ((j : Int) - (sizeT l j : Nat)) = (q : Int) := by omega
                rw [e2] at hs
                rw [show j + 1 - sizeT l j = q + 1 by omega] at hm2
                by_cases ha : x.a = (q : Int)
                · rw [ha] at hm2
                  have hj := ih q (by omega) (by omega) (d + 1) R (max (max dep d) (d + 1 - 1 + (depthT l j : Nat)))
                  by_cases hz2 : sizeT l q = 0
                  · rw [if_neg (fun h => h.2.2.2 hz2)] at hs
                    exact ⟨fun _ => by rw [hm2]; exact hj.1 hz2, fun h => absurd hs h⟩
                  · rw [if_pos ⟨hz, hbj, ha, hz2⟩] at hs
                    refine ⟨fun h => absurd h (by omega), fun _ => ?_⟩
                    have hd := depthT_at hx (by rw [ha]; omega) (by rw [hbj]; omega)
                    rw [if_neg (by omega), if_pos (by omega), ha, hbj] at hd
                    have hle2 := sizeT_le l q
                    rw [hm2, hj.2 hz2, hs, hd]
                    congr 1 <;> omega
                · rw [if_neg (fun h => ha h.2.2.1)] at hs
                  exact ⟨fun _ => by rw [hm2]; exact mrun_off ha _ _, fun h => absurd hs h⟩
          · rw [if_neg (fun h => hbj h.2.1)] at hs
            exact ⟨fun _ => by rw [hm]; exact mrun_off hbj _ _, fun h => absurd hs h⟩
      · have hf : okN x = false := by
          cases e : okN x
          · rfl
          · exact absurd ((okN_op2 ho).1 e) hc
        rw [hf, if_neg (by simp)] at hm
        refine ⟨fun _ => hm, fun h => absurd ?_ h⟩
        rw [hs, if_pos]
        cases e : emptyB x.n
        · exact .inr (.inr (.inl rfl))
        · cases e2 : zeroV x.v
          · exact .inr (.inr (.inr rfl))
          · exact absurd ⟨e, e2⟩ hc
/-- What measure tells. -/
def measT (l : List Ex) (i : Int) : Int × Int := match mrun l (i + 1).toNat [(i, 1)] 0 with
  | none => (0, 0)
  | some (k, d) => (i + 1 - (k : Nat), d)
theorem meas_size (l : List Ex) (i : Int) : (measT l i).1 = (sizeT l i : Nat) := by
  by_cases hn : i < 0
  · rw [measT, show (i + 1).toNat = 0 by omega, mrun_zero, sizeT_out (.inl hn)]; rfl
  · obtain ⟨k, rfl⟩ : ∃ k : Nat, i = k := ⟨i.toNat, by omega⟩
    rw [measT, show ((k : Int) + 1).toNat = k + 1 by omega]
    by_cases hk : k < l.length
    · have h := mrun_node l k hk 1 [] 0
      have hle := sizeT_le l k
      by_cases hz : sizeT l k = 0
      · rw [h.1 hz, hz]; rfl
      · rw [h.2 hz, mrun_nil]; simp only; omega
    · rw [mrun_out (List.getElem?_eq_none (by omega)), sizeT_out (.inr (by omega))]; rfl
theorem meas_depth (l : List Ex) (i : Int) : (measT l i).2 = if sizeT l i = 0 then 0 else ((depthT l i : Nat) : Int) := by
  by_cases hn : i < 0
  · rw [measT, show (i + 1).toNat = 0 by omega, mrun_zero, sizeT_out (.inl hn)]; rfl
  · obtain ⟨k, rfl⟩ : ∃ k : Nat, i = k := ⟨i.toNat, by omega⟩
    rw [measT, show ((k : Int) + 1).toNat = k + 1 by omega]
    by_cases hk : k < l.length
    · have h := mrun_node l k hk 1 [] 0
      by_cases hz : sizeT l k = 0
      · rw [h.1 hz, if_pos hz]
      · rw [h.2 hz, mrun_nil, if_neg hz]; simp only; omega
    · rw [mrun_out (List.getElem?_eq_none (by omega)), sizeT_out (.inr (by omega))]; rfl
end Go.Proofs.YtojabkhfkbfeaaaGreatDoor
