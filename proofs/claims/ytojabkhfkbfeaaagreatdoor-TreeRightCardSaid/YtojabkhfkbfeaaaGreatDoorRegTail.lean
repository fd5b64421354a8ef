/- A region that draws its order and whose last stores hit cells that it loads: what holds of the world is asked up to the first of these stores alone. No program. -/
import Derived.OrdersHeld
import Derived.Deep.RegionHeld
import Derived.Test.YtojabkhfkbfeaaaGreatDoorBase
namespace Go.Proofs.YtojabkhfkbfeaaaGreatDoor
open Go Go.RowKit
set_option linter.unusedVariables false

section
variable {P : Program} {ops : Array Oper} {Q : Exit → Act → World → Prop} {md : Region.Mode} {S : World → Prop} {bars : List Nat}

/-- One of the operations has come up. -/
def past (bars : List Nat) (l : Array Bool) : Bool := bars.any fun k => l.getD k true
/-- Whatever order is picked from here on; S holds as long as none of the operations bars has come up. -/
def wpB (P : Program) (md : Region.Mode) (ops : Array Oper) (Q : Exit → Act → World → Prop) (S : World → Prop) (bars : List Nat) : Nat → Array Bool → Act → World → Prop
  | 0, listed, a, w => Region.ready md ops listed = [] ∧ Q .normal a w
  | fuel + 1, listed, a, w =>
    (Region.ready md ops listed = [] → Q .normal a w) ∧
    ∀ i ∈ Region.ready md ops listed, wpOp P ops Q i (fun a' w' => (past bars (listed.setIfInBounds i true) = false → S w') ∧ wpB P md ops Q S bars fuel (listed.setIfInBounds i true) a' w') a w
theorem wpAny_of_B : ∀ (fuel : Nat) (listed : Array Bool) (a : Act) (w : World), wpB P md ops Q S bars fuel listed a w → wpAny P md ops Q fuel listed a w
  | 0, _, _, _, h => h
  | fuel + 1, _, _, _, h => ⟨h.1, fun i hi => wpOp_mono (fun a' w' h' => wpAny_of_B fuel _ a' w' h'.2) (h.2 i hi)⟩
/-- The operations that wait for number i. -/
def waitB (md : Region.Mode) (ops : Array Oper) (i : Nat) (l : List Nat) (j : Nat) : Bool :=
  j != i && ((ops[j]?).map (fun o => o.after.any (fun e => Region.binds md e && (e.on == i || l.contains e.on)))).getD false
def depF (md : Region.Mode) (ops : Array Oper) (i : Nat) : Nat → List Nat → List Nat
  | 0, l => l
  | n + 1, l => depF md ops i n ((List.range ops.size).filter (waitB md ops i l))
/-- The operations bars wait for number i, and none of those that do has come up. -/
def depOk (md : Region.Mode) (ops : Array Oper) (dep : List Nat) (i : Nat) (bars : List Nat) (listed : Array Bool) : Bool :=
  dep.all (fun j => !listed.getD j true && waitB md ops i dep j) && bars.all (fun k => dep.contains k)
theorem getD_tf {l : Array Bool} {j : Nat} (h : l.getD j true = false) : l.getD j false = false := by
  rcases Nat.lt_or_ge j l.size with h' | h'
  · simp only [Array.getD_eq_getD_getElem?, Array.getElem?_eq_getElem h', Option.getD_some] at h ⊢
    exact h
  · simp [h'] at h
theorem wpB_first {i : Nat} {oi : Oper} {v : Value} (hi : ops[i]? = some oi) (hsel : ∀ (j : Nat) (o : Oper) cs b, ops[j]? = some o → o.op ≠ .select cs b)
    (hQ : ∀ c a w, Q (.panic c) (a.put oi.dst v) w → Q (.panic c) a w) (dep : List Nat)
    (hdep : ∀ j ∈ dep, j ≠ i ∧ ∃ oj, ops[j]? = some oj ∧ ∃ e ∈ oj.after, Region.binds md e = true ∧ (e.on = i ∨ e.on ∈ dep)) (hbar : ∀ k ∈ bars, k ∈ dep) :
    ∀ (fuel : Nat) (listed : Array Bool) (a : Act) (w : World), (∀ j ∈ dep, listed.getD j true = false) →
      (∀ j oj, ops[j]? = some oj → j ≠ i → listed.getD j true = false → (∀ e ∈ oj.after, Region.binds md e = true → e.on ≠ i) → oi.apart ops oj = true) →
      i ∈ Region.ready md ops listed → YieldsIf P ops S oi v a → S w →
      wpB P md ops Q S bars fuel (listed.setIfInBounds i true) (a.put oi.dst v) w → wpB P md ops Q S bars (fuel + 1) listed a w := by
  intro fuel
  induction fuel with
  | zero =>
    intro listed a w _ _ hr hy hS H
    refine ⟨fun h => (by rw [h] at hr; cases hr), fun j hj => ?_⟩
    by_cases hji : j = i
    · subst hji; exact hy.wpOp hi hS ⟨fun _ => hS, H⟩
    · have := ready_mono hj hji
      rw [H.1] at this
      cases this
  | succ fuel ih =>
    intro listed a w hun0 hfree hr hy hS H
    refine ⟨fun h => (by rw [h] at hr; cases hr), fun j hj => ?_⟩
    by_cases hji : j = i
    · subst hji; exact hy.wpOp hi hS ⟨fun _ => hS, H⟩
    · have h1 := H.2 j (ready_mono hj hji)
      obtain ⟨hjun, oj, hoj, hall⟩ := mem_ready.1 hj
      have hi0 := getD_tf (mem_ready.1 hr).1
      have hjd : j ∉ dep := fun hjd => by
        obtain ⟨_, oj', hoj', e, he, hb, hon⟩ := hdep j hjd
        rw [hoj] at hoj'
        cases hoj'
        have h3 := hall e he hb
        rcases hon with hon | hon
        · rw [hon, hi0] at h3; cases h3
        · rw [getD_tf (hun0 _ hon)] at h3; cases h3
      have hnot : ∀ e ∈ oj.after, Region.binds md e = true → e.on ≠ i := fun e he hb heq => by
        have h3 := hall e he hb
        rw [heq, hi0] at h3
        cases h3
      have hpast : past bars ((listed.setIfInBounds i true).setIfInBounds j true) = false := by
        unfold past
        rw [List.any_eq_false]
        intro k hk
        have hkd := hbar k hk
        rw [getD_set_ne true (show j ≠ k from fun e => hjd (by rw [e]; exact hkd)), getD_set_ne true (Ne.symm (hdep k hkd).1), hun0 k hkd]
        simp
      have h2 := wpOp_putIf hoj (hfree j oj hoj hji hjun hnot) (fun cs b => hsel i oi cs b hi) (fun cs b => hsel j oj cs b hoj) hQ hy h1
      have hfree' : ∀ k ok, ops[k]? = some ok → k ≠ i → (listed.setIfInBounds j true).getD k true = false →
          (∀ e ∈ ok.after, Region.binds md e = true → e.on ≠ i) → oi.apart ops ok = true := fun k ok hk hki hun hno => by
        refine hfree k ok hk hki ?_ hno
        by_cases hjk : j = k
        · subst hjk; exact hjun
        · rw [getD_set_ne true hjk] at hun; exact hun
      refine wpOp_mono (fun a' w' h3 => ⟨fun _ => h3.2.1 hpast, ih (listed.setIfInBounds j true) a' w' (fun k hk => ?_) hfree' (ready_mono hr (Ne.symm hji)) h3.1 (h3.2.1 hpast) ?_⟩) h2
      · rw [getD_set_ne true (show j ≠ k from fun e => hjd (by rw [e]; exact hk))]; exact hun0 k hk
      · rw [Array.setIfInBounds_comm _ _ hji]
        exact h3.2.2
/-- Take number i first, for which the operations bars wait. -/
theorem wpB_take {i : Nat} {oi : Oper} {v : Value} {fuel : Nat} {listed : Array Bool} {a : Act} {w : World} (dep : List Nat) (hi : ops[i]? = some oi)
    (hs : Region.noSelect ops = true) (hf : Region.free md ops listed i = true) (hr : (Region.ready md ops listed).contains i = true)
    (hd : depOk md ops dep i bars listed = true)
    (hQ : ∀ c a w, Q (.panic c) (a.put oi.dst v) w → Q (.panic c) a w) (hy : YieldsIf P ops S oi v a) (hS : S w)
    (h : wpB P md ops Q S bars fuel (listed.setIfInBounds i true) (a.put oi.dst v) w) : wpB P md ops Q S bars (fuel + 1) listed a w := by
  unfold depOk at hd
  rw [Bool.and_eq_true, List.all_eq_true, List.all_eq_true] at hd
  refine wpB_first hi (Region.noSelect_spec hs) hQ dep (fun j hj => ?_) (fun k hk => by simpa using hd.2 k hk) fuel listed a w (fun j hj => ?_) (Region.free_spec hi hf) (by simpa using hr) hy hS h
  · have h1 := hd.1 j hj
    rw [Bool.and_eq_true] at h1
    have h2 := h1.2
    unfold waitB at h2
    rw [Bool.and_eq_true, bne_iff_ne] at h2
    refine ⟨h2.1, ?_⟩
    cases ho : ops[j]? with
    | none => rw [ho] at h2; cases h2.2
    | some oj =>
      rw [ho] at h2
      obtain ⟨e, he, hb⟩ := Array.any_eq_true'.1 h2.2
      rw [Bool.and_eq_true, Bool.or_eq_true, beq_iff_eq] at hb
      exact ⟨oj, rfl, e, he, hb.1, hb.2.imp id (fun h => by simpa using h)⟩
  · have h1 := hd.1 j hj
    rw [Bool.and_eq_true] at h1
    simpa using h1.1
/-- The one operation that may come up next comes up: ahead of the first of bars. -/
theorem wpB_step {i : Nat} {o : Oper} {fuel : Nat} {listed : Array Bool} {a : Act} {w : World} (ho : ops[i]? = some o) (hr : Region.ready md ops listed = [i])
    (h : ∀ K' : Act → World → Prop, Shut (∀ a w, S w → (S w → wpB P md ops Q S bars fuel (listed.setIfInBounds i true) a w) → K' a w) → if Region.wanted o (yielded ops a.tmps) = true then Oper.wp P o a w K' Q else K' (a.put o.dst undef) w) :
    wpB P md ops Q S bars (fuel + 1) listed a w :=
  ⟨fun h0 => (by rw [h0] at hr; cases hr), fun j hj => by
    rw [hr, List.mem_singleton] at hj
    subst hj
    exact wpOp_step ho (fun K' hK => h K' (fun a w hS hW => hK a w ⟨fun _ => hS, hW hS⟩))⟩
/-- The same, from the first of bars on. -/
theorem wpB_past {i : Nat} {o : Oper} {fuel : Nat} {listed : Array Bool} {a : Act} {w : World} (ho : ops[i]? = some o) (hr : Region.ready md ops listed = [i]) (hp : past bars (listed.setIfInBounds i true) = true)
    (h : ∀ K' : Act → World → Prop, Shut (∀ a w, wpB P md ops Q S bars fuel (listed.setIfInBounds i true) a w → K' a w) → if Region.wanted o (yielded ops a.tmps) = true then Oper.wp P o a w K' Q else K' (a.put o.dst undef) w) :
    wpB P md ops Q S bars (fuel + 1) listed a w :=
  ⟨fun h0 => (by rw [h0] at hr; cases hr), fun j hj => by
    rw [hr, List.mem_singleton] at hj
    subst hj
    exact wpOp_step ho (fun K' hK => h K' (fun a w hW => hK a w ⟨fun h => absurd (hp.symm.trans h) (by decide), hW⟩))⟩
/-- Two operations may come up next. -/
theorem wpB_two {i j : Nat} {o o2 : Oper} {fuel : Nat} {listed : Array Bool} {a : Act} {w : World} (ho : ops[i]? = some o) (ho2 : ops[j]? = some o2) (hr : Region.ready md ops listed = [i, j])
    (h : ∀ K' : Act → World → Prop, Shut (∀ a w, S w → (S w → wpB P md ops Q S bars fuel (listed.setIfInBounds i true) a w) → K' a w) → if Region.wanted o (yielded ops a.tmps) = true then Oper.wp P o a w K' Q else K' (a.put o.dst undef) w)
    (h2 : ∀ K' : Act → World → Prop, Shut (∀ a w, S w → (S w → wpB P md ops Q S bars fuel (listed.setIfInBounds j true) a w) → K' a w) → if Region.wanted o2 (yielded ops a.tmps) = true then Oper.wp P o2 a w K' Q else K' (a.put o2.dst undef) w) :
    wpB P md ops Q S bars (fuel + 1) listed a w :=
  ⟨fun h0 => (by rw [h0] at hr; cases hr), fun k hk => by
    rw [hr] at hk
    simp only [List.mem_cons, List.not_mem_nil, or_false] at hk
    rcases hk with rfl | rfl
    · exact wpOp_step ho (fun K' hK => h K' (fun a w hS hW => hK a w ⟨fun _ => hS, hW hS⟩))
    · exact wpOp_step ho2 (fun K' hK => h2 K' (fun a w hS hW => hK a w ⟨fun _ => hS, hW hS⟩))⟩
theorem wpB_done {listed : Array Bool} {a : Act} {w : World} (hr : Region.ready md ops listed = []) (h : Q .normal a w) :
    ∀ fuel, wpB P md ops Q S bars fuel listed a w
  | 0 => ⟨hr, h⟩
  | _ + 1 => ⟨fun _ => h, by rw [hr]; simp⟩
theorem wp_region_B {id : Nat} {a : Act} {w : World} (bars : List Nat) (hm : P.follows .mixedOrders = true) (hS : S w.drew)
    (h : S w.drew → wpB P .any ops Q S bars ops.size (Array.replicate ops.size false) a w.drew) : (Code.region id ops true).wp P Q a w :=
  wp_region_any hm (wpAny_of_B _ _ _ _ (h hS))
end
end Go.Proofs.YtojabkhfkbfeaaaGreatDoor
