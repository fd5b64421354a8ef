/- What binding.Under1 does with a binding: the bindings under it that lack one slot. -/
import Derived.Test.YtjohiehlnbgdaaaDoorInRound
import Derived.Test.YtjohiehlnbgdaaaDoorSlotBack
import Derived.Test.YtjohiehlnbgdaaaDoorSlotConcat
import Derived.Test.YtjohiehlnbgdaaaDoorSlotCls
import Derived.Test.YtjohiehlnbgdaaaDoorSlotOut
namespace Go.Proofs.YtjohiehlnbgdaaaDoor
open Go.RowKit Go.Shelf
set_option linter.unusedVariables false
attribute [local go_sem] Oper.semAt_some

theorem outs_down (L : List Sd) : ∀ n, outsL L n = (downL n).map (outL L)
  | 0 => rfl
  | n + 1 => by rw [outsL, downL, List.map_cons, outs_down L n]
/-- Where a slice's rest begins. -/
def hiAd (g off ca k : Nat) : Addr := if ca = k then ⟨g, off, none⟩ else ⟨g, off + k * 5, none⟩
theorem SIn.lo {w : World} {g off la : Nat} {L : List Sd} (h : SIn w (some ⟨g, off, none⟩) la L) {k : Nat} (hk : k ≤ la) : SIn w (some ⟨g, off, none⟩) k (L.take k) :=
  ⟨by rw [List.length_take, h.leng]; omega, by have := h.small; omega, fun h0 => by
    obtain ⟨g', off', e, hg, hr⟩ := h.row (by omega)
    cases e
    refine ⟨g, off, rfl, hg, fun n hn => ?_⟩
    have e2 : (L.take k).getD n default = L.getD n default := by simp [List.getD, hn]
    rw [e2]
    exact hr n (by omega), fun z hz => h.fits z (List.mem_of_mem_take hz)⟩
theorem SIn.hi {w : World} {g off la : Nat} {L : List Sd} (h : SIn w (some ⟨g, off, none⟩) la L) {k ca : Nat} (hk : k ≤ la) (hc : la ≤ ca) : SIn w (some (hiAd g off ca k)) (la - k) (L.drop k) :=
  ⟨by rw [List.length_drop, h.leng], by have := h.small; omega, fun h0 => by
    obtain ⟨g', off', e, hg, hr⟩ := h.row (by omega)
    cases e
    refine ⟨g, off + k * 5, by rw [hiAd, if_neg (by omega)], hg, fun n hn => ?_⟩
    have e2 : (L.drop k).getD n default = L.getD (k + n) default := by simp [List.getD, List.getElem?_drop]
    rw [e2, show off + k * 5 + n * 5 = off + (k + n) * 5 by omega]
    exact hr (k + n) (by omega), fun z hz => h.fits z (List.mem_of_mem_drop hz)⟩
theorem run_lo (g off la ca k : Nat) (hk : k ≤ la) (hc : la ≤ ca) (w : World) : (Instr.sliceAt 22 (.slice (some ⟨g, off, none⟩) la ca) none (some (.int .i64 (k : Int))) none).run Tryd.prog w = .ok (.slice (some ⟨g, off, none⟩) k ca) w := by
  have h1 : ((0 : Int) ≤ (k : Int) ∧ (k : Int) ≤ (ca : Int)) := by omega
  go_simp
theorem run_hi (g off la ca k : Nat) (x : Int) (hx : x = (k : Nat)) (hk : k ≤ la) (hc : la ≤ ca) (w : World) : (Instr.sliceAt 22 (.slice (some ⟨g, off, none⟩) la ca) (some (.int .i64 x)) none none).run Tryd.prog w = .ok (.slice (some (hiAd g off ca k)) (la - k) (ca - k)) w := by
  subst hx
  by_cases e : ca = k
  · subst e
    have h1 : ((0 : Int) ≤ (ca : Int) ∧ (ca : Int) ≤ (la : Int)) := by omega
    go_simp
    simp [hiAd]
  · have h1 : ((0 : Int) ≤ (k : Int) ∧ (k : Int) ≤ (la : Int)) := by omega
    go_simp
    simp [hiAd, e]

theorem SlotObj.other {w : World} {row : Option Nat} {a : Option Addr} (h : SlotObj w a) (hr : ∀ r, row = some r → ∃ o : Obj, w.heap[r]? = some o ∧ o.isCells = false) : ∀ g off, a = some ⟨g, off, none⟩ → some g ≠ row := fun g off e k => by
  obtain ⟨cs, f, e1⟩ := h g off e
  obtain ⟨o, ho, hc⟩ := hr g k.symm
  rw [e1] at ho
  cases ho
  cases hc
theorem Cls.other {w w' : World} {row : Option Nat} {us : List Value} {MM : List (List Sd)} (h : Cls w us MM) (hg : w.grownBy w' row) (hr : ∀ r, row = some r → ∃ o : Obj, w.heap[r]? = some o ∧ o.isCells = false) : Cls w' us MM := ⟨h.leng, fun m hm => by
  obtain ⟨a, c, e, hs, hob⟩ := h.at' m hm
  exact ⟨a, c, e, hs.grown hg (hob.other hr), hob.grown hg (hob.other hr)⟩⟩
theorem Cls.box {w w' : World} {B : Nat} {us : List Value} {MM : List (List Sd)} {t : TypeId} {v : Value} (h : Cls w us MM) (hb : _root_.Go.Boxed w B t v) (ht : t ≠ 36) (hg : w.grownBy w' (some B)) : Cls w' us MM := ⟨h.leng, fun m hm => by
  obtain ⟨a, c, e, hs, hob⟩ := h.at' m hm
  have hne : ∀ g off, a = some ⟨g, off, none⟩ → some g ≠ some B := fun g off e k => by
    obtain ⟨cs, f, e1⟩ := hob g off e
    cases k
    rw [show w.heap[B]? = _ from hb] at e1
    simp at e1
    exact ht e1.2.1
  exact ⟨a, c, e, hs.grown hg hne, hob.grown hg hne⟩⟩
theorem holdsCls_own {β : Type} (n₀ B : Nat) (t e : TypeId) (k : β → Nat) (f : β → List (List Sd)) : Own (fun s W => ∃ v us, _root_.Go.Boxed W B t v ∧ W.ownsRow n₀ e 1 v (k s) us ∧ Cls W us (f s)) := by
  rintro s X Y row ⟨v, us, hv, hr, hG⟩ hg hrow
  refine ⟨v, us, hv.kept hg (fun e' => ?_), hr.kept hg ?_, hG.other hg hrow⟩
  · obtain ⟨o, ho, hc⟩ := hrow B e'.symm
    rw [show X.heap[B]? = _ from hv] at ho; cases ho; cases hc
  · rcases hr.2 with ⟨rfl, _⟩ | ⟨g, cap, cur, rfl, _, hgb, _⟩
    · exact .inl rfl
    · refine .inr fun e' => ?_
      obtain ⟨o, ho, hc⟩ := hrow g (by simpa [Value.ownBlock] using e'.symm)
      rw [hgb] at ho; cases ho; cases hc
theorem keeps_below {W W' : World} (h : Below W.heap.size W W') : KeepsOthers W W' := ⟨h.size, fun k o hk _ => (h.block k (Array.getElem?_eq_some_iff.1 hk).1).trans hk⟩
theorem keeps_row {W W' : World} {n₀ : Nat} {e : TypeId} {size : Nat} {v : Value} {n : Nat} {xs : List Value} (h : W.ownsRow n₀ e size v n xs) (hg : W.grownBy W' v.ownBlock) : KeepsOthers W W' :=
  KeepsOthers.of_grownBy hg fun j o ej hj => by
    rcases h.2 with ⟨rfl, _⟩ | ⟨g, cap, cur, rfl, _, hgb, _⟩
    · simp [Value.ownBlock] at ej
    · obtain rfl : g = j := by simpa [Value.ownBlock] using ej
      rw [hgb] at hj; cases hj; rfl
theorem box_row {W W' : World} {n₀ B : Nat} {t e : TypeId} {size : Nat} {v u : Value} {n : Nat} {xs : List Value} (hb : _root_.Go.Boxed W B t u) (h : W.ownsRow n₀ e size v n xs) (hB : B < n₀) (hg : W.grownBy W' v.ownBlock) : _root_.Go.Boxed W' B t u :=
  hb.kept hg (fun e' => by have := (h.lt _ e'.symm).1; omega)
theorem box_below {W W' : World} {B : Nat} {t : TypeId} {u : Value} (hb : _root_.Go.Boxed W B t u) (h : Below W.heap.size W W') : _root_.Go.Boxed W' B t u := (h.block B hb.lt).trans hb
theorem lin_two (W : World) {x y : Value} {A B : List Sd} {a b : Option Addr} {c d : Nat} (hx : x = .slice a A.length c) (hy : y = .slice b B.length d) (hA : SIn W a A.length A) (hB : SIn W b B.length B) (t : TypeId) :
    LIn (W.alloc (.cells #[x, y] t)) (some ⟨W.heap.size, 0, none⟩) 2 [A, B] [x, y] := by
  have k := (Below.refl W.heap.size W).alloc (Nat.le_refl _) (.cells #[x, y] t)
  refine ⟨?_, rfl, by omega, fun _ => ⟨W.heap.size, 0, rfl, by simp, fun j u hj => ?_⟩⟩
  · subst hx; subst hy
    exact Vs.append (Vs.one (hA.below k)) (Vs.one (hB.below k))
  · rw [World.cell?_alloc_at (hn := rfl)]
    simpa using hj

set_option maxRecDepth 100000 in
set_option maxHeartbeats 2000000 in
theorem bUnder1_calls (a : Option Addr) (la ca : Nat) (L : List Sd) (w : World) (hs : SIn w a la L) (hla : la ≤ 8) (hca : la ≤ ca) (hcm : ca ≤ maxLen) :
    Calls Tryd.prog 22 #[.slice a la ca] w (ListPost (outsL L la) w) := by
  refine (callsIn_wide (n := 6)).1 ?_
  obtain ⟨i0, hi, hz0, hz1, hz2⟩ := info_parts infoL
  have t0 : decide ((8 : Int) < (la : Int)) = false := decide_eq_false (by omega)
  refine callsIn_of_wp_marks Tryd.func22 rfl trivial ?_ rfl
  simp only [Tryd.ntmps22, List.size_toArray, List.length_cons, List.length_nil, Nat.reduceAdd, Nat.reduceSub, Array.replicate_succ, Array.replicate_zero, List.push_toArray, List.append_toArray, List.nil_append, List.cons_append]
  gi_wp2_with (refine ⟨trivial, ?_⟩; gi_at_call 39; refine (callsIn_wide.2 (back_calls a la ca _)).mono ?_; rintro e w2 ⟨rfl, rfl⟩)
  have bB := ((_root_.Go.Boxed.new w 22 (.slice a la ca)).alloc (.cells #[.slice none 0 0] 31)).alloc (.cells #[.slice a la ca] 22)
  have bL := (_root_.Go.Boxed.new (w.alloc (.cells #[.slice a la ca] 22)) 31 (.slice none 0 0)).alloc (.cells #[.slice a la ca] 22)
  have bS := _root_.Go.Boxed.new ((w.alloc (.cells #[.slice a la ca] 22)).alloc (.cells #[.slice none 0 0] 31)) 22 (.slice a la ca)
  simp only [World.size_alloc] at bB bL bS
  have hB0 := (((Below.refl w.heap.size w).alloc (Nat.le_refl _) (.cells #[.slice a la ca] 22)).alloc (by simp) (.cells #[.slice none 0 0] 31)).alloc (by simp; omega) (.cells #[.slice a la ca] 22)
  have hsz : (((w.alloc (.cells #[.slice a la ca] 22)).alloc (.cells #[.slice none 0 0] 31)).alloc (.cells #[.slice a la ca] 22)).heap.size = w.heap.size + 3 := by simp
  obtain ⟨W0, hW0⟩ : ∃ W0, ((w.alloc (.cells #[.slice a la ca] 22)).alloc (.cells #[.slice none 0 0] 31)).alloc (.cells #[.slice a la ca] 22) = W0 := ⟨_, rfl⟩
  rw [hW0] at bB bL bS hB0 hsz ⊢
  clear hW0
  refine wpIn_rangeFunc_ownH rfl (by omega) (gf := 54) (lb := #[.pointer (some ⟨w.heap.size + 1 + 1, 0, none⟩)]) rfl trivial (enters_of Tryd.func54 (by kernel_rfl) rfl)
    (back_stops 5 (by omega) (w.heap.size + 1 + 1) a la ca L w hs W0 hB0 bS.cell) kpB_t (kpB_b (by omega) (by omega) (by omega)) (Below.refl _ _) (fun _ => rfl)
    (fun pre W => (∃ v us, _root_.Go.Boxed W (w.heap.size + 1) 31 v ∧ W.ownsRow (w.heap.size + 3) 22 1 v pre.length us ∧ Cls W us (pre.map (fun x => outL L x.val))) ∧ ((_root_.Go.Boxed W w.heap.size 22 (.slice a la ca) ∧ _root_.Go.Boxed W (w.heap.size + 1 + 1) 22 (.slice a la ca)) ∧ Below w.heap.size w W))
    (fun c pre W => False)
    (OwnFrom.and (Own.from (holdsCls_own (w.heap.size + 3) (w.heap.size + 1) 31 22 (fun pre : List (Fin la) => pre.length) (fun pre => pre.map (fun x => outL L x.val))) _) (OwnFrom.and (OwnFrom.and (Own.from (boxed_own _ _ _) _) (Own.from (boxed_own _ _ _) _)) (ownFrom_below (Nat.le_refl _) (by omega))))
    (fun c => ownFrom_pure _ _)
    ⟨⟨_, [], bL, World.ownsRow_nil _ _ _ _, Cls.nil _⟩, ⟨bB, bS⟩, hB0⟩
    (fun x a' _ => a' = { tmps := #[.slice a la ca, .pointer (some ⟨w.heap.size, 0, none⟩), .slice none 0 0, .pointer (some ⟨w.heap.size + 1, 0, none⟩), .int .i64 (x.val : Int), .slice a la ca, .int .i64 (la : Int), .bool false, .slice a la ca, .func (.func 54) #[] #[.pointer (some ⟨w.heap.size + 1 + 1, 0, none⟩)], .int .i64 (x.val : Int), .agg #[.int .i64 (L.getD x.val default).x, .int .i64 (L.getD x.val default).v.k, .int .i64 (L.getD x.val default).v.i, .string (L.getD x.val default).v.s, .bool (L.getD x.val default).v.b], undef, undef, undef, undef, undef, undef, undef, undef, undef, undef, undef, undef, undef], defers := [] })
    (fun _ _ _ _ _ _ hs _ _ => hs)
    ?assign ?body ?done ?stop
  case assign =>
    rintro l pre x W K hi hK
    dsimp only [encK]
    gi_wp2
    exact hK _ _ (KeepsFrom.refl _ _) ⟨Below.refl _ _, rfl, rfl⟩ hi rfl
  case body =>
    rintro l pre x a' W hl _ ⟨⟨v, us, hv, hrw, hcl⟩, ⟨bB1, bS1⟩, hB1⟩ rfl hlt
    obtain ⟨k, hk⟩ := x
    obtain ⟨g, off, rfl, hg, _⟩ := hs.row (by omega)
    obtain ⟨va, vc, rfl⟩ := own_slice hrw
    have hsW := hs.below hB1
    have h1 := hsW.lo (k := k) (by omega)
    have h2 := hsW.hi (k := k + 1) (ca := ca) (by omega) hca
    have l1 := h1.leng
    have l2 := h2.leng
    have k8 := (Below.refl W.heap.size W).drew.alloc (Nat.le_refl _) (.cells #[.slice (some ⟨g, off, none⟩) k ca, .slice (some (hiAd g off ca (k + 1))) (la - (k + 1)) (ca - (k + 1))] 22)
    have LI := lin_two W.drew (x := .slice (some ⟨g, off, none⟩) k ca) (y := .slice (some (hiAd g off ca (k + 1))) (la - (k + 1)) (ca - (k + 1))) (a := some ⟨g, off, none⟩) (b := some (hiAd g off ca (k + 1))) (c := ca) (d := ca - (k + 1)) (A := L.take k) (B := L.drop (k + 1)) (by rw [l1]) (by rw [l2]) (by rw [l1]; exact h1.below (Below.refl _ _).drew) (by rw [l2]; exact h2.below (Below.refl _ _).drew) 22
    have hfl : [L.take k, L.drop (k + 1)].flatten = outL L k := by rw [outL_eq]; simp
    have hol : (outL L k).length ≤ 1000 := by rw [outL_len (by rw [hs.leng]; exact hk), hs.leng]; omega
    have HC := Lib.hid (concat_calls (some ⟨W.heap.size, 0, none⟩) 2 2 _ _ _ LI (by omega) (by rw [hfl]; exact hol) (fun u hu => by simp at hu; rcases hu with rfl | rfl <;> exact ⟨_, _, _, rfl⟩))
    rw [hfl] at HC
    have hfit : ∀ z ∈ outL L k, FitS z := fun z hz => hs.fits z (List.mem_of_mem_eraseIdx hz)
    have cl := hv.cell
    have cb := bB1.cell
    have r1 := run_lo g off la ca k (by omega) hca
    have r2 := run_hi g off la ca (k + 1) ((k : Int) + 1) (by omega) (by omega) hca
    have hbw : w.heap.size < W.heap.size := bB1.lt
    have hlw : w.heap.size + 1 < W.heap.size := hv.lt
    have hk63 : (k : Int) + 1 ≤ 9223372036854775807 := by omega
    have hwr : IntKind.i64.wrap ((k : Int) + 1) = (k : Int) + 1 := IntWalk.i64_in _ (by omega)
    clear LI hfl h1 h2 l1 l2
    dsimp only
    gi_upto_region 6 with fail
    refine wpIn_round_held (S := fun W9 => W9.cell? ⟨w.heap.size, 0, none⟩ = some (.slice (some ⟨g, off, none⟩) la ca)) (by kernel_rfl) (by kernel_rfl) (by rintro ⟨_, _, h⟩; exact h) cb (fun hH0 => ?_)
    refine wpAnyH_take (i := 1) (v := .slice (some ⟨g, off, none⟩) la ca) rfl (by kernel_rfl) (by kernel_rfl) (by kernel_rfl) (fun _ _ _ h => h) (Or.inl ⟨by kernel_rfl, fun wS hSw => by (try dsimp only at hSw); go_simp⟩) hH0 ?_
    refine wpAnyH_take (i := 2) (v := .int .i64 (k : Int)) rfl (by kernel_rfl) (by kernel_rfl) (by kernel_rfl) (fun _ _ _ h => h) (Or.inl ⟨by kernel_rfl, fun wS hSw => by (try dsimp only at hSw); go_simp⟩) hH0 ?_
    refine wpAnyH_take (i := 3) (v := .slice (some ⟨g, off, none⟩) k ca) rfl (by kernel_rfl) (by kernel_rfl) (by kernel_rfl) (fun _ _ _ h => h) (Or.inl ⟨by kernel_rfl, fun wS hSw => by (try dsimp only at hSw); go_simp⟩) hH0 ?_
    refine wpAnyH_take (i := 4) (v := .slice (some ⟨g, off, none⟩) la ca) rfl (by kernel_rfl) (by kernel_rfl) (by kernel_rfl) (fun _ _ _ h => h) (Or.inl ⟨by kernel_rfl, fun wS hSw => by (try dsimp only at hSw); go_simp⟩) hH0 ?_
    refine wpAnyH_take (i := 5) (v := .int .i64 (k : Int)) rfl (by kernel_rfl) (by kernel_rfl) (by kernel_rfl) (fun _ _ _ h => h) (Or.inl ⟨by kernel_rfl, fun wS hSw => by (try dsimp only at hSw); go_simp⟩) hH0 ?_
    refine wpAnyH_take (i := 6) (v := .int .i64 ((k : Int) + 1)) rfl (by kernel_rfl) (by kernel_rfl) (by kernel_rfl) (fun _ _ _ h => h) (Or.inl ⟨by kernel_rfl, fun wS hSw => by (try dsimp only at hSw); go_simp⟩) hH0 ?_
    refine wpAnyH_take (i := 7) (v := .slice (some (hiAd g off ca (k + 1))) (la - (k + 1)) (ca - (k + 1))) rfl (by kernel_rfl) (by kernel_rfl) (by kernel_rfl) (fun _ _ _ h => h) (Or.inl ⟨by kernel_rfl, fun wS hSw => by (try dsimp only at hSw); go_simp⟩) hH0 ?_
    have bL1 : _root_.Go.Boxed W.drew (w.heap.size + 1) 31 (.slice va pre.length vc) := hv
    have bB9 : _root_.Go.Boxed W.drew w.heap.size 22 (.slice (some ⟨g, off, none⟩) la ca) := bB1
    have bS9 : _root_.Go.Boxed W.drew (w.heap.size + 1 + 1) 22 (.slice (some ⟨g, off, none⟩) la ca) := bS1
    have hr1 : W.drew.ownsRow (w.heap.size + 3) 22 1 (.slice va pre.length vc) pre.length us := hrw
    have hc1 : Cls W.drew us (pre.map (fun x => outL L x.val)) := hcl.below (Below.refl _ _).drew
    have hk1 : KeepsOthers W W.drew := keeps_below (Below.refl _ _).drew
    have hb1 : Below w.heap.size W W.drew := (Below.refl _ _).drew
    have hbs : w.heap.size + 3 ≤ W.heap.size := by have := bS1.lt; omega
    refine wpAnyH_ready (rs := [0, 8]) (by kernel_rfl) (by simp) ?_
    refine AllReadyH.cons rfl (fun K hK => ?_) (AllReadyH.cons rfl (fun K hK => ?_) AllReadyH.nil)
    · rw [if_pos (by kernel_rfl)]
      go_simp
      refine hK.out _ _ (cb) (fun hH9 => ?_)
      clear hK K
      refine wpAnyH_ready (rs := [8]) (by kernel_rfl) (by simp) ?_
      refine AllReadyH.cons rfl (fun K hK => ?_) AllReadyH.nil
      rw [if_pos (by kernel_rfl)]
      go_simp
      have h8 : Below W.heap.size W.drew (W.drew.alloc (.cells #[.slice (some ⟨g, off, none⟩) k ca, .slice (some (hiAd g off ca (k + 1))) (la - (k + 1)) (ca - (k + 1))] 22)) := (Below.refl W.heap.size W.drew).alloc (Nat.le_refl _) _
      have hsz1 : W.heap.size < (W.drew.alloc (.cells #[.slice (some ⟨g, off, none⟩) k ca, .slice (some (hiAd g off ca (k + 1))) (la - (k + 1)) (ca - (k + 1))] 22)).heap.size := by simp
      have bL1 := bL1.alloc (.cells #[.slice (some ⟨g, off, none⟩) k ca, .slice (some (hiAd g off ca (k + 1))) (la - (k + 1)) (ca - (k + 1))] 22)
      have bB9 := bB9.alloc (.cells #[.slice (some ⟨g, off, none⟩) k ca, .slice (some (hiAd g off ca (k + 1))) (la - (k + 1)) (ca - (k + 1))] 22)
      have bS9 := bS9.alloc (.cells #[.slice (some ⟨g, off, none⟩) k ca, .slice (some (hiAd g off ca (k + 1))) (la - (k + 1)) (ca - (k + 1))] 22)
      have hr1 := hr1.alloc (.cells #[.slice (some ⟨g, off, none⟩) k ca, .slice (some (hiAd g off ca (k + 1))) (la - (k + 1)) (ca - (k + 1))] 22)
      have hc1 := hc1.below h8
      have hk1 := hk1.trans (keeps_below h8)
      have hb1 := hb1.trans (h8.mono (by omega))
      have HW1 : W.drew.alloc (.cells #[.slice (some ⟨g, off, none⟩) k ca, .slice (some (hiAd g off ca (k + 1))) (la - (k + 1)) (ca - (k + 1))] 22) = (W.alloc (.cells #[.slice (some ⟨g, off, none⟩) k ca, .slice (some (hiAd g off ca (k + 1))) (la - (k + 1)) (ca - (k + 1))] 22)).drew := rfl
      rw [HW1] at h8 hsz1 bL1 bB9 bS9 hr1 hc1 hk1 hb1 HC
      clear HW1 k8
      generalize (W.alloc (.cells #[.slice (some ⟨g, off, none⟩) k ca, .slice (some (hiAd g off ca (k + 1))) (la - (k + 1)) (ca - (k + 1))] 22)).drew = w1 at *
      have cl := bL1.cell
      have cb := bB9.cell
      refine hK.out _ _ (cb) (fun hH9 => ?_)
      clear hK K
      refine wpAnyH_ready (rs := [9]) (by kernel_rfl) (by simp) ?_
      refine AllReadyH.cons rfl (fun K hK => ?_) AllReadyH.nil
      rw [if_pos (by kernel_rfl)]
      go_simp
      go_at_call 40
      refine HC.out.mono ?_
      rintro e w2 ⟨o, rfl, ho, k2⟩
      have bL1 := box_below bL1 k2
      have bB9 := box_below bB9 k2
      have bS9 := box_below bS9 k2
      have hr1 := row_below hr1 k2
      have hc1 := hc1.below k2
      have hk1 := hk1.trans (keeps_below k2)
      have hb1 := hb1.trans (k2.mono (by omega))
      obtain ⟨oa, oc, rfl, hsO, hoO⟩ := own_sin3 ho hfit
      have hsz2 := k2.size
      have cl := bL1.cell
      have cb := bB9.cell
      clear ho k2 HC
      refine hK.out _ _ (cb) (fun hH9 => ?_)
      clear hK K
      refine wpAnyH_ready (rs := [10]) (by kernel_rfl) (by simp) ?_
      refine AllReadyH.cons rfl (fun K hK => ?_) AllReadyH.nil
      rw [if_pos (by kernel_rfl)]
      go_simp
      have h10 : Below w2.heap.size w2 (w2.alloc (.cells #[.slice oa (outL L k).length oc] 22)) := (Below.refl _ _).alloc (Nat.le_refl _) _
      have nw := new_one w2 (.slice oa (outL L k).length oc) 22
      have hsz3 : w2.heap.size < (w2.alloc (.cells #[.slice oa (outL L k).length oc] 22)).heap.size := by simp
      have bL1 := bL1.alloc (.cells #[.slice oa (outL L k).length oc] 22)
      have bB9 := bB9.alloc (.cells #[.slice oa (outL L k).length oc] 22)
      have bS9 := bS9.alloc (.cells #[.slice oa (outL L k).length oc] 22)
      have hr1 := hr1.alloc (.cells #[.slice oa (outL L k).length oc] 22)
      have hc1 := hc1.below h10
      have hsO := hsO.below h10
      have hoO := hoO.below h10
      have hk1 := hk1.trans (keeps_below h10)
      have hb1 := hb1.trans (h10.mono (by omega))
      generalize w2.alloc (.cells #[.slice oa (outL L k).length oc] 22) = w3 at *
      have cl := bL1.cell
      have cb := bB9.cell
      refine hK.out _ _ (cb) (fun hH9 => ?_)
      clear hK K
      refine wpAnyH_ready (rs := [11]) (by kernel_rfl) (by simp) ?_
      refine AllReadyH.cons rfl (fun K hK => ?_) AllReadyH.nil
      rw [if_pos (by kernel_rfl)]
      refine wp_append_own w3 _ _ 31 rfl (w.heap.size + 3) 22 i0 _ 1 24 Tryd.underlying31 hi hz0 hz1 hz2 rfl (by decide) (.slice va pre.length vc) _ _ rfl hr1 ⟨w2.heap.size, 0, none⟩ 1 1 [.slice oa (outL L k).length oc] rfl rfl nw (by simp [Value.oneCell']) (by unfold maxLen; omega) (by omega) (by omega) ?_
      intro v4 w4 ho4 hg4 _
      obtain ⟨g4, c4, rfl⟩ := ownsRow_succ ho4
      have hc1 := (hc1.snoc (c := oc) hsO hoO).grown hr1 hg4
      have hk1 := hk1.trans (keeps_row hr1 hg4)
      have hb1 := hb1.grown hg4 (by omega) (fun j ej => by have := (hr1.lt j ej).1; omega)
      have bL1 := box_row bL1 hr1 (by omega) hg4
      have bB9 := box_row bB9 hr1 (by omega) hg4
      have bS9 := box_row bS9 hr1 (by omega) hg4
      have cl := bL1.cell
      have cb := bB9.cell
      have fl := bL1.frozen
      clear hg4 hr1
      refine hK.out _ _ (cb) (fun hH9 => ?_)
      clear hK K
      refine wpAnyH_ready (rs := [12]) (by kernel_rfl) (by simp) ?_
      refine AllReadyH.cons rfl (fun K hK => ?_) AllReadyH.nil
      rw [if_pos (by kernel_rfl)]
      go_simp
      refine hK.out _ _ ((bB9.other (B' := w.heap.size + 1) (by omega) _).cell) (fun hH9 => ?_)
      clear hK K
      refine wpAnyH_done (by kernel_rfl) ?_ _
      go_simp
      have gs := grownBy_setCell' w4 (w.heap.size + 1) (.slice (some ⟨g4, 0, none⟩) (pre.length + 1) c4)
      have hr5 := ho4.kept gs (.inr (fun e => by have := (ho4.lt _ e).1; omega))
      have hc5 := hc1.box bL1 (by decide) gs
      have bB5 := bB9.other (B' := w.heap.size + 1) (by omega) (.slice (some ⟨g4, 0, none⟩) (pre.length + 1) c4)
      have bS5 := bS9.other (B' := w.heap.size + 1) (by omega) (.slice (some ⟨g4, 0, none⟩) (pre.length + 1) c4)
      have hb5 := hb1.setCell (p := ⟨w.heap.size + 1, 0, none⟩) (by simp) (.slice (some ⟨g4, 0, none⟩) (pre.length + 1) c4)
      have hk5 := hk1.trans (KeepsOthers.setCell w4 ⟨w.heap.size + 1, 0, none⟩ (.slice (some ⟨g4, 0, none⟩) (pre.length + 1) c4))
      have hl9 : (pre ++ [(⟨k, hk⟩ : Fin la)]).length = pre.length + 1 := by simp
      exact ⟨hk5.from _, ⟨hb5, bS5.cell.trans bS1.cell.symm, bS5.cell.trans bS1.cell.symm⟩, ⟨_, _, bL1.set _, by rw [hl9]; exact hr5, by rw [List.map_append]; exact hc5⟩, ⟨bB5, bS5⟩, hB1.trans hb5⟩
    · rw [if_pos (by kernel_rfl)]
      go_simp
      have h8 : Below W.heap.size W.drew (W.drew.alloc (.cells #[.slice (some ⟨g, off, none⟩) k ca, .slice (some (hiAd g off ca (k + 1))) (la - (k + 1)) (ca - (k + 1))] 22)) := (Below.refl W.heap.size W.drew).alloc (Nat.le_refl _) _
      have hsz1 : W.heap.size < (W.drew.alloc (.cells #[.slice (some ⟨g, off, none⟩) k ca, .slice (some (hiAd g off ca (k + 1))) (la - (k + 1)) (ca - (k + 1))] 22)).heap.size := by simp
      have bL1 := bL1.alloc (.cells #[.slice (some ⟨g, off, none⟩) k ca, .slice (some (hiAd g off ca (k + 1))) (la - (k + 1)) (ca - (k + 1))] 22)
      have bB9 := bB9.alloc (.cells #[.slice (some ⟨g, off, none⟩) k ca, .slice (some (hiAd g off ca (k + 1))) (la - (k + 1)) (ca - (k + 1))] 22)
      have bS9 := bS9.alloc (.cells #[.slice (some ⟨g, off, none⟩) k ca, .slice (some (hiAd g off ca (k + 1))) (la - (k + 1)) (ca - (k + 1))] 22)
      have hr1 := hr1.alloc (.cells #[.slice (some ⟨g, off, none⟩) k ca, .slice (some (hiAd g off ca (k + 1))) (la - (k + 1)) (ca - (k + 1))] 22)
      have hc1 := hc1.below h8
      have hk1 := hk1.trans (keeps_below h8)
      have hb1 := hb1.trans (h8.mono (by omega))
      have HW1 : W.drew.alloc (.cells #[.slice (some ⟨g, off, none⟩) k ca, .slice (some (hiAd g off ca (k + 1))) (la - (k + 1)) (ca - (k + 1))] 22) = (W.alloc (.cells #[.slice (some ⟨g, off, none⟩) k ca, .slice (some (hiAd g off ca (k + 1))) (la - (k + 1)) (ca - (k + 1))] 22)).drew := rfl
      rw [HW1] at h8 hsz1 bL1 bB9 bS9 hr1 hc1 hk1 hb1 HC
      clear HW1 k8
      generalize (W.alloc (.cells #[.slice (some ⟨g, off, none⟩) k ca, .slice (some (hiAd g off ca (k + 1))) (la - (k + 1)) (ca - (k + 1))] 22)).drew = w1 at *
      have cl := bL1.cell
      have cb := bB9.cell
      refine hK.out _ _ (cb) (fun hH9 => ?_)
      clear hK K
      refine wpAnyH_ready (rs := [0, 9]) (by kernel_rfl) (by simp) ?_
      refine AllReadyH.cons rfl (fun K hK => ?_) (AllReadyH.cons rfl (fun K hK => ?_) AllReadyH.nil)
      · rw [if_pos (by kernel_rfl)]
        go_simp
        refine hK.out _ _ (cb) (fun hH9 => ?_)
        clear hK K
        refine wpAnyH_ready (rs := [9]) (by kernel_rfl) (by simp) ?_
        refine AllReadyH.cons rfl (fun K hK => ?_) AllReadyH.nil
        rw [if_pos (by kernel_rfl)]
        go_simp
        go_at_call 40
        refine HC.out.mono ?_
        rintro e w2 ⟨o, rfl, ho, k2⟩
        have bL1 := box_below bL1 k2
        have bB9 := box_below bB9 k2
        have bS9 := box_below bS9 k2
        have hr1 := row_below hr1 k2
        have hc1 := hc1.below k2
        have hk1 := hk1.trans (keeps_below k2)
        have hb1 := hb1.trans (k2.mono (by omega))
        obtain ⟨oa, oc, rfl, hsO, hoO⟩ := own_sin3 ho hfit
        have hsz2 := k2.size
        have cl := bL1.cell
        have cb := bB9.cell
        clear ho k2 HC
        refine hK.out _ _ (cb) (fun hH9 => ?_)
        clear hK K
        refine wpAnyH_ready (rs := [10]) (by kernel_rfl) (by simp) ?_
        refine AllReadyH.cons rfl (fun K hK => ?_) AllReadyH.nil
        rw [if_pos (by kernel_rfl)]
        go_simp
        have h10 : Below w2.heap.size w2 (w2.alloc (.cells #[.slice oa (outL L k).length oc] 22)) := (Below.refl _ _).alloc (Nat.le_refl _) _
        have nw := new_one w2 (.slice oa (outL L k).length oc) 22
        have hsz3 : w2.heap.size < (w2.alloc (.cells #[.slice oa (outL L k).length oc] 22)).heap.size := by simp
        have bL1 := bL1.alloc (.cells #[.slice oa (outL L k).length oc] 22)
        have bB9 := bB9.alloc (.cells #[.slice oa (outL L k).length oc] 22)
        have bS9 := bS9.alloc (.cells #[.slice oa (outL L k).length oc] 22)
        have hr1 := hr1.alloc (.cells #[.slice oa (outL L k).length oc] 22)
        have hc1 := hc1.below h10
        have hsO := hsO.below h10
        have hoO := hoO.below h10
        have hk1 := hk1.trans (keeps_below h10)
        have hb1 := hb1.trans (h10.mono (by omega))
        generalize w2.alloc (.cells #[.slice oa (outL L k).length oc] 22) = w3 at *
        have cl := bL1.cell
        have cb := bB9.cell
        refine hK.out _ _ (cb) (fun hH9 => ?_)
        clear hK K
        refine wpAnyH_ready (rs := [11]) (by kernel_rfl) (by simp) ?_
        refine AllReadyH.cons rfl (fun K hK => ?_) AllReadyH.nil
        rw [if_pos (by kernel_rfl)]
        refine wp_append_own w3 _ _ 31 rfl (w.heap.size + 3) 22 i0 _ 1 24 Tryd.underlying31 hi hz0 hz1 hz2 rfl (by decide) (.slice va pre.length vc) _ _ rfl hr1 ⟨w2.heap.size, 0, none⟩ 1 1 [.slice oa (outL L k).length oc] rfl rfl nw (by simp [Value.oneCell']) (by unfold maxLen; omega) (by omega) (by omega) ?_
        intro v4 w4 ho4 hg4 _
        obtain ⟨g4, c4, rfl⟩ := ownsRow_succ ho4
        have hc1 := (hc1.snoc (c := oc) hsO hoO).grown hr1 hg4
        have hk1 := hk1.trans (keeps_row hr1 hg4)
        have hb1 := hb1.grown hg4 (by omega) (fun j ej => by have := (hr1.lt j ej).1; omega)
        have bL1 := box_row bL1 hr1 (by omega) hg4
        have bB9 := box_row bB9 hr1 (by omega) hg4
        have bS9 := box_row bS9 hr1 (by omega) hg4
        have cl := bL1.cell
        have cb := bB9.cell
        have fl := bL1.frozen
        clear hg4 hr1
        refine hK.out _ _ (cb) (fun hH9 => ?_)
        clear hK K
        refine wpAnyH_ready (rs := [12]) (by kernel_rfl) (by simp) ?_
        refine AllReadyH.cons rfl (fun K hK => ?_) AllReadyH.nil
        rw [if_pos (by kernel_rfl)]
        go_simp
        refine hK.out _ _ ((bB9.other (B' := w.heap.size + 1) (by omega) _).cell) (fun hH9 => ?_)
        clear hK K
        refine wpAnyH_done (by kernel_rfl) ?_ _
        go_simp
        have gs := grownBy_setCell' w4 (w.heap.size + 1) (.slice (some ⟨g4, 0, none⟩) (pre.length + 1) c4)
        have hr5 := ho4.kept gs (.inr (fun e => by have := (ho4.lt _ e).1; omega))
        have hc5 := hc1.box bL1 (by decide) gs
        have bB5 := bB9.other (B' := w.heap.size + 1) (by omega) (.slice (some ⟨g4, 0, none⟩) (pre.length + 1) c4)
        have bS5 := bS9.other (B' := w.heap.size + 1) (by omega) (.slice (some ⟨g4, 0, none⟩) (pre.length + 1) c4)
        have hb5 := hb1.setCell (p := ⟨w.heap.size + 1, 0, none⟩) (by simp) (.slice (some ⟨g4, 0, none⟩) (pre.length + 1) c4)
        have hk5 := hk1.trans (KeepsOthers.setCell w4 ⟨w.heap.size + 1, 0, none⟩ (.slice (some ⟨g4, 0, none⟩) (pre.length + 1) c4))
        have hl9 : (pre ++ [(⟨k, hk⟩ : Fin la)]).length = pre.length + 1 := by simp
        exact ⟨hk5.from _, ⟨hb5, bS5.cell.trans bS1.cell.symm, bS5.cell.trans bS1.cell.symm⟩, ⟨_, _, bL1.set _, by rw [hl9]; exact hr5, by rw [List.map_append]; exact hc5⟩, ⟨bB5, bS5⟩, hB1.trans hb5⟩
      · rw [if_pos (by kernel_rfl)]
        go_simp
        go_at_call 40
        refine HC.out.mono ?_
        rintro e w2 ⟨o, rfl, ho, k2⟩
        have bL1 := box_below bL1 k2
        have bB9 := box_below bB9 k2
        have bS9 := box_below bS9 k2
        have hr1 := row_below hr1 k2
        have hc1 := hc1.below k2
        have hk1 := hk1.trans (keeps_below k2)
        have hb1 := hb1.trans (k2.mono (by omega))
        obtain ⟨oa, oc, rfl, hsO, hoO⟩ := own_sin3 ho hfit
        have hsz2 := k2.size
        have cl := bL1.cell
        have cb := bB9.cell
        clear ho k2 HC
        refine hK.out _ _ (cb) (fun hH9 => ?_)
        clear hK K
        refine wpAnyH_ready (rs := [0, 10]) (by kernel_rfl) (by simp) ?_
        refine AllReadyH.cons rfl (fun K hK => ?_) (AllReadyH.cons rfl (fun K hK => ?_) AllReadyH.nil)
        · rw [if_pos (by kernel_rfl)]
          go_simp
          refine hK.out _ _ (cb) (fun hH9 => ?_)
          clear hK K
          refine wpAnyH_ready (rs := [10]) (by kernel_rfl) (by simp) ?_
          refine AllReadyH.cons rfl (fun K hK => ?_) AllReadyH.nil
          rw [if_pos (by kernel_rfl)]
          go_simp
          have h10 : Below w2.heap.size w2 (w2.alloc (.cells #[.slice oa (outL L k).length oc] 22)) := (Below.refl _ _).alloc (Nat.le_refl _) _
          have nw := new_one w2 (.slice oa (outL L k).length oc) 22
          have hsz3 : w2.heap.size < (w2.alloc (.cells #[.slice oa (outL L k).length oc] 22)).heap.size := by simp
          have bL1 := bL1.alloc (.cells #[.slice oa (outL L k).length oc] 22)
          have bB9 := bB9.alloc (.cells #[.slice oa (outL L k).length oc] 22)
          have bS9 := bS9.alloc (.cells #[.slice oa (outL L k).length oc] 22)
          have hr1 := hr1.alloc (.cells #[.slice oa (outL L k).length oc] 22)
          have hc1 := hc1.below h10
          have hsO := hsO.below h10
          have hoO := hoO.below h10
          have hk1 := hk1.trans (keeps_below h10)
          have hb1 := hb1.trans (h10.mono (by omega))
          generalize w2.alloc (.cells #[.slice oa (outL L k).length oc] 22) = w3 at *
          have cl := bL1.cell
          have cb := bB9.cell
          refine hK.out _ _ (cb) (fun hH9 => ?_)
          clear hK K
          refine wpAnyH_ready (rs := [11]) (by kernel_rfl) (by simp) ?_
          refine AllReadyH.cons rfl (fun K hK => ?_) AllReadyH.nil
          rw [if_pos (by kernel_rfl)]
          refine wp_append_own w3 _ _ 31 rfl (w.heap.size + 3) 22 i0 _ 1 24 Tryd.underlying31 hi hz0 hz1 hz2 rfl (by decide) (.slice va pre.length vc) _ _ rfl hr1 ⟨w2.heap.size, 0, none⟩ 1 1 [.slice oa (outL L k).length oc] rfl rfl nw (by simp [Value.oneCell']) (by unfold maxLen; omega) (by omega) (by omega) ?_
          intro v4 w4 ho4 hg4 _
          obtain ⟨g4, c4, rfl⟩ := ownsRow_succ ho4
          have hc1 := (hc1.snoc (c := oc) hsO hoO).grown hr1 hg4
          have hk1 := hk1.trans (keeps_row hr1 hg4)
          have hb1 := hb1.grown hg4 (by omega) (fun j ej => by have := (hr1.lt j ej).1; omega)
          have bL1 := box_row bL1 hr1 (by omega) hg4
          have bB9 := box_row bB9 hr1 (by omega) hg4
          have bS9 := box_row bS9 hr1 (by omega) hg4
          have cl := bL1.cell
          have cb := bB9.cell
          have fl := bL1.frozen
          clear hg4 hr1
          refine hK.out _ _ (cb) (fun hH9 => ?_)
          clear hK K
          refine wpAnyH_ready (rs := [12]) (by kernel_rfl) (by simp) ?_
          refine AllReadyH.cons rfl (fun K hK => ?_) AllReadyH.nil
          rw [if_pos (by kernel_rfl)]
          go_simp
          refine hK.out _ _ ((bB9.other (B' := w.heap.size + 1) (by omega) _).cell) (fun hH9 => ?_)
          clear hK K
          refine wpAnyH_done (by kernel_rfl) ?_ _
          go_simp
          have gs := grownBy_setCell' w4 (w.heap.size + 1) (.slice (some ⟨g4, 0, none⟩) (pre.length + 1) c4)
          have hr5 := ho4.kept gs (.inr (fun e => by have := (ho4.lt _ e).1; omega))
          have hc5 := hc1.box bL1 (by decide) gs
          have bB5 := bB9.other (B' := w.heap.size + 1) (by omega) (.slice (some ⟨g4, 0, none⟩) (pre.length + 1) c4)
          have bS5 := bS9.other (B' := w.heap.size + 1) (by omega) (.slice (some ⟨g4, 0, none⟩) (pre.length + 1) c4)
          have hb5 := hb1.setCell (p := ⟨w.heap.size + 1, 0, none⟩) (by simp) (.slice (some ⟨g4, 0, none⟩) (pre.length + 1) c4)
          have hk5 := hk1.trans (KeepsOthers.setCell w4 ⟨w.heap.size + 1, 0, none⟩ (.slice (some ⟨g4, 0, none⟩) (pre.length + 1) c4))
          have hl9 : (pre ++ [(⟨k, hk⟩ : Fin la)]).length = pre.length + 1 := by simp
          exact ⟨hk5.from _, ⟨hb5, bS5.cell.trans bS1.cell.symm, bS5.cell.trans bS1.cell.symm⟩, ⟨_, _, bL1.set _, by rw [hl9]; exact hr5, by rw [List.map_append]; exact hc5⟩, ⟨bB5, bS5⟩, hB1.trans hb5⟩
        · rw [if_pos (by kernel_rfl)]
          go_simp
          have h10 : Below w2.heap.size w2 (w2.alloc (.cells #[.slice oa (outL L k).length oc] 22)) := (Below.refl _ _).alloc (Nat.le_refl _) _
          have nw := new_one w2 (.slice oa (outL L k).length oc) 22
          have hsz3 : w2.heap.size < (w2.alloc (.cells #[.slice oa (outL L k).length oc] 22)).heap.size := by simp
          have bL1 := bL1.alloc (.cells #[.slice oa (outL L k).length oc] 22)
          have bB9 := bB9.alloc (.cells #[.slice oa (outL L k).length oc] 22)
          have bS9 := bS9.alloc (.cells #[.slice oa (outL L k).length oc] 22)
          have hr1 := hr1.alloc (.cells #[.slice oa (outL L k).length oc] 22)
          have hc1 := hc1.below h10
          have hsO := hsO.below h10
          have hoO := hoO.below h10
          have hk1 := hk1.trans (keeps_below h10)
          have hb1 := hb1.trans (h10.mono (by omega))
          generalize w2.alloc (.cells #[.slice oa (outL L k).length oc] 22) = w3 at *
          have cl := bL1.cell
          have cb := bB9.cell
          refine hK.out _ _ (cb) (fun hH9 => ?_)
          clear hK K
          refine wpAnyH_ready (rs := [0]) (by kernel_rfl) (by simp) ?_
          refine AllReadyH.cons rfl (fun K hK => ?_) AllReadyH.nil
          rw [if_pos (by kernel_rfl)]
          go_simp
          refine hK.out _ _ (cb) (fun hH9 => ?_)
          clear hK K
          refine wpAnyH_ready (rs := [11]) (by kernel_rfl) (by simp) ?_
          refine AllReadyH.cons rfl (fun K hK => ?_) AllReadyH.nil
          rw [if_pos (by kernel_rfl)]
          refine wp_append_own w3 _ _ 31 rfl (w.heap.size + 3) 22 i0 _ 1 24 Tryd.underlying31 hi hz0 hz1 hz2 rfl (by decide) (.slice va pre.length vc) _ _ rfl hr1 ⟨w2.heap.size, 0, none⟩ 1 1 [.slice oa (outL L k).length oc] rfl rfl nw (by simp [Value.oneCell']) (by unfold maxLen; omega) (by omega) (by omega) ?_
          intro v4 w4 ho4 hg4 _
          obtain ⟨g4, c4, rfl⟩ := ownsRow_succ ho4
          have hc1 := (hc1.snoc (c := oc) hsO hoO).grown hr1 hg4
          have hk1 := hk1.trans (keeps_row hr1 hg4)
          have hb1 := hb1.grown hg4 (by omega) (fun j ej => by have := (hr1.lt j ej).1; omega)
          have bL1 := box_row bL1 hr1 (by omega) hg4
          have bB9 := box_row bB9 hr1 (by omega) hg4
          have bS9 := box_row bS9 hr1 (by omega) hg4
          have cl := bL1.cell
          have cb := bB9.cell
          have fl := bL1.frozen
          clear hg4 hr1
          refine hK.out _ _ (cb) (fun hH9 => ?_)
          clear hK K
          refine wpAnyH_ready (rs := [12]) (by kernel_rfl) (by simp) ?_
          refine AllReadyH.cons rfl (fun K hK => ?_) AllReadyH.nil
          rw [if_pos (by kernel_rfl)]
          go_simp
          refine hK.out _ _ ((bB9.other (B' := w.heap.size + 1) (by omega) _).cell) (fun hH9 => ?_)
          clear hK K
          refine wpAnyH_done (by kernel_rfl) ?_ _
          go_simp
          have gs := grownBy_setCell' w4 (w.heap.size + 1) (.slice (some ⟨g4, 0, none⟩) (pre.length + 1) c4)
          have hr5 := ho4.kept gs (.inr (fun e => by have := (ho4.lt _ e).1; omega))
          have hc5 := hc1.box bL1 (by decide) gs
          have bB5 := bB9.other (B' := w.heap.size + 1) (by omega) (.slice (some ⟨g4, 0, none⟩) (pre.length + 1) c4)
          have bS5 := bS9.other (B' := w.heap.size + 1) (by omega) (.slice (some ⟨g4, 0, none⟩) (pre.length + 1) c4)
          have hb5 := hb1.setCell (p := ⟨w.heap.size + 1, 0, none⟩) (by simp) (.slice (some ⟨g4, 0, none⟩) (pre.length + 1) c4)
          have hk5 := hk1.trans (KeepsOthers.setCell w4 ⟨w.heap.size + 1, 0, none⟩ (.slice (some ⟨g4, 0, none⟩) (pre.length + 1) c4))
          have hl9 : (pre ++ [(⟨k, hk⟩ : Fin la)]).length = pre.length + 1 := by simp
          exact ⟨hk5.from _, ⟨hb5, bS5.cell.trans bS1.cell.symm, bS5.cell.trans bS1.cell.symm⟩, ⟨_, _, bL1.set _, by rw [hl9]; exact hr5, by rw [List.map_append]; exact hc5⟩, ⟨bB5, bS5⟩, hB1.trans hb5⟩
  case done =>
    rintro D ys W hD hys ⟨⟨v, us, hv, hrw, hcl⟩, ⟨bB1, bS1⟩, hB1⟩ hK
    obtain ⟨va, vc, rfl⟩ := own_slice hrw
    have c3 := hv.cell
    gi_wp2
    have hK9 := grownBy_putObj' W D (.deferred none)
    have hr9 : ∀ r, some D = some r → ∃ o : Obj, W.heap[r]? = some o ∧ o.isCells = false := fun r e => by cases e; exact ⟨_, hK, rfl⟩
    have hcl2 := hcl.other hK9 hr9
    have hrw2 := ownsRow_putObj hrw (.deferred none) hK rfl
    have hmm : ys.map (fun x => outL L x.val) = outsL L la := by rw [outs_down, ← hys, List.map_map]; rfl
    have hyl : ys.length = (outsL L la).length := by
      have h9 := congrArg List.length hys
      rw [List.length_map, downL_len] at h9
      rw [outs_len, h9]
    rw [hmm] at hcl2
    rw [hyl] at hrw2
    obtain ⟨oa, oc, e, h1, h2, h3⟩ := own_lin2 hrw2 hcl2.vs
    cases e
    refine ⟨by simp, .inl ⟨_, _, rfl, run_takeDeferred hK, ?_⟩⟩
    refine ⟨.slice va ys.length vc, ?_, va, vc, us, by rw [hyl], h1, h2, h3, hB1.trans (belowK_b (w := w) (Nat.le_refl _) _ D _ _ (by omega) hK rfl rfl)⟩
    rw [results_tmp (fn := Tryd.f22) (t := 2) rfl]
    rfl
  case stop =>
    rintro D c pre W hD hp hf hK
    exact hf.elim
end Go.Proofs.YtjohiehlnbgdaaaDoor
