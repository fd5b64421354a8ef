/- What slices.Backward goes through: the places of a list of slots, from the last one down. -/
import Derived.Test.YtjohiehlnbgdaaaDoorSlotUnion
namespace Go.Proofs.YtjohiehlnbgdaaaDoor
open Go.RowKit Go.Shelf
set_option linter.unusedVariables false
attribute [local go_sem] Oper.semAt_some

/-- The numbers below one, from the greatest down. -/
def downL : Nat → List Nat
  | 0 => []
  | n + 1 => n :: downL n
theorem downL_len : ∀ n, (downL n).length = n
  | 0 => rfl
  | n + 1 => by rw [downL, List.length_cons, downL_len n]
/-- How a place and its slot come to a loop. -/
def encK (A : List Sd) (la : Nat) (x : Fin la) : Array Value := #[.int .i64 (x.val : Int), .agg #[.int .i64 (A.getD x.val default).x, .int .i64 (A.getD x.val default).v.k, .int .i64 (A.getD x.val default).v.i, .string (A.getD x.val default).v.s, .bool (A.getD x.val default).v.b]]

set_option maxRecDepth 100000 in
set_option maxHeartbeats 1000000 in
theorem back1_in (n : Nat) (hn : 1 ≤ n) (l Bs : Nat) (a : Option Addr) (la ca : Nat) (A : List Sd) (J Jx : List (Fin la) → World → Prop)
    (w0 : World) (hsA : SIn w0 a la A) (W : World)
    (hY : ∀ pre x W, J pre W → pre.length < la → YieldAt Fence.wide (n - 1) Tryd.prog l (encK A la x) W fun e W' =>
      (e = .returned (.bool true) ∧ J (pre ++ [x]) W' ∧ KpB w0.heap.size Bs Bs W W') ∨ (e = .returned (.bool false) ∧ Jx (pre ++ [x]) W'))
    (hBs : W.cell? ⟨Bs, 0, none⟩ = some (.slice a la ca)) (hW : Below w0.heap.size w0 W) (h0 : J [] W) :
    CallsIn Fence.wide n Tryd.prog 54 #[.func (.yield l) #[] #[], .pointer (some ⟨Bs, 0, none⟩)] W fun e W' => (∃ v, e = .returned v) ∧
      ((∃ ys, ys.map Fin.val = downL la ∧ J ys W') ∨ (∃ pre, pre.map Fin.val <+: downL la ∧ Jx pre W')) := by
  refine callsIn_of_wp Tryd.func54 rfl trivial ?_ rfl
  simp only [Tryd.ntmps54, List.size_toArray, List.length_cons, List.length_nil, Nat.reduceAdd, Nat.reduceSub, Array.replicate_succ, Array.replicate_zero, List.push_toArray, List.append_toArray, List.nil_append, List.cons_append]
  have HSA := Lib.hid hsA
  have hsmA := hsA.small
  have HY := Lib.hid hY
  have HW := Lib.hid hW
  clear hsA hY hW
  gi_wp2
  gi_loopw [3] (fun p wr => ∃ (m : Nat) (j : Int) (pre : List (Fin la)), m ≤ la ∧ j + 1 = m ∧ p = .int .i64 j ∧ Hid (downL la = pre.map Fin.val ++ downL m) ∧ Hid (J pre wr) ∧ wr.cell? ⟨Bs, 0, none⟩ = some (.slice a la ca) ∧ Hid (Below w0.heap.size w0 wr))
    (fun p _ => (intOf p + 1).toNat)
  case atStart => exact ⟨la, (la : Int) - 1, [], Nat.le_refl _, by omega, by go_num, Lib.hid rfl, Lib.hid h0, hBs, HW⟩
  case round =>
    obtain ⟨m, j, pre, hm, hj, rfl, HE, HJ1, b1, HB⟩ := hrel
    cases m with
    | zero =>
      obtain rfl : j = -1 := by omega
      gi_wp2
      go_end0
      exact ⟨⟨_, rfl⟩, .inl ⟨pre, by rw [HE.out, downL, List.append_nil], HJ1.out⟩⟩
    | succ k =>
      obtain rfl : j = (k : Int) := by omega
      have hk : k < la := by omega
      have hlen : pre.length < la := by
        have := congrArg List.length HE.out
        rw [List.length_append, List.length_map, downL_len, downL_len] at this
        omega
      obtain ⟨g, off, rfl, hg, hc⟩ := HSA.out.at' HB.out hk
      obtain ⟨fn, tmps, assign, body, hy, hR⟩ := HY.out pre ⟨k, hk⟩ wr HJ1.out hlen
      dsimp only [encK] at hy
      generalize A.getD k default = z at hc hy
      obtain ⟨c0, c1, c2, c3, c4⟩ := hc
      have HE2 : Hid (downL la = (pre ++ [(⟨k, hk⟩ : Fin la)]).map Fin.val ++ downL k) := Lib.hid (by rw [HE.out, downL]; simp)
      clear hj hlen
      gi_wp2
      refine hR.mono ?_
      rintro e W3 (⟨rfl, hJ3, hk3⟩ | ⟨rfl, hJx3⟩)
      · have g1 := hk3.2.1.trans b1
        have HB3 := Lib.hid (HB.out.trans hk3.1)
        have HJ3 := Lib.hid hJ3
        clear hk3 hJ3 hR hy
        gi_wp2
        go_roundw
        case rel => exact ⟨k, (k : Int) - 1, _, by omega, by omega, by go_num, HE2, HJ3, g1, HB3⟩
        case measure => simp [intOf]
      · gi_wp2
        refine bodyPost_ret (results_none rfl _ _ _) rfl ?_
        exact ⟨⟨_, rfl⟩, .inr ⟨_, ⟨downL k, HE2.out.symm⟩, hJx3⟩⟩
theorem back_stops (n : Nat) (hn : 1 ≤ n) (Bs : Nat) (a : Option Addr) (la ca : Nat) (A : List Sd) (w0 : World) (hsA : SIn w0 a la A) (w : World) (hw : Below w0.heap.size w0 w) (hBs : w.cell? ⟨Bs, 0, none⟩ = some (.slice a la ca)) :
    SeqStopsK Fence.wide n Tryd.prog 54 #[.pointer (some ⟨Bs, 0, none⟩)] (encK A la) (KpB w0.heap.size Bs Bs) (fun ys => ys.map Fin.val = downL la) (fun pre => pre.map Fin.val <+: downL la) la w := fun l J Jx W hW hJ _ hY h0 =>
  back1_in n hn l Bs a la ca A J Jx w0 hsA W hY ((hW.cell (p := ⟨Bs, 0, none⟩) (lt_of_cell hBs)).trans hBs) (hw.trans (hW.mono hw.size)) h0
set_option maxHeartbeats 400000 in
theorem back_calls (a : Option Addr) (la ca : Nat) (w : World) :
    Calls Tryd.prog 39 #[.slice a la ca] w fun e w' => e = .returned (.func (.func 54) #[] #[.pointer (some ⟨w.heap.size, 0, none⟩)]) ∧ w' = w.alloc (.cells #[.slice a la ca] 22) := by
  go_enter Tryd.func39, Tryd.ntmps39
  go_wp2
  go_ret
  exact ⟨rfl, rfl⟩
end Go.Proofs.YtjohiehlnbgdaaaDoor
