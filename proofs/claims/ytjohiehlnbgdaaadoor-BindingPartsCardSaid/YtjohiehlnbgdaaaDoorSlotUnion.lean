/- What binding.Union does with any two lists of slots. -/
import Derived.Test.YtjohiehlnbgdaaaDoorSlotBoth
import Derived.RangeFuncBox
import Derived.Maps.AppendAt
namespace Go.Proofs.YtjohiehlnbgdaaaDoor
open Go.RowKit Go.Shelf
set_option linter.unusedVariables false
attribute [local go_sem] Oper.semAt_some

theorem kpB_t {n₀ Ba Bb : Nat} {A B C : World} (h : KpB n₀ Ba Bb A B) (k : KpB n₀ Ba Bb B C) : KpB n₀ Ba Bb A C := ⟨h.1.trans k.1, k.2.1.trans h.2.1, k.2.2.trans h.2.2⟩
theorem kpB_b {n₀ Ba Bb : Nat} {w : World} (hn : n₀ ≤ w.heap.size) (ha : Ba < w.heap.size) (hb : Bb < w.heap.size) (W : World) (l : Nat) (o o' : Obj) (hl : w.heap.size ≤ l) (h : W.heap[l]? = some o) (hc : o.isCells = false) (hw : o.isWalk = false) : KpB n₀ Ba Bb W (W.putObj l o') :=
  have hB : Below w.heap.size W (W.putObj l o') := belowK_b (Nat.le_refl _) W l o o' hl h hc hw
  ⟨hB.mono hn, hB.cell (p := ⟨Ba, 0, none⟩) ha, hB.cell (p := ⟨Bb, 0, none⟩) hb⟩
/-- How both's slots come to a loop. -/
def encB (x : Sd × Bool) : Array Value := #[.agg #[.int .i64 x.1.x, .int .i64 x.1.v.k, .int .i64 x.1.v.i, .string x.1.v.s, .bool x.1.v.b], .bool x.2]
theorem both_stops (n : Nat) (hn : 1 ≤ n) (Ba Bb : Nat) (a b : Option Addr) (la ca lb cb : Nat) (A B : List Sd) (w0 : World) (hsA : SIn w0 a la A) (hsB : SIn w0 b lb B) (w : World) (hw : Below w0.heap.size w0 w)
    (hBa : w.cell? ⟨Ba, 0, none⟩ = some (.slice a la ca)) (hBb : w.cell? ⟨Bb, 0, none⟩ = some (.slice b lb cb)) :
    SeqStopsK Fence.wide n Tryd.prog 43 #[.pointer (some ⟨Ba, 0, none⟩), .pointer (some ⟨Bb, 0, none⟩)] encB (KpB w0.heap.size Ba Bb) (fun ys => ys = bothL A B) (fun pre => pre <+: bothL A B) (bothL A B).length w := fun l J Jx W hW hJ _ hY h0 =>
  both1_in n hn l Ba Bb a b la ca lb cb A B J Jx w0 hsA hsB W hJ hY ((hW.cell (p := ⟨Ba, 0, none⟩) (lt_of_cell hBa)).trans hBa) ((hW.cell (p := ⟨Bb, 0, none⟩) (lt_of_cell hBb)).trans hBb) (hw.trans (hW.mono hw.size)) (Nat.lt_of_lt_of_le (lt_of_cell hBa) hW.size) (Nat.lt_of_lt_of_le (lt_of_cell hBb) hW.size) h0

set_option maxHeartbeats 400000 in
theorem both_calls (a b : Option Addr) (la ca lb cb : Nat) (w : World) :
    Calls Tryd.prog 26 #[.slice a la ca, .slice b lb cb] w fun e w' => e = .returned (.func (.func 43) #[] #[.pointer (some ⟨w.heap.size, 0, none⟩), .pointer (some ⟨w.heap.size + 1, 0, none⟩)]) ∧ w' = (w.alloc (.cells #[.slice a la ca] 22)).alloc (.cells #[.slice b lb cb] 22) := by
  go_enter Tryd.func26, Tryd.ntmps26
  go_wp2
  go_ret
  exact ⟨rfl, rfl⟩

theorem both_len : ∀ A B : List Sd, (bothL A B).length ≤ A.length + B.length
  | [], [] => by simp [bothL]
  | a :: A, [] => by rw [bothL]; have := both_len A []; simp at this ⊢; omega
  | [], b :: B => by rw [bothL]; have := both_len [] B; simp at this ⊢; omega
  | a :: A, b :: B => by
    rw [bothL]
    split
    · have := both_len A (b :: B); simp at this ⊢; omega
    · split
      · have := both_len (a :: A) B; simp at this ⊢; omega
      · have := both_len A B; simp at this ⊢; omega
termination_by A B => A.length + B.length
/-- A block of cells lies as it was laid. -/
def Blk (W : World) (B : Nat) (cs : Array Value) (t : TypeId) : Prop := W.heap[B]? = some (.cells cs t (0, 0))
theorem Blk.new (W : World) (cs : Array Value) (t : TypeId) : Blk (W.alloc (.cells cs t)) W.heap.size cs t := World.alloc_heap_new W _
theorem Blk.cell {W : World} {B : Nat} {cs : Array Value} {t : TypeId} (h : Blk W B cs t) (j : Nat) : W.cell? ⟨B, j, none⟩ = cs[j]? := by simp [World.cell?, show W.heap[B]? = _ from h]
theorem Blk.lt {W : World} {B : Nat} {cs : Array Value} {t : TypeId} (h : Blk W B cs t) : B < W.heap.size := (Array.getElem?_eq_some_iff.1 h).1
theorem blk_own {β : Type} (B : Nat) (t : TypeId) (f : β → Array Value) : Own (fun s W => Blk W B (f s) t) := fun s X Y row hs hg hrow =>
  (hg.block B (Array.getElem?_eq_some_iff.1 hs).1 (fun e' => by obtain ⟨o, ho, hc⟩ := hrow B e'.symm; rw [show X.heap[B]? = _ from hs] at ho; cases ho; cases hc)).trans hs
theorem own_slice {W : World} {base : Nat} {e : TypeId} {size : Nat} {v : Value} {k : Nat} {xs : List Value} (h : W.ownsRow base e size v k xs) : ∃ a cap, v = .slice a k cap := by
  rcases h.2 with ⟨rfl, h0⟩ | ⟨g, cap, cur, rfl, _⟩
  · exact ⟨none, 0, by rw [h0]⟩
  · exact ⟨_, cap, rfl⟩
theorem new_enc (W : World) (z : Sd) (t : TypeId) : ∀ j u, (encS z)[j]? = some u → (W.alloc (.cells #[.int .i64 z.x, .int .i64 z.v.k, .int .i64 z.v.i, .string z.v.s, .bool z.v.b] t)).cell? ((⟨W.heap.size, 0, none⟩ : Addr).add j) = some u := by
  intro j u hj
  rw [show (⟨W.heap.size, 0, none⟩ : Addr).add j = ⟨W.heap.size, j, none⟩ by unfold Addr.add; split <;> simp_all]
  exact ((Blk.new W _ _).cell j).trans (by simpa [encS] using hj)
/-- A box of another type than the row's, behind an append and the store into another box. -/
theorem box_after {W w1 : World} {n₀ B B' : Nat} {t e : TypeId} {size : Nat} {v v' u : Value} {k : Nat} {xs : List Value} {tmp : Obj}
    (hb : _root_.Go.Boxed W B' t u) (hte : t ≠ e) (hrow : W.ownsRow n₀ e size v k xs) (hgrow : (W.alloc tmp).grownBy w1 v.ownBlock) (hne : B' ≠ B) : _root_.Go.Boxed (w1.setCell ⟨B, 0, none⟩ v') B' t u :=
  ((hb.alloc tmp).kept hgrow (hb.not_row hte hrow)).other hne v'
theorem results_cells2 {fn : Func} {p q : Tmp} {ty ty' : TypeId} (h : fn.results = #[.cell p ty, .cell q ty']) (tmps : Array Value) (P : Program) (w : World) {a b : Addr} {v v' : Value}
    (h1 : (asAddr (tmps.getD p undef)).run P w = .ok a w) (h2 : (loadVar ty a).run P w = .ok v w) (h3 : (asAddr (tmps.getD q undef)).run P w = .ok b w) (h4 : (loadVar ty' b).run P w = .ok v' w) :
    (results fn tmps).run P w = .ok (.tuple #[v, v']) w := by
  rw [Array.getD_eq_getD_getElem?] at h1 h3
  simp [results, h, Sem.run_bind, Result.andThen, h1, h2, h3, h4]
def fitAll (A B : List Sd) : Bool := (bothL A B).all (fun p => p.2)
def uniL (A B : List Sd) : List Sd := if fitAll A B then (bothL A B).map Prod.fst else []

/-- The cells of slots that are made. -/
def mkS (N : Nat) : Array Value := madeCells (Value.agg #[.int .i64 0, .int .i64 0, .int .i64 0, .string ⟨#[]⟩, .bool false]).cells (N * 5)
theorem mkS_size (N : Nat) : (mkS N).size = N * 5 := size_madeCells _ _
theorem make_slots (N : Nat) (hN : N ≤ 1000000) (w : World) : (Instr.makeSlice 22 (.int .i64 0) (.int .i64 (N : Int))).run Tryd.prog w = .ok (.slice (some ⟨w.heap.size, 0, none⟩) 0 N) (w.alloc (.cells (mkS N) 36)) := by
  obtain ⟨i0, hi, hz0, hz1, hz2⟩ := info_parts infoS
  have h := run_make w 22 36 i0 _ Tryd.underlying22 hi hz0 .i64 .i64 0 (N : Int) (by omega) (by omega) (by rw [hz2]; omega) (by omega)
  rw [h, hz1]
  simp [mkS]
theorem all_snoc (pre : List (Sd × Bool)) (x : Sd × Bool) : (∀ p ∈ pre ++ [x], p.2 = true) ↔ (∀ p ∈ pre, p.2 = true) ∧ x.2 = true := by
  simp [or_imp, forall_and]
theorem fit_no {A B : List Sd} {pre : List (Sd × Bool)} (h : pre <+: bothL A B) (hx : ∃ p ∈ pre, p.2 = false) : fitAll A B = false := by
  obtain ⟨p, hp, e⟩ := hx
  obtain ⟨r, hr⟩ := h
  unfold fitAll
  rw [List.all_eq_false]
  exact ⟨p, by rw [← hr]; simp [hp], by simp [e]⟩
theorem fit_yes {A B : List Sd} (h : ∀ p ∈ bothL A B, p.2 = true) : fitAll A B = true := by
  unfold fitAll
  rw [List.all_eq_true]
  exact h
theorem cellsS_snoc (pre : List (Sd × Bool)) (x : Sd × Bool) : cellsS ((pre ++ [x]).map Prod.fst) = cellsS (pre.map Prod.fst) ++ encS x.1 := by
  rw [List.map_append, cellsS_app]
  simp [cellsS]

set_option maxRecDepth 100000 in
set_option maxHeartbeats 2000000 in
theorem bUnion_calls (a b : Option Addr) (la ca lb cb : Nat) (A B : List Sd) (w : World) (hsA : SIn w a la A) (hsB : SIn w b lb B) (hla : la ≤ 100) (hlb : lb ≤ 100) :
    Calls Tryd.prog 8 #[.slice a la ca, .slice b lb cb] w fun e w' => ∃ o, e = .returned (.tuple #[o, .bool (fitAll A B)]) ∧ w'.ownsRow w.heap.size 36 5 o (uniL A B).length (cellsS (uniL A B)) ∧ Below w.heap.size w w' := by
  refine (callsIn_wide (n := 6)).1 ?_
  obtain ⟨i0, hi, hz0, hz1, hz2⟩ := info_parts infoS
  have hlen : (bothL A B).length ≤ 200 := by
    have := both_len A B
    rw [hsA.leng, hsB.leng] at this
    omega
  have hmk := make_slots (la + lb) (by omega)
  rw [Int.natCast_add] at hmk
  refine callsIn_of_wp_marks Tryd.func8 rfl trivial ?_ rfl
  simp only [Tryd.ntmps8, List.size_toArray, List.length_cons, List.length_nil, Nat.reduceAdd, Nat.reduceSub, Array.replicate_succ, Array.replicate_zero, List.push_toArray, List.append_toArray, List.nil_append, List.cons_append]
  gi_wp2_with (refine ⟨trivial, ?_⟩; gi_at_call 26; refine (callsIn_wide.2 (both_calls a b la ca lb cb _)).mono ?_; rintro e w2 ⟨rfl, rfl⟩)
  have bR := ((((_root_.Go.Boxed.new w 22 (.slice none 0 0)).alloc (.cells #[.bool false] 4)).alloc (.cells (mkS (la + lb)) 36)).alloc (.cells #[.slice (some ⟨w.heap.size + 1 + 1, 0, none⟩) 0 (la + lb)] 22))
  have bR := (bR.alloc (.cells #[.slice a la ca] 22)).alloc (.cells #[.slice b lb cb] 22)
  have bK := (((((_root_.Go.Boxed.new (w.alloc (.cells #[.slice none 0 0] 22)) 4 (.bool false)).alloc (.cells (mkS (la + lb)) 36)).alloc (.cells #[.slice (some ⟨w.heap.size + 1 + 1, 0, none⟩) 0 (la + lb)] 22)).alloc (.cells #[.slice a la ca] 22)).alloc (.cells #[.slice b lb cb] 22))
  have hrow := ((((World.ownsRow_made (base := w.heap.size) (e := 36) (size := 5) ((w.alloc (.cells #[.slice none 0 0] 22)).alloc (.cells #[.bool false] 4)) (mkS (la + lb)) (la + lb) (by simp; omega) (by unfold maxLen; omega) (mkS_size _)).alloc (.cells #[.slice (some ⟨w.heap.size + 1 + 1, 0, none⟩) 0 (la + lb)] 22)).alloc (.cells #[.slice a la ca] 22)).alloc (.cells #[.slice b lb cb] 22))
  have bT := (((_root_.Go.Boxed.new (((w.alloc (.cells #[.slice none 0 0] 22)).alloc (.cells #[.bool false] 4)).alloc (.cells (mkS (la + lb)) 36)) 22 (.slice (some ⟨w.heap.size + 1 + 1, 0, none⟩) 0 (la + lb))).alloc (.cells #[.slice a la ca] 22)).alloc (.cells #[.slice b lb cb] 22))
  have bA := ((_root_.Go.Boxed.new ((((w.alloc (.cells #[.slice none 0 0] 22)).alloc (.cells #[.bool false] 4)).alloc (.cells (mkS (la + lb)) 36)).alloc (.cells #[.slice (some ⟨w.heap.size + 1 + 1, 0, none⟩) 0 (la + lb)] 22)) 22 (.slice a la ca)).alloc (.cells #[.slice b lb cb] 22))
  have bB := _root_.Go.Boxed.new (((((w.alloc (.cells #[.slice none 0 0] 22)).alloc (.cells #[.bool false] 4)).alloc (.cells (mkS (la + lb)) 36)).alloc (.cells #[.slice (some ⟨w.heap.size + 1 + 1, 0, none⟩) 0 (la + lb)] 22)).alloc (.cells #[.slice a la ca] 22)) 22 (.slice b lb cb)
  simp only [World.size_alloc] at bK hrow bT bA bB
  have hB0 := ((((((Below.refl w.heap.size w).alloc (Nat.le_refl _) (.cells #[.slice none 0 0] 22)).alloc (by simp) (.cells #[.bool false] 4)).alloc (by simp; omega) (.cells (mkS (la + lb)) 36)).alloc (by simp; omega) (.cells #[.slice (some ⟨w.heap.size + 1 + 1, 0, none⟩) 0 (la + lb)] 22)).alloc (by simp; omega) (.cells #[.slice a la ca] 22)).alloc (by simp; omega) (.cells #[.slice b lb cb] 22)
  have hsz : ((((((w.alloc (.cells #[.slice none 0 0] 22)).alloc (.cells #[.bool false] 4)).alloc (.cells (mkS (la + lb)) 36)).alloc (.cells #[.slice (some ⟨w.heap.size + 1 + 1, 0, none⟩) 0 (la + lb)] 22)).alloc (.cells #[.slice a la ca] 22)).alloc (.cells #[.slice b lb cb] 22)).heap.size = w.heap.size + 6 := by simp
  obtain ⟨W0, hW0⟩ : ∃ W0, ((((((w.alloc (.cells #[.slice none 0 0] 22)).alloc (.cells #[.bool false] 4)).alloc (.cells (mkS (la + lb)) 36)).alloc (.cells #[.slice (some ⟨w.heap.size + 1 + 1, 0, none⟩) 0 (la + lb)] 22)).alloc (.cells #[.slice a la ca] 22)).alloc (.cells #[.slice b lb cb] 22)) = W0 := ⟨_, rfl⟩
  rw [hW0] at bR bK hrow bT bA bB hB0 hsz ⊢
  clear hW0 hmk
  refine wpIn_rangeFunc_ownH rfl (by omega) (gf := 43) (lb := #[.pointer (some ⟨w.heap.size + 1 + 1 + 1 + 1, 0, none⟩), .pointer (some ⟨w.heap.size + 1 + 1 + 1 + 1 + 1, 0, none⟩)]) rfl trivial (enters_of Tryd.func43 (by kernel_rfl) rfl)
    (both_stops 5 (by omega) (w.heap.size + 1 + 1 + 1 + 1) (w.heap.size + 1 + 1 + 1 + 1 + 1) a b la ca lb cb A B w hsA hsB W0 hB0 bA.cell bB.cell) kpB_t (kpB_b (by omega) (by omega) (by omega)) (Below.refl _ _) (fun _ => rfl)
    (fun pre W => ((∃ v, _root_.Go.Boxed W (w.heap.size + 1 + 1 + 1) 22 v ∧ W.ownsRow w.heap.size 36 5 v pre.length (cellsS (pre.map Prod.fst)) ∧ (∀ p ∈ pre, p.2 = true)) ∧ (_root_.Go.Boxed W w.heap.size 22 (.slice none 0 0) ∧ _root_.Go.Boxed W (w.heap.size + 1) 4 (.bool false))) ∧ ((_root_.Go.Boxed W (w.heap.size + 1 + 1 + 1 + 1) 22 (.slice a la ca) ∧ _root_.Go.Boxed W (w.heap.size + 1 + 1 + 1 + 1 + 1) 22 (.slice b lb cb)) ∧ Below w.heap.size w W))
    (fun c pre W => ((_root_.Go.Boxed W w.heap.size 22 (.slice none 0 0) ∧ _root_.Go.Boxed W (w.heap.size + 1) 4 (.bool false)) ∧ Below w.heap.size w W) ∧ (c = .ret ∧ ∃ p ∈ pre, p.2 = false))
    (OwnFrom.and (OwnFrom.and (Own.from (holdsRow_own w.heap.size (w.heap.size + 1 + 1 + 1) 22 36 5 (fun pre : List (Sd × Bool) => pre.length) (fun pre => cellsS (pre.map Prod.fst)) (fun pre _ => ∀ p ∈ pre, p.2 = true)) _) (OwnFrom.and (Own.from (boxed_own _ _ _) _) (Own.from (boxed_own _ _ _) _))) (OwnFrom.and (OwnFrom.and (Own.from (boxed_own _ _ _) _) (Own.from (boxed_own _ _ _) _)) (ownFrom_below (Nat.le_refl _) (by omega))))
    (fun c => OwnFrom.and (OwnFrom.and (OwnFrom.and (Own.from (boxed_own _ _ _) _) (Own.from (boxed_own _ _ _) _)) (ownFrom_below (Nat.le_refl _) (by omega))) (ownFrom_pure _ _))
    ⟨⟨⟨_, bT, hrow, by simp⟩, bR, bK⟩, ⟨bA, bB⟩, hB0⟩
    (fun x a' W => ∃ Bx, w.heap.size + 1 + 1 + 1 + 1 + 1 < Bx ∧ Blk W Bx #[.int .i64 x.1.x, .int .i64 x.1.v.k, .int .i64 x.1.v.i, .string x.1.v.s, .bool x.1.v.b] 36 ∧ a' = { tmps := #[.slice a la ca, .slice b lb cb, undef, undef, .pointer (some ⟨w.heap.size, 0, none⟩), .pointer (some ⟨w.heap.size + 1, 0, none⟩), .pointer (some ⟨w.heap.size + 1 + 1 + 1, 0, none⟩), .pointer (some ⟨Bx, 0, none⟩), .bool x.2, .slice a la ca, .int .i64 la, .slice b lb cb, .int .i64 lb, .int .i64 ((la : Int) + (lb : Int)), .slice (some ⟨w.heap.size + 1 + 1, 0, none⟩) 0 (la + lb), .slice a la ca, .slice b lb cb, .func (.func 43) #[] #[.pointer (some ⟨w.heap.size + 1 + 1 + 1 + 1, 0, none⟩), .pointer (some ⟨w.heap.size + 1 + 1 + 1 + 1 + 1, 0, none⟩)], .agg #[.int .i64 x.1.x, .int .i64 x.1.v.k, .int .i64 x.1.v.i, .string x.1.v.s, .bool x.1.v.b], .bool x.2, undef, undef, undef, undef, undef, undef, undef], defers := [] })
    (fun x a' _ X Y row hs hg hr => by obtain ⟨Bx, h1, h2, h3⟩ := hs; exact ⟨Bx, h1, blk_own Bx 36 (fun (_ : Unit) => _) () X Y row h2 hg (fun r e => (hr r e).2), h3⟩)
    ?assign ?body ?done ?stop
  case assign =>
    rintro l pre x W K ⟨⟨⟨v, hv, hrw, hall⟩, bR1, bK1⟩, ⟨bA1, bB1⟩, hB1⟩ hK
    have hsW := bB1.lt
    dsimp only [encB]
    gi_wp2
    exact hK _ _ ((KeepsOthers.alloc _ _).from _) ⟨(Below.refl _ W).alloc hB1.size _, (bA1.alloc _).cell.trans bA1.cell.symm, (bB1.alloc _).cell.trans bB1.cell.symm⟩ ⟨⟨⟨v, hv.alloc _, hrw.alloc _, hall⟩, bR1.alloc _, bK1.alloc _⟩, ⟨bA1.alloc _, bB1.alloc _⟩, hB1.alloc hB1.size _⟩ ⟨W.heap.size, hsW, Blk.new W _ _, rfl⟩
  case body =>
    rintro l pre x a' W hl _ ⟨⟨⟨v, hv, hrw, hall⟩, bR1, bK1⟩, ⟨bA1, bB1⟩, hB1⟩ ⟨Bx, hBx, hx, rfl⟩ hlt
    cases hf : x.2
    · have c1 := bR1.cell
      have c2 := bK1.cell
      have g1 := bR1.frozen
      have g2 := bK1.frozen
      gi_wp2
      exact ⟨((KeepsOthers.setCell _ _ _).trans (KeepsOthers.setCell _ _ _)).from _, ⟨⟨(bR1.set _).other (by omega) _, (bK1.other (by omega) _).set _⟩, (hB1.setCell (p := ⟨w.heap.size, 0, none⟩) (Nat.le_refl _) _).setCell (p := ⟨w.heap.size + 1, 0, none⟩) (by simp) _⟩, rfl, x, by simp, hf⟩
    · have c3 := hv.cell
      have x0 := hx.cell 0
      have x1 := hx.cell 1
      have x2 := hx.cell 2
      have x3 := hx.cell 3
      have x4 := hx.cell 4
      simp only [List.getElem?_toArray, List.getElem?_cons_zero, List.getElem?_cons_succ] at x0 x1 x2 x3 x4
      obtain ⟨va, vc, rfl⟩ := own_slice hrw
      gi_wp2_with (gi_at_builtin; refine wpListIn_append_own _ rfl _ _ 22 rfl w.heap.size 36 i0 _ 5 48 Tryd.underlying22 hi hz0 hz1 hz2 rfl (by decide) _ _ _ rfl (hrw.alloc _) ⟨W.heap.size, 0, none⟩ 1 1 (encS x.1) rfl rfl (new_enc W x.1 _) (encS_one x.1) (by unfold maxLen; omega) (by omega) (by have := hB1.size; simp; omega) ?_; intro v' w1 hown' hgrow _; obtain ⟨g', cap', rfl⟩ := ownsRow_succ hown'; obtain ⟨hv1, hv2, hr2, hk2, hb2⟩ := hv.appended (by decide) hrw hB1.size (by omega) hown' hgrow; have hc1 := hv1.cell; have hf1 := hv1.frozen)
      have bA2 := box_after (B := w.heap.size + 1 + 1 + 1) (v' := .slice (some ⟨g', 0, none⟩) (pre.length + 1) cap') bA1 (by decide) hrw hgrow (by omega)
      have bB2 := box_after (B := w.heap.size + 1 + 1 + 1) (v' := .slice (some ⟨g', 0, none⟩) (pre.length + 1) cap') bB1 (by decide) hrw hgrow (by omega)
      exact ⟨hk2.from _, ⟨hb2, bA2.cell.trans bA1.cell.symm, bB2.cell.trans bB1.cell.symm⟩, ⟨⟨_, hv2, by rw [cellsS_snoc, List.length_append]; exact hr2, (all_snoc pre x).2 ⟨hall, hf⟩⟩, box_after bR1 (by decide) hrw hgrow (by omega), box_after bK1 (by decide) hrw hgrow (by omega)⟩, ⟨bA2, bB2⟩, hB1.trans hb2⟩
  case done =>
    rintro D ys W hD rfl ⟨⟨⟨v, hv, hrw, hall⟩, bR1, bK1⟩, ⟨bA1, bB1⟩, hB1⟩ hK
    obtain ⟨va, vc, rfl⟩ := own_slice hrw
    have c1 := bR1.cell
    have c2 := bK1.cell
    have c3 := hv.cell
    have g1 := bR1.frozen
    have g2 := bK1.frozen
    have hfa := fit_yes hall
    have bR2 := (bR1.set (.slice va (bothL A B).length vc)).other (B' := w.heap.size + 1) (by omega) (.bool true)
    have bK2 := (bK1.other (B' := w.heap.size) (by omega) (.slice va (bothL A B).length vc)).set (.bool true)
    have hK2 := ((KeepsOthers.setCell W ⟨w.heap.size, 0, none⟩ (.slice va (bothL A B).length vc)).trans (KeepsOthers.setCell _ ⟨w.heap.size + 1, 0, none⟩ (.bool true))).same D _ hK rfl
    have hB2 := (hB1.setCell (p := ⟨w.heap.size, 0, none⟩) (Nat.le_refl _) (.slice va (bothL A B).length vc)).setCell (p := ⟨w.heap.size + 1, 0, none⟩) (by simp) (.bool true)
    have hrw2 := (hrw.kept (grownBy_setCell' W w.heap.size (.slice va (bothL A B).length vc)) (.inr (bR1.not_row (by decide) hrw).symm))
    have hrw2 := hrw2.kept (grownBy_setCell' _ (w.heap.size + 1) (.bool true)) (.inr ((bK1.other (B' := w.heap.size) (by omega) (.slice va (bothL A B).length vc)).not_row (by decide) hrw2).symm)
    gi_wp2
    generalize (W.setCell ⟨w.heap.size, 0, none⟩ (.slice va (bothL A B).length vc)).setCell ⟨w.heap.size + 1, 0, none⟩ (.bool true) = W2 at bR2 bK2 hK2 hB2 hrw2 ⊢
    refine ⟨by simp, .inl ⟨_, _, rfl, run_takeDeferred hK2, ?_⟩⟩
    have k1 := cell_kept bR2.cell (grownBy_putObj' _ D (.deferred none)) (fun r e => by cases e; exact ⟨_, hK2, rfl⟩)
    have k2 := cell_kept bK2.cell (grownBy_putObj' _ D (.deferred none)) (fun r e => by cases e; exact ⟨_, hK2, rfl⟩)
    refine ⟨.tuple #[.slice va (bothL A B).length vc, .bool true], ?_, _, by rw [hfa], ?_, hB2.trans (belowK_b (w := w) (Nat.le_refl _) _ D _ _ (by omega) hK2 rfl rfl)⟩
    · refine results_cells2 rfl _ _ _ (a := ⟨w.heap.size, 0, none⟩) (b := ⟨w.heap.size + 1, 0, none⟩) (by rfl) ?_ (by rfl) ?_
      · go_simp
      · go_simp
    · unfold uniL
      rw [if_pos hfa, List.length_map]
      exact ownsRow_putObj hrw2 _ hK2 rfl
  case stop =>
    rintro D c pre W hD hp ⟨⟨⟨bR1, bK1⟩, hB1⟩, rfl, hno⟩ hK
    have hfa := fit_no hp hno
    gi_wp2
    refine ⟨by simp, .inl ⟨_, _, rfl, run_takeDeferred hK, ?_⟩⟩
    have k1 := cell_kept bR1.cell (grownBy_putObj' _ D (.deferred none)) (fun r e => by cases e; exact ⟨_, hK, rfl⟩)
    have k2 := cell_kept bK1.cell (grownBy_putObj' _ D (.deferred none)) (fun r e => by cases e; exact ⟨_, hK, rfl⟩)
    refine ⟨.tuple #[.slice none 0 0, .bool false], ?_, _, by rw [hfa], ?_, hB1.trans (belowK_b (w := w) (Nat.le_refl _) _ D _ _ (by omega) hK rfl rfl)⟩
    · refine results_cells2 rfl _ _ _ (a := ⟨w.heap.size, 0, none⟩) (b := ⟨w.heap.size + 1, 0, none⟩) (by rfl) ?_ (by rfl) ?_
      · go_simp
      · go_simp
    · unfold uniL
      rw [hfa]
      exact World.ownsRow_nil _ _ _ _
end Go.Proofs.YtjohiehlnbgdaaaDoor
