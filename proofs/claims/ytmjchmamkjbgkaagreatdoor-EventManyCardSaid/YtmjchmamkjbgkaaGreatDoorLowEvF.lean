/- Contracts of a lower layer, several texts in one. -/
import Derived.Test.YtmjchmamkjbgkaaGreatDoorQuoteBytes
import Derived.Lib.LaidTab
import Derived.LaidMore
import Derived.Stop.Joined
import Derived.Stop.LaidErr
import Derived.ProofKit
import Derived.Test.YtmjchmamkjbgkaaGreatDoorValData
import Derived.Test.YtmjchmamkjbgkaaGreatDoorLowCsvN
import Derived.HandedShaped
import Derived.Shelf.Vars
import Derived.Lay
import Derived.LaidHandle
import Derived.Test.YtmjchmamkjbgkaaGreatDoorBase
import Derived.Lib.SmallJoins
import Derived.OpenShut
import Derived.ShutString
import Derived.ChangeOld
import Derived.Test.YtmjchmamkjbgkaaGreatDoorValCells
import Derived.Deep.Slices
import Derived.Deep.Fields
import Derived.ChangeSame
import Derived.Test.YtmjchmamkjbgkaaGreatDoorLowSc2
import Derived.Test.YtmjchmamkjbgkaaGreatDoorLowEv1
import Derived.Deep.Strs
import Derived.ChangeSlices
import Derived.ChangeAt
/- QuoteLaid -/
namespace Go.Proofs.YtmjchmamkjbgkaaGreatDoor
open Go.RowKit

theorem two_of {α : Type} : ∀ {l : List α}, l.length = 2 → ∃ a b, l = [a, b]
  | [a, b], _ => ⟨a, b, rfl⟩
theorem cells8 : Tryz.prog.cellsOf 5 = 1 := by kernel_rfl
theorem cells58 : Tryz.prog.cellsOf 198 = 2 := by kernel_rfl
theorem cells59 : Tryz.prog.cellsOf 199 = 10 := by kernel_rfl
theorem gEscType : (Tryz.prog.globals[2]?).map (·.type) = some 199 := by kernel_rfl

theorem pair_cells {H : Type} {enc : TypeId × Value → H} {w : World} {base : Nat} {sp : Nat → Bool} {held : Bool} {fuel : Nat} {cs : List Value} {a b : Int} {p : List MemPlace}
    (h : DataW.trod enc Tryz.prog w base sp held fuel 198 cs = some (.agg [.lit (.int .u8 a), .lit (.int .u8 b)], p)) : cs = [.int .u8 a, .int .u8 b] := by
  cases fuel with
  | zero => simp [DataW.trod] at h
  | succ fuel =>
    simp only [DataW.trod, Tryz.underlying198, cells58] at h
    split at h
    · rename_i hl
      obtain ⟨xs, hm, hx⟩ := Option.map_eq_some_iff.1 h
      simp only [List.mapM_cons, List.mapM_nil, Option.bind_eq_bind, Option.bind_eq_some_iff, Option.pure_def, Option.some.injEq, cells8] at hm
      obtain ⟨x0, h0, r, ⟨x1, h1, r', hr', rfl⟩, rfl⟩ := hm
      subst hr'
      obtain ⟨z0, hc0, rfl, _⟩ := DataW.trod_int Tryz.underlying5 h0
      obtain ⟨z1, hc1, rfl, _⟩ := DataW.trod_int Tryz.underlying5 h1
      simp at hx
      obtain ⟨⟨rfl, rfl⟩, _⟩ := hx
      obtain ⟨u, v, rfl⟩ := two_of hl
      simp at hc0 hc1
      rw [hc0, hc1]
    · cases h

theorem esc_of_head {W : World} {rest : List (String × DataW Unit)} (h : laidMet Tryz.prog (("proctor/quote.escapes", Rows.laid_proctor_quote_escapes) :: rest) W) : Esc W := by
  obtain ⟨ps, ⟨g', t', cs, fuel, p, q, hg', ht', hvar, hd, _, _⟩, _⟩ := h
  obtain rfl := Option.some.inj (gEsc.symm.trans hg')
  obtain rfl := Option.some.inj (gEscType.symm.trans ht')
  unfold Esc
  rw [hvar]
  cases fuel with
  | zero => simp [DataW.trod] at hd
  | succ fuel =>
    simp only [DataW.trod, Tryz.underlying199, cells59, cells58] at hd
    split at hd
    · rename_i hl
      obtain ⟨xs, hm, hx⟩ := Option.map_eq_some_iff.1 hd
      have hxs : xs.map (·.1) = [.agg [.lit (.int .u8 34), .lit (.int .u8 34)], .agg [.lit (.int .u8 92), .lit (.int .u8 92)], .agg [.lit (.int .u8 10), .lit (.int .u8 110)], .agg [.lit (.int .u8 13), .lit (.int .u8 114)], .agg [.lit (.int .u8 9), .lit (.int .u8 116)]] := by
        have := congrArg Prod.fst hx
        simpa [Rows.laid_proctor_quote_escapes] using this
      have key : ∀ (i : Nat) (a b : Int), i < 5 → (xs.map (·.1))[i]? = some (.agg [.lit (.int .u8 a), .lit (.int .u8 b)]) → (cs.toList.drop (i * 2)).take 2 = [.int .u8 a, .int .u8 b] := by
        intro i a b hi hz
        obtain ⟨x, hb, hf⟩ := Lib.mapM_at hm i i (by simp [hi])
        simp [hb] at hz
        exact pair_cells (by rw [hf, ← hz])
      have e0 := key 0 34 34 (by omega) (by rw [hxs]; rfl)
      have e1 := key 1 92 92 (by omega) (by rw [hxs]; rfl)
      have e2 := key 2 10 110 (by omega) (by rw [hxs]; rfl)
      have e3 := key 3 13 114 (by omega) (by rw [hxs]; rfl)
      have e4 := key 4 9 116 (by omega) (by rw [hxs]; rfl)
      have hlist : cs.toList = [.int .u8 34, .int .u8 34, .int .u8 92, .int .u8 92, .int .u8 10, .int .u8 110, .int .u8 13, .int .u8 114, .int .u8 9, .int .u8 116] := by
        generalize cs.toList = l at *
        match l, hl with
        | [a, b, c, d, e, f, g, h, i, j], _ =>
          simp at e0 e1 e2 e3 e4
          obtain ⟨rfl, rfl⟩ := e0
          obtain ⟨rfl, rfl⟩ := e1
          obtain ⟨rfl, rfl⟩ := e2
          obtain ⟨rfl, rfl⟩ := e3
          obtain ⟨rfl, rfl⟩ := e4
          rfl
      rw [← Array.toArray_toList (xs := cs), hlist]
    · cases hd

end Go.Proofs.YtmjchmamkjbgkaaGreatDoor

/- EvSent -/
namespace Go.Proofs.YtmjchmamkjbgkaaGreatDoor
open Go.RowKit
set_option linter.unusedVariables false
theorem star : "*" ++ "errors.errorString" = "*errors.errorString" := by decide
theorem rowErr (u : TypeId) (h : Tryz.prog.typeName? 3 u = some "*errors.errorString") : u = 238 :=
  typeName_ptr_named (nm := "errors.errorString") (by rw [star]; kernel_rfl) (by kernel_rfl) (by decide) u (by rw [star]; exact h)
theorem cellsErr : Tryz.prog.cellsOf 240 = 1 := by kernel_rfl
theorem cellsStr : Tryz.prog.cellsOf 9 = 1 := by kernel_rfl
theorem tab_of_head {W : World} {rest : List (String × DataW Unit)} (h : laidMet Tryz.prog (("internal/strconv.uint64pow10", Rows.laid_internal_strconv_uint64pow10) :: rest) W) : Tab W :=
  Lib.tabIs_of_head gPow gPowType Tryz.underlying210 Tryz.underlying193 cellsU64 cellsPow h
end Go.Proofs.YtmjchmamkjbgkaaGreatDoor

/- EvFrame -/
namespace Go.Proofs.YtmjchmamkjbgkaaGreatDoor
open Go.RowKit
set_option linter.unusedVariables false

section
variable {H : Type} {enc : TypeId × Value → H}
theorem cs_handed {a : Assume} {C : Checked} {os : Os} {f : FuncId} {fn : Func} {s : ChangeSpec} {conds : List PathCond} {apart fresh handsOn again : Bool} {X : World → Array Value → Prop}
    (hX : ∀ (w w' : World) (args : Array Value), w.heap = w'.heap → X w args → X w' args)
    (own : ownKnob C.prog.godebug = none) (started : os.Started) (noInit : C.prog.inits.idxOf? f = none) (hfn : C.prog.funcs[f]? = some fn)
    (witness : ∃ (w : World) (tape : Tape) (i : Input), w.os = os ∧ (w.forCall tape i).Shaped C.prog ∧ i.vars = [] ∧ Input.okWide C.prog (w.forCall tape i) .any w.heap.size f i ∧
      ((s.pre enc C.prog fn conds apart (w.forCall tape i).memory i.args ∧ X (w.forCall tape i).memory i.args) ∧ sizedMet enc C.prog fn (OpenSpec.ofChange s) apart (w.forCall tape i).memory i.args) ∧ a.holds C.prog (lone (Frame.enter C.prog f i.args .normal) [] (w.forCall tape i)))
    (contract : ∀ (W : World) (base : Nat) (args : Array Value) (ds gs : List (DataW H)) (before : List MemPlace),
      (∀ (j : Nat) t v, fn.params[j]? = some t → args[j]? = some v → Value.okWide C.prog W .any base t v) →
      DataW.Whole enc C.prog fn.params.toList s.vars apart W args.toList ds gs before → W.ShapedOpen C.prog → X W args →
      Calls C.prog f args W fun e W' => ∃ v, e = .returned v ∧ s.post enc C.prog fn apart fresh handsOn again W args v W') :
    ReturnsInHanded a C os f .any (fun w args => (s.pre enc C.prog fn conds apart w args ∧ X w args) ∧ sizedMet enc C.prog fn (OpenSpec.ofChange s) apart w args) (s.post enc C.prog fn apart fresh handsOn again) := by
  refine returnsInHanded_of_calls own started noInit witness ?_
  intro w tape i _ hsh _ hok hpre _
  obtain ⟨_, _, _, fn', hfn', _, _, _, _, hval⟩ := hok
  obtain rfl : fn' = fn := Option.some.inj (hfn'.symm.trans hfn)
  obtain ⟨⟨⟨ds, gs, before, hw, _⟩, hx⟩, _⟩ := hpre
  refine (contract (w.forCall tape i) w.heap.size i.args ds gs before hval (DataW.Whole.of_heap (w' := w.forCall tape i) (by rfl) hw) hsh (hX _ _ _ (by rfl) hx)).mono fun e W' ⟨v, he, hp⟩ => ?_
  subst he
  exact ChangeSpec.post_blind hp
end

theorem maxC_of_shape {w : World} (h : w.ShapedOpen Tryz.prog) : MaxC w :=
  cell_of_shapedOpen_int (t := 3) (zero := #[.int .i64 0]) h (of_decide_eq_true (by kernel_rfl)) (by kernel_rfl) rfl (by kernel_rfl) (by kernel_rfl) Tryz.underlying3

theorem cs_et : Tryz.prog.globalNamed "errors.errorType" = some 0 := by kernel_rfl
theorem cs_rt : (Tryz.prog.cutTypes.find? (·.1 == "internal/reflectlite.rtype")).map (·.2) = some 143 := by kernel_rfl
theorem cs_oneRow : ((List.range Tryz.prog.types.size).filter fun t => Tryz.prog.rowNamed t [101, 114, 114, 111, 114]) = [73] := by kernel_rfl
theorem errT_of_handle {W : World} (h : handlesMet Tryz.prog [("errors.errorType", Rows.laid_errors_errorType)] W) : ErrT W := by
  obtain ⟨name, u, ty, e1, e2, e3, e4, e5⟩ := h _ (List.mem_singleton.2 rfl)
  have en : name = [101, 114, 114, 111, 114] := (Option.some.inj e1).symm
  subst en
  obtain rfl := Option.some.inj (cs_rt.symm.trans e2)
  have hm : ty ∈ (List.range Tryz.prog.types.size).filter fun t => Tryz.prog.rowNamed t [101, 114, 114, 111, 114] := List.mem_filter.2 ⟨List.mem_range.2 e3, e4⟩
  rw [cs_oneRow] at hm
  obtain rfl := List.mem_singleton.1 hm
  have hh : typeHandle Tryz.prog 73 = .pointer (some ⟨10, 73, none⟩) := by kernel_rfl
  rw [hh] at e5
  simpa [ErrT] using World.var?_cell cs_et e5 0
/-- The variable that holds a type, laid. -/
noncomputable def evW0 (os : Os) : World :=
  let w0 := World.holding Tryz.prog os ⟨#[], #[], []⟩
  { w0 with heap := w0.heap.modify 0 fun
      | .cells _ t frozen => .cells #[.iface 143 (.agg #[.pointer (some ⟨10, 73, none⟩)])] t frozen
      | o => o }

/-- What rows of this seat list. -/
abbrev evLaidA : List (String × DataW Unit) := [("math/bits.deBruijn32tab", Rows.laid_math_bits_deBruijn32tab), ("math/bits.deBruijn64tab", Rows.laid_math_bits_deBruijn64tab), ("internal/strconv.uint64pow10", Rows.laid_internal_strconv_uint64pow10), ("unicode/utf8.acceptRanges", Rows.laid_unicode_utf8_acceptRanges), ("errors.errorType", Rows.laid_errors_errorType), ("strconv.ErrRange", Rows.laid_strconv_ErrRange), ("strconv.ErrSyntax", Rows.laid_strconv_ErrSyntax), ("proctor/quote.escapes", Rows.laid_proctor_quote_escapes), ("unicode/utf8.first", Rows.laid_unicode_utf8_first)]
abbrev evPlainA : List (String × DataW Unit) := [("math/bits.deBruijn32tab", Rows.laid_math_bits_deBruijn32tab), ("math/bits.deBruijn64tab", Rows.laid_math_bits_deBruijn64tab), ("internal/strconv.uint64pow10", Rows.laid_internal_strconv_uint64pow10), ("unicode/utf8.acceptRanges", Rows.laid_unicode_utf8_acceptRanges), ("strconv.ErrRange", Rows.laid_strconv_ErrRange), ("strconv.ErrSyntax", Rows.laid_strconv_ErrSyntax), ("proctor/quote.escapes", Rows.laid_proctor_quote_escapes), ("unicode/utf8.first", Rows.laid_unicode_utf8_first)]
theorem all_of_laidA {W : World} (h : laidMetH Tryz.prog evLaidA W) : Laid W ∧ ErrT W := by
  have h' : laidMet Tryz.prog evPlainA W ∧ handlesMet Tryz.prog [("errors.errorType", Rows.laid_errors_errorType)] W := h
  refine ⟨⟨⟨tab_of_head h'.1.tail.tail, ?_⟩, esc_of_head h'.1.tail.tail.tail.tail.tail.tail⟩, errT_of_handle h'.2⟩
  obtain ⟨a, s, hv, _⟩ := laid_sentinel h'.1.tail.tail.tail.tail gErr gErrType Tryz.underlying73 rowErr Tryz.underlying238 Tryz.underlying240 rfl rfl Tryz.underlying9 cellsErr cellsStr
  exact ⟨a, hv⟩
noncomputable def evWA (os : Os) : World := (evW0 os).layVars Tryz.prog evPlainA
theorem evWA_os (os : Os) : (evWA os).os = os := World.layVars_os _ _ _
theorem evWA_plain (os : Os) : laidMet Tryz.prog evPlainA (evWA os) :=
  laidMet_layVars (w0 := evW0 os) (evPlainA.map (·.1)) [] (by rfl) (by kernel_rfl) (by kernel_rfl) LaidIn.none
theorem evWA_met (os : Os) (args : Array Value) : laidMetH Tryz.prog evLaidA ((evWA os).forCall (fun _ _ => 0) ⟨#[], args, []⟩).memory :=
  laidMetH_of_parts ((evWA_plain os).of_heap (by simp [World.memory, World.forCall, Input.heap])) (by kernel_rfl)
theorem evWA_shaped (os : Os) : (evWA os).Shaped Tryz.prog := World.shaped_of_ZipB (by kernel_rfl) (by kernel_rfl)

/-- What rows of this seat list. -/
abbrev evLaidB : List (String × DataW Unit) := [("math/bits.deBruijn32tab", Rows.laid_math_bits_deBruijn32tab), ("math/bits.deBruijn64tab", Rows.laid_math_bits_deBruijn64tab), ("internal/strconv.uint64pow10", Rows.laid_internal_strconv_uint64pow10), ("errors.errorType", Rows.laid_errors_errorType), ("strconv.ErrRange", Rows.laid_strconv_ErrRange), ("strconv.ErrSyntax", Rows.laid_strconv_ErrSyntax), ("proctor/quote.escapes", Rows.laid_proctor_quote_escapes)]
abbrev evPlainB : List (String × DataW Unit) := [("math/bits.deBruijn32tab", Rows.laid_math_bits_deBruijn32tab), ("math/bits.deBruijn64tab", Rows.laid_math_bits_deBruijn64tab), ("internal/strconv.uint64pow10", Rows.laid_internal_strconv_uint64pow10), ("strconv.ErrRange", Rows.laid_strconv_ErrRange), ("strconv.ErrSyntax", Rows.laid_strconv_ErrSyntax), ("proctor/quote.escapes", Rows.laid_proctor_quote_escapes)]
theorem all_of_laidB {W : World} (h : laidMetH Tryz.prog evLaidB W) : Laid W ∧ ErrT W := by
  have h' : laidMet Tryz.prog evPlainB W ∧ handlesMet Tryz.prog [("errors.errorType", Rows.laid_errors_errorType)] W := h
  refine ⟨⟨⟨tab_of_head h'.1.tail.tail, ?_⟩, esc_of_head h'.1.tail.tail.tail.tail.tail⟩, errT_of_handle h'.2⟩
  obtain ⟨a, s, hv, _⟩ := laid_sentinel h'.1.tail.tail.tail gErr gErrType Tryz.underlying73 rowErr Tryz.underlying238 Tryz.underlying240 rfl rfl Tryz.underlying9 cellsErr cellsStr
  exact ⟨a, hv⟩
noncomputable def evWB (os : Os) : World := (evW0 os).layVars Tryz.prog evPlainB
theorem evWB_os (os : Os) : (evWB os).os = os := World.layVars_os _ _ _
theorem evWB_plain (os : Os) : laidMet Tryz.prog evPlainB (evWB os) :=
  laidMet_layVars (w0 := evW0 os) (evPlainB.map (·.1)) [] (by rfl) (by kernel_rfl) (by kernel_rfl) LaidIn.none
theorem evWB_met (os : Os) (args : Array Value) : laidMetH Tryz.prog evLaidB ((evWB os).forCall (fun _ _ => 0) ⟨#[], args, []⟩).memory :=
  laidMetH_of_parts ((evWB_plain os).of_heap (by simp [World.memory, World.forCall, Input.heap])) (by kernel_rfl)
theorem evWB_shaped (os : Os) : (evWB os).Shaped Tryz.prog := World.shaped_of_ZipB (by kernel_rfl) (by kernel_rfl)
end Go.Proofs.YtmjchmamkjbgkaaGreatDoor

/- ValShut -/
namespace Go.Proofs.YtmjchmamkjbgkaaGreatDoor
open Go.ChangeShapes Go.WideShapes Go.ChangeAt Go.RowKit Go.Joins
set_option linter.unusedVariables false

theorem cellsVal : Tryz.prog.cellsOf 44 = 4 := by kernel_rfl
section
variable {H : Type} {enc : TypeId × Value → H} {w : World} {base : Nat} {spare : Nat → Bool} {held : Bool}
set_option maxRecDepth 100000 in
theorem open_val {r : Reach} {b0 : Nat} {v : Value} {d : DataW H} {p : List MemPlace} (hv : Value.okWide Tryz.prog w r b0 44 v) (h : DataW.Trod enc Tryz.prog w base spare held 44 v d p) :
    ∃ (k i : Int) (s : ByteArray) (b : Bool), v = .agg #[.int .i64 k, .int .i64 i, .string s, .bool b] ∧ d = .agg [.lit (.int .i64 k), .lit (.int .i64 i), .lit (.string s.data.toList), .lit (.bool b)] ∧ p = [] ∧ (Lit.int .i64 k).wf = true ∧ (Lit.int .i64 i).wf = true ∧ s.size ≤ maxLen := by
  obtain ⟨c0, c1, c2, c3, y0, y1, y2, y3, m, rfl, rfl, rfl, hy0, hy1, hy2, hy3⟩ := open_agg4 Tryz.underlying44 (by kernel_rfl) cellsVal hv h
  obtain ⟨k, e0, rfl, wk⟩ := DataW.trod_int Tryz.underlying3 hy0
  obtain ⟨i, e1, rfl, wi⟩ := DataW.trod_int Tryz.underlying2 hy1
  obtain ⟨s, e2, rfl, ws⟩ := DataW.trod_string Tryz.underlying9 hy2
  obtain ⟨b, e3, rfl⟩ := DataW.trod_bool Tryz.underlying4 hy3
  simp at e0 e1 e2 e3
  subst e0 e1 e2 e3
  exact ⟨k, i, s, b, rfl, rfl, rfl, wk, wi, ws⟩
set_option maxRecDepth 100000 in
theorem shut_val {k i : Int} {s : ByteArray} {b : Bool} (wk : (Lit.int .i64 k).wf = true) (wi : (Lit.int .i64 i).wf = true) (ws : s.size ≤ maxLen) :
    DataW.Trod enc Tryz.prog w base spare held 44 (.agg #[.int .i64 k, .int .i64 i, .string s, .bool b]) (.agg [.lit (.int .i64 k), .lit (.int .i64 i), .lit (.string s.data.toList), .lit (.bool b)]) [] :=
  shut_agg4 (y0 := (.lit (.int .i64 k), [])) (y1 := (.lit (.int .i64 i), [])) (y2 := (.lit (.string s.data.toList), [])) (y3 := (.lit (.bool b), [])) Tryz.underlying44 (by kernel_rfl) cellsVal
    ⟨1, by simp [DataW.trod, Tryz.underlying3, wk]⟩ ⟨1, by simp [DataW.trod, Tryz.underlying2, wi]⟩ ⟨1, by simp [DataW.trod, Tryz.underlying9, ws]⟩ ⟨1, by simp [DataW.trod, Tryz.underlying4]⟩
end
end Go.Proofs.YtmjchmamkjbgkaaGreatDoor

/- ValRowOpen -/
namespace Go.Proofs.YtmjchmamkjbgkaaGreatDoor
open Go.ChangeShapes Go.WideShapes Go.ChangeAt Go.RowKit Go.Joins Go.Deep
set_option linter.unusedVariables false

section
variable {H : Type} {enc : TypeId × Value → H} {w : World} {base : Nat} {spare : Nat → Bool} {held : Bool}
theorem four_of {α : Type} : ∀ {l : List α}, l.length = 4 → ∃ a b c d, l = [a, b, c, d]
  | [a, b, c, d], _ => ⟨a, b, c, d, rfl⟩
set_option maxRecDepth 100000 in
theorem val_cells {fuel : Nat} {cs : List Value} {x : DataW H × List MemPlace} (h : DataW.trod enc Tryz.prog w base spare held fuel 44 cs = some x) :
    ∃ v : Vd, cs = [.int .i64 v.k, .int .i64 v.i, .string v.s, .bool v.b] ∧ v.s.size ≤ maxLen ∧ (Lit.int .i64 v.i).wf = true := by
  obtain ⟨y0, y1, y2, y3, n, hx, hlen, h0, h1, h2, h3⟩ := trod_struct4 Tryz.underlying44 h
  rw [cellsVal] at hlen
  obtain ⟨a, b, c, d, rfl⟩ := four_of hlen
  have cI : Tryz.prog.cellsOf 3 = 1 := by kernel_rfl
  have cL : Tryz.prog.cellsOf 2 = 1 := by kernel_rfl
  have cS : Tryz.prog.cellsOf 9 = 1 := by kernel_rfl
  have cB : Tryz.prog.cellsOf 4 = 1 := by kernel_rfl
  simp [cI, cL, cS, cB] at h0 h1 h2 h3
  obtain ⟨k, e0, _, _⟩ := DataW.trod_int Tryz.underlying3 h0
  obtain ⟨i, e1, _, wi⟩ := DataW.trod_int Tryz.underlying2 h1
  obtain ⟨s, e2, _, ws⟩ := DataW.trod_string Tryz.underlying9 h2
  obtain ⟨q, e3, _⟩ := DataW.trod_bool Tryz.underlying4 h3
  simp at e0 e1 e2 e3
  exact ⟨⟨k, i, s, q⟩, by rw [e0, e1, e2, e3], ws, wi⟩
end

/-- What a walk is told of a list of values that came in. -/
def IsVRow (w : World) (a : Option Addr) (len : Nat) (L : List Vd) : Prop :=
  (len = 0 ∧ L = []) ∨ (len ≤ maxLen ∧ L.length = len ∧ (∃ g off, a = some ⟨g, off, none⟩ ∧ VRow w g off L) ∧ ∀ n, n < L.length → (L.getD n default).s.size ≤ maxLen)

theorem cell_lt {w : World} {g o : Nat} {v : Value} (h : w.cell? ⟨g, o, none⟩ = some v) : g < w.heap.size := by
  rcases Nat.lt_or_ge g w.heap.size with h' | h'
  · exact h'
  · simp [World.cell?, Array.getElem?_eq_none h'] at h

theorem add_off (g off n : Nat) : (⟨g, off, none⟩ : Addr).add n = ⟨g, off + n, none⟩ := by
  unfold Addr.add; split <;> simp_all

theorem getD_ofFn {n : Nat} (f : Nat → Vd) (j : Nat) (h : j < n) : ((List.range n).map f).getD j default = f j := by
  simp [List.getD, h]

set_option maxRecDepth 100000 in
theorem open_vrowB {H : Type} {enc : TypeId × Value → H} {W : World} {a : Option Addr} {len cap : Nat} {d : DataW H} {p : List MemPlace}
    (h : DataW.Trod enc Tryz.prog W 0 (fun _ => true) true 27 (.slice a len cap) d p) : ∃ L, IsVRow W a len L ∧ ∀ n, n < L.length → (Lit.int .i64 (L.getD n default).i).wf = true := by
  obtain ⟨fuel, hf⟩ := h
  rcases open_slice Tryz.underlying27 hf with ⟨hcs, _⟩ | ⟨x, l, c, m, n, D, Pl, hcs, _, hl, hm, hmm, _, hi⟩
  · simp [Value.cells] at hcs
    exact ⟨[], .inl ⟨hcs.2.1, rfl⟩, fun n hn => by simp at hn⟩
  · simp [Value.cells] at hcs
    obtain ⟨rfl, rfl, rfl⟩ := hcs
    by_cases h0 : len = 0
    · exact ⟨[], .inl ⟨h0, rfl⟩, fun n hn => by simp at hn⟩
    simp only [if_true] at hmm
    subst hmm
    rw [cellsVal] at hi
    have key : ∀ j, ∃ v : Vd, j < len → (W.cell? (x.add (j * 4)) = some (.int .i64 v.k) ∧ W.cell? ((x.add (j * 4)).add 1) = some (.int .i64 v.i) ∧ W.cell? ((x.add (j * 4)).add 2) = some (.string v.s) ∧ W.cell? ((x.add (j * 4)).add 3) = some (.bool v.b) ∧ v.s.size ≤ maxLen ∧ (Lit.int .i64 v.i).wf = true) := by
      intro j
      by_cases hj : j < len
      · obtain ⟨cs', hc, ht⟩ := hi j (by omega)
        obtain ⟨v, rfl, hs, hwi⟩ := val_cells ht
        obtain ⟨_, _, hat⟩ := World.cells?_some hc
        refine ⟨v, fun _ => ⟨?_, hat 1 (by omega), hat 2 (by omega), hat 3 (by omega), hs, hwi⟩⟩
        have := hat 0 (by omega)
        simpa [Addr.add] using this
      · exact ⟨default, fun h => absurd h hj⟩
    obtain ⟨f, hf⟩ : ∃ f : Nat → Vd, ∀ j, j < len → (W.cell? (x.add (j * 4)) = some (.int .i64 (f j).k) ∧ W.cell? ((x.add (j * 4)).add 1) = some (.int .i64 (f j).i) ∧ W.cell? ((x.add (j * 4)).add 2) = some (.string (f j).s) ∧ W.cell? ((x.add (j * 4)).add 3) = some (.bool (f j).b) ∧ (f j).s.size ≤ maxLen ∧ (Lit.int .i64 (f j).i).wf = true) :=
      ⟨fun j => (key j).choose, fun j hj => (key j).choose_spec hj⟩
    obtain ⟨g, off, spot⟩ := x
    have hc0 := (hf 0 (by omega)).1
    have hspot : spot = none := by simpa [Addr.add] using World.cell?_spot hc0
    subst hspot
    refine ⟨(List.range len).map f, .inr ⟨by omega, by simp, ⟨g, off, rfl, ⟨fun j hj => ?_, ?_⟩⟩, fun j hj => ?_⟩, fun j hj => ?_⟩
    · rw [List.length_map, List.length_range] at hj
      obtain ⟨k0, k1, k2, k3, _, _⟩ := hf j hj
      simp only [add_off] at k0 k1 k2 k3
      rw [getD_ofFn f j hj]
      exact ⟨k0, k1, k2, k3⟩
    · rw [add_off] at hc0
      exact cell_lt hc0
    · rw [List.length_map, List.length_range] at hj
      rw [getD_ofFn f j hj]
      exact (hf j hj).2.2.2.2.1
    · rw [List.length_map, List.length_range] at hj
      rw [getD_ofFn f j hj]
      exact (hf j hj).2.2.2.2.2
theorem open_vrow {H : Type} {enc : TypeId × Value → H} {W : World} {a : Option Addr} {len cap : Nat} {d : DataW H} {p : List MemPlace}
    (h : DataW.Trod enc Tryz.prog W 0 (fun _ => true) true 27 (.slice a len cap) d p) : ∃ L, IsVRow W a len L :=
  have ⟨L, h1, _⟩ := open_vrowB h
  ⟨L, h1⟩
end Go.Proofs.YtmjchmamkjbgkaaGreatDoor

/- EvOpen -/
namespace Go.Proofs.YtmjchmamkjbgkaaGreatDoor
open Go.ChangeShapes Go.WideShapes Go.ChangeAt Go.RowKit Go.Deep
set_option linter.unusedVariables false

theorem ev_cells1 : Tryz.prog.cellsOf 9 = 1 := by kernel_rfl
theorem ev_cells2 : Tryz.prog.cellsOf 27 = 1 := by kernel_rfl
theorem ev_cellsE : Tryz.prog.cellsOf 29 = 2 := by kernel_rfl
set_option maxRecDepth 100000 in
theorem open_tin {H : Type} {enc : TypeId × Value → H} {W : World} {a : Option Addr} {len cap : Nat} {d : DataW H} {p : List MemPlace}
    (h : DataW.Trod enc Tryz.prog W 0 (fun _ => true) true 23 (.slice a len cap) d p) : ∃ L, TIn W a len L ∧ len ≤ cap ∧ cap ≤ 9223372036854775807 := by
  obtain ⟨fuel, hf⟩ := h
  rcases open_strs Tryz.underlying23 Tryz.underlying9 ev_cells1 hf with ⟨hcs, hx⟩ | ⟨x, l, c, m, S, hcs, _, hl, hm, hmm, hx, hi⟩
  · simp [Value.cells] at hcs
    obtain ⟨rfl, rfl, rfl⟩ := hcs
    exact ⟨[], TIn.nil, by omega, by omega⟩
  · simp [Value.cells] at hcs
    obtain ⟨rfl, rfl, rfl⟩ := hcs
    simp only [if_true] at hmm
    subst hmm
    refine ⟨(List.range len).map (fun i => (S i).data.toList), ⟨by simp, by unfold maxLen at hm; omega, fun h0 => ?_⟩, hl, by unfold maxLen at hm; omega⟩
    obtain ⟨g, off, spot⟩ := x
    have hc0 := (hi 0 (by omega)).1
    have hspot : spot = none := by simpa [Addr.add] using World.cell?_spot hc0
    subst hspot
    refine ⟨g, off, rfl, ?_, fun j t hj => ?_⟩
    · rw [sc_add] at hc0
      exact block_lt_of_cell hc0
    · have hjl : j < len := by
        have := (List.getElem?_eq_some_iff.1 hj).1
        simpa using this
      have e : t = (S j).data.toList := by
        simp [hjl] at hj
        exact hj.symm
      have hcj := (hi j (by omega)).1
      rw [sc_add] at hcj
      rw [e]
      exact hcj
theorem open_vin' {H : Type} {enc : TypeId × Value → H} {W : World} {a : Option Addr} {len cap : Nat} {d : DataW H} {p : List MemPlace}
    (h : DataW.Trod enc Tryz.prog W 0 (fun _ => true) true 27 (.slice a len cap) d p) : ∃ L, VIn W a len L := by
  obtain ⟨L, h1, h2⟩ := open_vrowB h
  refine ⟨L, ?_⟩
  rcases h1 with ⟨rfl, rfl⟩ | ⟨hm, hl, hr, hs⟩
  · exact ⟨rfl, by omega, fun h => by omega, fun n hn => by simp at hn⟩
  · exact ⟨hl, by unfold maxLen at hm; omega, fun _ => hr, fun n hn => ⟨by have := hs n hn; unfold maxLen at this; omega, bounds_i64 (h2 n hn)⟩⟩
set_option maxRecDepth 100000 in
theorem open_vals {H : Type} {enc : TypeId × Value → H} {W : World} {fuel : Nat} {cs : List Value} {x : DataW H × List MemPlace}
    (h : DataW.trod enc Tryz.prog W 0 (fun _ => true) true fuel 27 cs = some x) : ∃ b A c, cs = [.slice b A.length c] ∧ VIn W b A.length A := by
  obtain ⟨d, p⟩ := x
  have key : ∃ b l c, cs = [.slice b l c] := by
    rcases open_slice Tryz.underlying27 h with ⟨hcs, _⟩ | ⟨x, l, c, m, n, D, Pl, hcs, _⟩
    · exact ⟨_, _, _, hcs⟩
    · exact ⟨_, _, _, hcs⟩
  obtain ⟨b, l, c, rfl⟩ := key
  obtain ⟨A, hA⟩ := open_vin' (enc := enc) (W := W) (a := b) (len := l) (cap := c) (d := d) (p := p) ⟨fuel, h⟩
  exact ⟨b, A, c, by rw [hA.leng], by rw [hA.leng]; exact hA⟩
set_option maxRecDepth 100000 in
theorem open_ev0 {H : Type} {enc : TypeId × Value → H} {W : World} {fuel : Nat} {cs : List Value} {x : DataW H × List MemPlace}
    (h : DataW.trod enc Tryz.prog W 0 (fun _ => true) true fuel 29 cs = some x) : ∃ (y : ByteArray) (b : Option Addr) (A : List Vd) (c : Nat), cs = [.string y, .slice b A.length c] ∧ VIn W b A.length A ∧ y.size ≤ 9223372036854775807 := by
  obtain ⟨y0, y1, n, hx, hlen, h0, h1⟩ := trod_struct2 Tryz.underlying29 h
  rw [ev_cellsE] at hlen
  obtain ⟨u, v, rfl⟩ := two_ofD hlen
  simp [ev_cells1, ev_cells2] at h0 h1
  obtain ⟨s, e0, _, hs⟩ := DataW.trod_string Tryz.underlying9 h0
  obtain ⟨b, A, c, e1, hk⟩ := open_vals h1
  simp at e0 e1
  exact ⟨s, b, A, c, by rw [e0, e1], hk, by unfold maxLen at hs; omega⟩
set_option maxRecDepth 100000 in
theorem open_ev {H : Type} {enc : TypeId × Value → H} {W : World} {r : Reach} {b0 : Nat} {v : Value} {d : DataW H} {p : List MemPlace} (hv : Value.okWide Tryz.prog W r b0 29 v)
    (h : DataW.Trod enc Tryz.prog W 0 (fun _ => true) true 29 v d p) : ∃ (y : ByteArray) (b : Option Addr) (A : List Vd) (c : Nat), v = .agg #[.string y, .slice b A.length c] ∧ VIn W b A.length A ∧ y.size ≤ 9223372036854775807 := by
  obtain ⟨cs, rfl, hsz⟩ := okWide_struct Tryz.underlying29 hv
  obtain ⟨fuel, hf⟩ := h
  obtain ⟨y, b, A, c, e, h1, h2⟩ := open_ev0 hf
  refine ⟨y, b, A, c, ?_, h1, h2⟩
  simp [Value.cells] at e
  congr 1
  exact Array.ext' e
set_option maxRecDepth 100000 in
theorem open_evin {H : Type} {enc : TypeId × Value → H} {W : World} {a : Option Addr} {len cap : Nat} {d : DataW H} {p : List MemPlace}
    (h : DataW.Trod enc Tryz.prog W 0 (fun _ => true) true 46 (.slice a len cap) d p) : ∃ L, EvIn W a len L False := by
  obtain ⟨fuel, hf⟩ := h
  rcases open_slice Tryz.underlying46 hf with ⟨hcs, _⟩ | ⟨x, l, c, m, n, D, Pl, hcs, _, hl, hm, hmm, _, hi⟩
  · simp [Value.cells] at hcs
    obtain ⟨rfl, rfl, rfl⟩ := hcs
    exact ⟨[], ⟨rfl, by omega, fun n hn => by omega⟩⟩
  · simp [Value.cells] at hcs
    obtain ⟨rfl, rfl, rfl⟩ := hcs
    simp only [if_true] at hmm
    subst hmm
    rw [ev_cellsE] at hi
    have key : ∀ j, ∃ z : (ByteArray × List Vd) × Option Addr × Nat, j < len → (W.cell? ((x.add (j * 2)).add 0) = some (.string z.1.1) ∧ W.cell? ((x.add (j * 2)).add 1) = some (.slice z.2.1 z.1.2.length z.2.2) ∧ VIn W z.2.1 z.1.2.length z.1.2 ∧ z.1.1.size ≤ 9223372036854775807) := by
      intro j
      by_cases hj : j < len
      · obtain ⟨cs', hc, ht⟩ := hi j (by omega)
        obtain ⟨y, b, V, c, rfl, hk, hs⟩ := open_ev0 ht
        obtain ⟨_, _, hat⟩ := World.cells?_some hc
        exact ⟨((y, V), b, c), fun _ => ⟨hat 0 (by omega), hat 1 (by omega), hk, hs⟩⟩
      · exact ⟨((⟨#[]⟩, []), none, 0), fun h => absurd h hj⟩
    obtain ⟨f, hf⟩ : ∃ f : Nat → (ByteArray × List Vd) × Option Addr × Nat, ∀ j, j < len → (W.cell? ((x.add (j * 2)).add 0) = some (.string (f j).1.1) ∧ W.cell? ((x.add (j * 2)).add 1) = some (.slice (f j).2.1 (f j).1.2.length (f j).2.2) ∧ VIn W (f j).2.1 (f j).1.2.length (f j).1.2 ∧ (f j).1.1.size ≤ 9223372036854775807) :=
      ⟨fun j => (key j).choose, fun j hj => (key j).choose_spec hj⟩
    refine ⟨(List.range len).map (fun j => (f j).1), ⟨by simp, by unfold maxLen at hm; omega, fun n hn => ?_⟩⟩
    obtain ⟨g, off, spot⟩ := x
    have hc0 := (hf 0 (by omega)).1
    have hspot : spot = none := by simpa [Addr.add] using World.cell?_spot hc0
    subst hspot
    obtain ⟨h1, h2, h3, h4⟩ := hf n hn
    simp only [sc_add, Nat.add_zero] at h1 h2
    have e : ((List.range len).map (fun j => (f j).1)).getD n default = (f n).1 := by simp [List.getD, hn]
    rw [enAt, eaAt, e]
    exact ⟨g, off, (f n).2.1, (f n).2.2, rfl, block_lt_of_cell h1, h1, h2, h3, h4, fun k => k.elim⟩
end Go.Proofs.YtmjchmamkjbgkaaGreatDoor
