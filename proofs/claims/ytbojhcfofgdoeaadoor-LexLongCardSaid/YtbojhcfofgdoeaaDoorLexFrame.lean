/- The wrap of a law whose row lists variables of which one holds a type; what the row's list gives; and that a world that meets the list exists. -/
import Derived.Test.YtbojhcfofgdoeaaDoorLexAllF
import Derived.Test.YtbojhcfofgdoeaaDoorLexLaid
import Derived.Test.YtbojhcfofgdoeaaDoorQuoteLaid
import Derived.HandedShaped
import Derived.Shelf.Vars
import Derived.Lay
import Derived.LaidHandle
namespace Go.Proofs.YtbojhcfofgdoeaaDoor
open Go.RowKit
set_option linter.unusedVariables false

section
variable {H : Type} {enc : TypeId × Value → H}
theorem cs_handed {a : Assume} {C : Checked} {os : Os} {f : FuncId} {fn : Func} {s : ChangeSpec} {conds : List PathCond} {apart fresh handsOn again : Bool} {X : World → Array Value → Prop}
    (hX : ∀ (w w' : World) (args : Array Value), w.heap = w'.heap → X w args → X w' args)
    (own : ownKnob C.prog.godebug = none) (started : os.Started) (noInit : C.prog.inits.idxOf? f = none) (hfn : C.prog.funcs[f]? = some fn)
    (witness : ∃ (w : World) (tape : Tape) (i : Input), w.os = os ∧ (w.forCall tape i).Shaped C.prog ∧ i.vars = [] ∧ Input.okWide C.prog (w.forCall tape i) .any w.heap.size f i ∧
      ((s.pre enc C.prog fn conds apart (w.forCall tape i).memory i.args ∧ X (w.forCall tape i).memory i.args) ∧ sizedMet enc C.prog fn (OpenSpec.ofChange s) apart (w.forCall tape i).memory i.args) ∧ a.holds C.prog (lone (Frame.enter C.prog f i.args .normal) [] (w.forCall tape i)))
    (contract : ∀ (W : World) (base : Nat) (args : Array Value) (ds gs : List (DataW H)) (before : List MemPlace),
      (∀ (j : Nat) t v, fn.params[j]? = some t → args[j]? = some v → Value.okWide C.prog W .any base t v) →
      DataW.Whole enc C.prog fn.params.toList s.vars apart W args.toList ds gs before → W.ShapedOpen C.prog → X W args →
      Calls C.prog f args W fun e W' => ∃ v, e = .returned v ∧ s.post enc C.prog fn apart fresh handsOn again W args v W') :
    ReturnsInHanded a C os f .any (fun w args => (s.pre enc C.prog fn conds apart w args ∧ X w args) ∧ sizedMet enc C.prog fn (OpenSpec.ofChange s) apart w args) (s.post enc C.prog fn apart fresh handsOn again) := by
  refine returnsInHanded_of_calls own started noInit witness ?_
  intro w tape i _ hsh _ hok hpre _
  obtain ⟨_, _, _, fn', hfn', _, _, _, _, hval⟩ := hok
  obtain rfl : fn' = fn := Option.some.inj (hfn'.symm.trans hfn)
  obtain ⟨⟨⟨ds, gs, before, hw, _⟩, hx⟩, _⟩ := hpre
  refine (contract (w.forCall tape i) w.heap.size i.args ds gs before hval (DataW.Whole.of_heap (w' := w.forCall tape i) (by rfl) hw) hsh (hX _ _ _ (by rfl) hx)).mono fun e W' ⟨v, he, hp⟩ => ?_
  subst he
  exact ChangeSpec.post_blind hp
end

theorem cs_et : Tryd.prog.globalNamed "errors.errorType" = some 0 := by kernel_rfl
theorem cs_rt : (Tryd.prog.cutTypes.find? (·.1 == "internal/reflectlite.rtype")).map (·.2) = some 95 := by kernel_rfl
theorem cs_oneRow : ((List.range Tryd.prog.types.size).filter fun t => Tryd.prog.rowNamed t [101, 114, 114, 111, 114]) = [41] := by kernel_rfl
theorem errT_of_handle {W : World} (h : handlesMet Tryd.prog [("errors.errorType", Rows.laid_errors_errorType)] W) : ErrT W := by
  obtain ⟨name, u, ty, e1, e2, e3, e4, e5⟩ := h _ (List.mem_singleton.2 rfl)
  have en : name = [101, 114, 114, 111, 114] := (Option.some.inj e1).symm
  subst en
  obtain rfl := Option.some.inj (cs_rt.symm.trans e2)
  have hm : ty ∈ (List.range Tryd.prog.types.size).filter fun t => Tryd.prog.rowNamed t [101, 114, 114, 111, 114] := List.mem_filter.2 ⟨List.mem_range.2 e3, e4⟩
  rw [cs_oneRow] at hm
  obtain rfl := List.mem_singleton.1 hm
  have hh : typeHandle Tryd.prog 41 = .pointer (some ⟨5, 41, none⟩) := by kernel_rfl
  rw [hh] at e5
  simpa [ErrT] using World.var?_cell cs_et e5 0
/-- The variable that holds a type, laid. -/
noncomputable def lxW0 (os : Os) : World :=
  let w0 := World.holding Tryd.prog os ⟨#[], #[], []⟩
  { w0 with heap := w0.heap.modify 0 fun
      | .cells _ t frozen => .cells #[.iface 95 (.agg #[.pointer (some ⟨5, 41, none⟩)])] t frozen
      | o => o }

/-- What the rows of this seat list. -/
abbrev lxLaid : List (String × DataW Unit) := [("errors.errorType", Rows.laid_errors_errorType), ("proctor/quote.escapes", Rows.laid_proctor_quote_escapes), ("proctor/schema.words", Rows.laid_proctor_schema_words), ("proctor/lex.signs", Rows.laid_proctor_lex_signs)]
abbrev lxPlain : List (String × DataW Unit) := [("proctor/quote.escapes", Rows.laid_proctor_quote_escapes), ("proctor/schema.words", Rows.laid_proctor_schema_words), ("proctor/lex.signs", Rows.laid_proctor_lex_signs)]
theorem all_of_lx {W : World} (h : laidMetH Tryd.prog lxLaid W) : LexT W ∧ ErrT W := by
  have h' : laidMet Tryd.prog lxPlain W ∧ handlesMet Tryd.prog [("errors.errorType", Rows.laid_errors_errorType)] W := h
  exact ⟨⟨esc_of_head h'.1, wds_of_head h'.1.tail, sgn_of_head h'.1.tail.tail⟩, errT_of_handle h'.2⟩
noncomputable def lxW (os : Os) : World := (lxW0 os).layVars Tryd.prog lxPlain
theorem lxW_os (os : Os) : (lxW os).os = os := World.layVars_os _ _ _
theorem lxW_plain (os : Os) : laidMet Tryd.prog lxPlain (lxW os) :=
  laidMet_layVars (w0 := lxW0 os) (lxPlain.map (·.1)) [] (by rfl) (by kernel_rfl) (by kernel_rfl) LaidIn.none
theorem lxW_met (os : Os) (args : Array Value) : laidMetH Tryd.prog lxLaid ((lxW os).forCall (fun _ _ => 0) ⟨#[], args, []⟩).memory :=
  laidMetH_of_parts ((lxW_plain os).of_heap (by simp [World.memory, World.forCall, Input.heap])) (by kernel_rfl)
theorem lxW_shaped (os : Os) : (lxW os).Shaped Tryd.prog := World.shaped_of_ZipB (by kernel_rfl) (by kernel_rfl)
end Go.Proofs.YtbojhcfofgdoeaaDoor
