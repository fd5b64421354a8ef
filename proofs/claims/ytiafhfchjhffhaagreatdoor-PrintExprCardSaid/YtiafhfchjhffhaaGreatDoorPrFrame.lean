/- paclaim: PrFrame -/
import Derived.Test.YtiafhfchjhffhaaGreatDoorLowLexA
import Derived.Test.YtiafhfchjhffhaaGreatDoorLowVal2
import Derived.Test.YtiafhfchjhffhaaGreatDoorLowNum
import Derived.Test.YtiafhfchjhffhaaGreatDoorPrLaid
namespace Go.Proofs.YtiafhfchjhffhaaGreatDoor
open Go.RowKit
set_option linter.unusedVariables false
theorem pr_star : "*" ++ "errors.errorString" = "*errors.errorString" := by decide
theorem pr_rowErr (u : TypeId) (h : Tryz.prog.typeName? 3 u = some "*errors.errorString") : u = 350 :=
 typeName_ptr_named (nm := "errors.errorString") (by rw [pr_star]; kernel_rfl) (by kernel_rfl) (by decide) u (by rw [pr_star]; exact h)
theorem pr_cellsErr:Tryz.prog.cellsOf 352=1:=by kernel_rfl
theorem pr_cellsStr:Tryz.prog.cellsOf 9=1:=by kernel_rfl
abbrev prLaid : List (String × DataW Unit) := [("math/bits.deBruijn32tab", Rows.laid_math_bits_deBruijn32tab), ("math/bits.deBruijn64tab", Rows.laid_math_bits_deBruijn64tab), ("internal/strconv.uint64pow10", Rows.laid_internal_strconv_uint64pow10), ("errors.errorType", Rows.laid_errors_errorType), ("strconv.ErrRange", Rows.laid_strconv_ErrRange), ("strconv.ErrSyntax", Rows.laid_strconv_ErrSyntax), ("proctor/quote.escapes", Rows.laid_proctor_quote_escapes), ("proctor/schema.words", Rows.laid_proctor_schema_words), ("proctor/lex.signs", Rows.laid_proctor_lex_signs), ("proctor/print.tokens", Rows.laid_proctor_print_tokens)]
abbrev prPlain : List (String × DataW Unit) := [("math/bits.deBruijn32tab", Rows.laid_math_bits_deBruijn32tab), ("math/bits.deBruijn64tab", Rows.laid_math_bits_deBruijn64tab), ("internal/strconv.uint64pow10", Rows.laid_internal_strconv_uint64pow10), ("strconv.ErrRange", Rows.laid_strconv_ErrRange), ("strconv.ErrSyntax", Rows.laid_strconv_ErrSyntax), ("proctor/quote.escapes", Rows.laid_proctor_quote_escapes), ("proctor/schema.words", Rows.laid_proctor_schema_words), ("proctor/lex.signs", Rows.laid_proctor_lex_signs), ("proctor/print.tokens", Rows.laid_proctor_print_tokens)]
theorem all_of_pr {W:World} (h:laidMetH Tryz.prog prLaid W):LexT W ∧ ErrT W ∧ Laid W ∧ Toks W:=by
 have h' : laidMet Tryz.prog prPlain W ∧ handlesMet Tryz.prog [("errors.errorType", Rows.laid_errors_errorType)] W := h
 have hE:=esc_of_head h'.1.tail.tail.tail.tail.tail
 refine ⟨⟨esc_of_head h'.1.tail.tail.tail.tail.tail,wds_of_head h'.1.tail.tail.tail.tail.tail.tail,sgn_of_head h'.1.tail.tail.tail.tail.tail.tail.tail⟩,errT_of_handle h'.2,⟨⟨Lib.tabIs_of_head gPow gPowType Tryz.underlying319 Tryz.underlying297 cellsU64 cellsPow h'.1.tail.tail,?_⟩,hE⟩,toks_of_head h'.1.tail.tail.tail.tail.tail.tail.tail.tail⟩
 obtain ⟨a,s,hv,_⟩:=laid_sentinel h'.1.tail.tail.tail gErr gErrType Tryz.underlying75 pr_rowErr Tryz.underlying350 Tryz.underlying352 rfl rfl Tryz.underlying9 pr_cellsErr pr_cellsStr
 exact ⟨a,hv⟩
noncomputable def prW (os:Os):World:=(lxW0 os).layVars Tryz.prog prPlain
theorem prW_os (os:Os):(prW os).os=os:=World.layVars_os _ _ _
theorem prW_plain (os:Os):laidMet Tryz.prog prPlain (prW os) :=
 laidMet_layVars (w0:=lxW0 os) (prPlain.map (·.1)) [] (by rfl) (by kernel_rfl) (by kernel_rfl) LaidIn.none
theorem prW_met (os:Os) (args:Array Value):laidMetH Tryz.prog prLaid ((prW os).forCall (fun _ _=>0) ⟨#[],args,[]⟩).memory :=
 laidMetH_of_parts ((prW_plain os).of_heap (by simp [World.memory,World.forCall,Input.heap])) (by kernel_rfl)
theorem prW_shaped (os:Os):(prW os).Shaped Tryz.prog:=World.shaped_of_ZipB (by kernel_rfl) (by kernel_rfl)
end Go.Proofs.YtiafhfchjhffhaaGreatDoor
