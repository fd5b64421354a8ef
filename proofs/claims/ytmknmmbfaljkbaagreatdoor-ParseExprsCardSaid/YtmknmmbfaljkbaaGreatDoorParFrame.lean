/- paclaim: ParFrame -/
import Derived.Test.YtmknmmbfaljkbaaGreatDoorLowLexA
import Derived.Test.YtmknmmbfaljkbaaGreatDoorLowNum
namespace Go.Proofs.YtmknmmbfaljkbaaGreatDoor
open Go.RowKit
set_option linter.unusedVariables false
theorem pa_star : "*" ++ "errors.errorString" = "*errors.errorString" := by decide
theorem pa_rowErr (u : TypeId) (h : Tryz.prog.typeName? 3 u = some "*errors.errorString") : u = 208 :=
 typeName_ptr_named (nm := "errors.errorString") (by rw [pa_star]; kernel_rfl) (by kernel_rfl) (by decide) u (by rw [pa_star]; exact h)
theorem pa_cellsErr:Tryz.prog.cellsOf 210=1:=by kernel_rfl
theorem pa_cellsStr:Tryz.prog.cellsOf 9=1:=by kernel_rfl
abbrev paLaid : List (String × DataW Unit) := [("math/bits.deBruijn32tab", Rows.laid_math_bits_deBruijn32tab), ("math/bits.deBruijn64tab", Rows.laid_math_bits_deBruijn64tab), ("internal/strconv.uint64pow10", Rows.laid_internal_strconv_uint64pow10), ("errors.errorType", Rows.laid_errors_errorType), ("strconv.ErrRange", Rows.laid_strconv_ErrRange), ("strconv.ErrSyntax", Rows.laid_strconv_ErrSyntax), ("proctor/quote.escapes", Rows.laid_proctor_quote_escapes), ("proctor/schema.words", Rows.laid_proctor_schema_words), ("proctor/lex.signs", Rows.laid_proctor_lex_signs)]
abbrev paPlain : List (String × DataW Unit) := [("math/bits.deBruijn32tab", Rows.laid_math_bits_deBruijn32tab), ("math/bits.deBruijn64tab", Rows.laid_math_bits_deBruijn64tab), ("internal/strconv.uint64pow10", Rows.laid_internal_strconv_uint64pow10), ("strconv.ErrRange", Rows.laid_strconv_ErrRange), ("strconv.ErrSyntax", Rows.laid_strconv_ErrSyntax), ("proctor/quote.escapes", Rows.laid_proctor_quote_escapes), ("proctor/schema.words", Rows.laid_proctor_schema_words), ("proctor/lex.signs", Rows.laid_proctor_lex_signs)]
theorem all_of_pa {W:World} (h:laidMetH Tryz.prog paLaid W):LexT W ∧ ErrT W ∧ ∃ a,ErrR W a:=by
 have h' : laidMet Tryz.prog paPlain W ∧ handlesMet Tryz.prog [("errors.errorType", Rows.laid_errors_errorType)] W := h
 refine ⟨⟨esc_of_head h'.1.tail.tail.tail.tail.tail,wds_of_head h'.1.tail.tail.tail.tail.tail.tail,sgn_of_head h'.1.tail.tail.tail.tail.tail.tail.tail⟩,errT_of_handle h'.2,?_⟩
 obtain ⟨a,s,hv,_⟩:=laid_sentinel h'.1.tail.tail.tail gErr gErrType Tryz.underlying62 pa_rowErr Tryz.underlying208 Tryz.underlying210 rfl rfl Tryz.underlying9 pa_cellsErr pa_cellsStr
 exact ⟨a,hv⟩
noncomputable def paW (os:Os):World:=(lxW0 os).layVars Tryz.prog paPlain
theorem paW_os (os:Os):(paW os).os=os:=World.layVars_os _ _ _
theorem paW_plain (os:Os):laidMet Tryz.prog paPlain (paW os) :=
 laidMet_layVars (w0:=lxW0 os) (paPlain.map (·.1)) [] (by rfl) (by kernel_rfl) (by kernel_rfl) LaidIn.none
theorem paW_met (os:Os) (args:Array Value):laidMetH Tryz.prog paLaid ((paW os).forCall (fun _ _=>0) ⟨#[],args,[]⟩).memory :=
 laidMetH_of_parts ((paW_plain os).of_heap (by simp [World.memory,World.forCall,Input.heap])) (by kernel_rfl)
theorem paW_shaped (os:Os):(paW os).Shaped Tryz.prog:=World.shaped_of_ZipB (by kernel_rfl) (by kernel_rfl)
end Go.Proofs.YtmknmmbfaljkbaaGreatDoor
