/- The walk of the law BindingOf: with any slots and any variable it answers true. -/
import Derived.Test.YtjohiehlnbgdaaaBindingOfYes
import Derived.Test.YtjohiehlnbgdaaaBindingOfNo
namespace Go.Proofs.Ytjohiehlnbgdaaa.bindingOf
open Go.RowKit

theorem walk (a : Option Addr) (len cap : Nat) (L : List Sd) (v : Int) (w : World) (hs : SIn w a len L) (hcap : len ≤ cap) (hcm : cap ≤ 9223372036854775807) :
    Calls Try.prog 3 #[.slice a len cap, .int .i64 v] w fun e w' => e = .returned (.bool true) ∧ Below w.heap.size w w' := by
  by_cases h : FitL L
  · exact walkYes a len cap L v w hs hcap hcm h
  · exact walkNo a len cap L v w hs hcap hcm h
end Go.Proofs.Ytjohiehlnbgdaaa.bindingOf
