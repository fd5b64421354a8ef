/- Small facts on texts and their lists. -/
import Derived.Test.YtbojhcfofgdoeaaDoorQuoteBytes
namespace Go.Proofs.YtbojhcfofgdoeaaDoor
open Go.RowKit
theorem cat_list (a b : ByteArray) : (a ++ b).data.toList = a.data.toList ++ b.data.toList := by simp
theorem ba_of {a : ByteArray} {l : List UInt8} (h : a.data.toList = l) : a = ⟨l.toArray⟩ := by subst h; rfl
theorem ba_list (l : List UInt8) : (⟨l.toArray⟩ : ByteArray).data.toList = l := rfl
theorem ba_size (a : ByteArray) : a.size = a.data.toList.length := by rw [Array.length_toList]; rfl
theorem body_take (l : List UInt8) (k : Nat) (h : k < l.length) : body (l.take (k + 1)) = body (l.take k) ++ one l[k] := by
  rw [List.take_succ_eq_append_getElem h, body_snoc]

end Go.Proofs.YtbojhcfofgdoeaaDoor
