/- paclaim: ParRefExpr -/
import Derived.Test.YtmknmmbfaljkbaaGreatDoorLowR6
import Derived.Test.YtmknmmbfaljkbaaGreatDoorParRefTimes
import Derived.Test.YtmknmmbfaljkbaaGreatDoorParRefPlus
import Derived.Test.YtmknmmbfaljkbaaGreatDoorParRefCmp
import Derived.Test.YtmknmmbfaljkbaaGreatDoorParRefAnd
import Derived.Test.YtmknmmbfaljkbaaGreatDoorParRefOr
import Derived.Test.YtmknmmbfaljkbaaGreatDoorLowPa3
namespace Go.Proofs.YtmknmmbfaljkbaaGreatDoor
open Go.RowKit
theorem refExpr_calls (ta:Option Addr) (tc:Nat) (M:List Tk) (w0:World) (h:TkIn w0 37 ta M.length M) (hM:MOk M) (hM6:M.length ≤ 65536) :
  ∀ k,RefC 110 11 k ta tc M w0 ∧ RefC 99 10 k ta tc M w0 ∧ RefC 81 8 k ta tc M w0 ∧ RefC 65 6 k ta tc M w0 ∧ RefC 49 5 k ta tc M w0 ∧ RefC 32 4 k ta tc M w0 ∧ RefC 15 2 k ta tc M w0 ∧ RefC 8 0 k ta tc M w0
 | 0=>by
  have key:∀ f lv,RefC f lv 0 ta tc M w0:=fun f lv p o v w _ hk _=>by
   have h1:=hk.fu
   have h2:=rank_pos lv
   unfold needP at h1
   omega
  exact ⟨key _ _,key _ _,key _ _,key _ _,key _ _,key _ _,key _ _,key _ _⟩
 | k + 1=>by
  obtain ⟨h1,h2,h3,h4,h5,h6,h7,h8⟩:=refExpr_calls ta tc M w0 h hM hM6 k
  exact ⟨refPrimary_calls ta tc k M w0 h hM hM6 h8,refUnary_calls ta tc k M w0 h hM hM6 h1 h2,refTimes_calls ta tc k M w0 h hM hM6 h2,refPlus_calls ta tc k M w0 h hM hM6 h3,refCompare_calls ta tc k M w0 h hM hM6 h4,refNot_calls ta tc k M w0 h hM hM6 h5 h6,refAnd_calls ta tc k M w0 h hM hM6 h6,refOr_calls ta tc k M w0 h hM hM6 h7⟩
theorem refX_calls (ta:Option Addr) (tc:Nat) (M:List Tk) (w:World) (h:TkIn w 37 ta M.length M) (hM:MOk M) (hM6:M.length ≤ 65536) :
  Calls Tryz.prog 8 #[.slice ta M.length tc,plV pl0,.slice none 0 0] w (NdPost (xP M) w) :=
 (refExpr_calls ta tc M w h hM hM6 (needP M 0 pl0)).2.2.2.2.2.2.2 pl0 [] (.slice none 0 0) w (Below.refl _ _) ⟨Nat.zero_le _,by show 0 + (M.length - 0) ≤ 800000; omega,fun _ n x _ hx=>by simp at hx,fun _=>Int.le_refl _,by show (-1:Int) ≤ 0; omega,by show (0:Int) ≤ 128; omega,Nat.le_refl _⟩ NsAt.nil
end Go.Proofs.YtmknmmbfaljkbaaGreatDoor
