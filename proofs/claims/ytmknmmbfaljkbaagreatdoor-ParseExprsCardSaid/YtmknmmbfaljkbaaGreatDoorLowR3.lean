/- paclaim: ParRefA ParRefDeep ParRefNode ParRefSign ParRefTurn -/
import Derived.Test.YtmknmmbfaljkbaaGreatDoorLowPa4
import Derived.Test.YtmknmmbfaljkbaaGreatDoorLowPa6
import Derived.Deep.Cut
import Derived.Test.YtmknmmbfaljkbaaGreatDoorLowPa2
import Derived.Deep.CutRange
import Derived.OwnWalk
namespace Go.Proofs.YtmknmmbfaljkbaaGreatDoor
open Go.RowKit
set_option linter.unusedVariables false
def plV (p:Pl):Value:=.agg #[.int .i64 (p.a:Nat),.int .i64 (p.er:Nat),.int .i64 (p.line:Nat),.int .i64 (p.col:Nat),.int .i64 p.op]
def plAr (p:Pl):Array Value:=#[.int .i64 (p.a:Nat),.int .i64 (p.er:Nat),.int .i64 (p.line:Nat),.int .i64 (p.col:Nat),.int .i64 p.op]
theorem pl_box {W:World} {b:Nat} {p:Pl} (h:Ho W b (plAr p) 33):W.cell? ⟨b,0,none⟩=some (.int .i64 (p.a:Nat)) ∧ W.cell? ⟨b,1,none⟩=some (.int .i64 (p.er:Nat)) ∧ W.cell? ⟨b,2,none⟩=some (.int .i64 (p.line:Nat)) ∧ W.cell? ⟨b,3,none⟩=some (.int .i64 (p.col:Nat)) ∧ W.cell? ⟨b,4,none⟩=some (.int .i64 p.op) :=
 ⟨by rw [cell_of_row _ _ 0 _ _ _ h]; rfl,by rw [cell_of_row _ _ 1 _ _ _ h]; rfl,by rw [cell_of_row _ _ 2 _ _ _ h]; rfl,by rw [cell_of_row _ _ 3 _ _ _ h]; rfl,by rw [cell_of_row _ _ 4 _ _ _ h]; rfl⟩
theorem pl5 {W:World} {b:Nat} {u v x y z:Value} {T:TypeId} (h:Ho W b #[u,v,x,y,z] T):W.cell? ⟨b,0,none⟩=some u ∧ W.cell? ⟨b,1,none⟩=some v ∧ W.cell? ⟨b,2,none⟩=some x ∧ W.cell? ⟨b,3,none⟩=some y ∧ W.cell? ⟨b,4,none⟩=some z :=
 ⟨by rw [cell_of_row _ _ 0 _ _ _ h]; rfl,by rw [cell_of_row _ _ 1 _ _ _ h]; rfl,by rw [cell_of_row _ _ 2 _ _ _ h]; rfl,by rw [cell_of_row _ _ 3 _ _ _ h]; rfl,by rw [cell_of_row _ _ 4 _ _ _ h]; rfl⟩
theorem pl5f {W:World} {b:Nat} {cs:Array Value} {T:TypeId} (h:Ho W b cs T):W.frozen? ⟨b,0,none⟩=false ∧ W.frozen? ⟨b,1,none⟩=false ∧ W.frozen? ⟨b,2,none⟩=false ∧ W.frozen? ⟨b,3,none⟩=false ∧ W.frozen? ⟨b,4,none⟩=false :=
 ⟨frozen_of_row _ _ 0 _ _ h,frozen_of_row _ _ 1 _ _ h,frozen_of_row _ _ 2 _ _ h,frozen_of_row _ _ 3 _ _ h,frozen_of_row _ _ 4 _ _ h⟩
theorem rtk_cells {w:World} {tl n:Nat} {ta:Option Addr} {M:List Tk} (h:TkIn w 37 ta tl M) (hn:n < M.length):∃ b off,ta=some ⟨b,off,none⟩ ∧ b < w.heap.size ∧ w.cell? ⟨b,off + n * 4,none⟩=some (.int .i64 ((tkAt M n).k:Nat)) ∧ w.cell? ⟨b,off + n * 4 + 1,none⟩=some (.string ⟨(tkAt M n).t.toArray⟩) ∧ w.cell? ⟨b,off + n * 4 + 2,none⟩=some (.int .i64 ((tkAt M n).line:Nat)) ∧ w.cell? ⟨b,off + n * 4 + 3,none⟩=some (.int .i64 ((tkAt M n).col:Nat)):=by
 obtain ⟨b,off,e,c,h1,h2,h3,h4⟩:=h.at' n _ (tk_at hn)
 exact ⟨b,off,e,c.lt,h1,h2,h3,h4⟩
set_option maxHeartbeats 1000000 in
theorem refSkip_calls (p:Pl) (w:World) (ha:p.a ≤ 1000000):Calls Tryz.prog 17 #[plV p] w fun e w'=>e=.returned (plV (skipP p)) ∧ Below w.heap.size w w':=by
 unfold plV skipP
 go_enter Tryz.func17,Tryz.ntmps17
 go_wp2_with fail
 refine bodyPost_ret (v:=.agg #[.int .i64 ((p.a:Int) + 1),.int .i64 (p.er:Nat),.int .i64 (p.line:Nat),.int .i64 (p.col:Nat),.int .i64 p.op]) ?_ rfl ⟨rfl,?_⟩
 ·refine cs_result1 rfl _ _ _ (a:=⟨w.heap.size + 1,0,none⟩) (by rfl) ?_
  go_simp
 ·repeat' (first | (with_reducible exact Below.refl _ _) | with_reducible refine Below.setCell ?_ (by simp) _ | with_reducible refine Below.alloc ?_ (by simp <;> omega) _)
set_option maxHeartbeats 1000000 in
theorem refShut_calls (p:Pl) (w:World) (ha:-1000000 ≤ p.op ∧ p.op ≤ 1000000):Calls Tryz.prog 51 #[plV p] w fun e w'=>e=.returned (plV (shutP p)) ∧ Below w.heap.size w w':=by
 unfold plV shutP
 have b1:-9223372036854775808 ≤ p.op - 1:=by omega
 have b2:p.op - 1 ≤ 9223372036854775807:=by omega
 go_enter Tryz.func51,Tryz.ntmps51
 go_wp2_with fail
 refine bodyPost_ret (v:=.agg #[.int .i64 (p.a:Nat),.int .i64 (p.er:Nat),.int .i64 (p.line:Nat),.int .i64 (p.col:Nat),.int .i64 (p.op - 1)]) ?_ rfl ⟨rfl,?_⟩
 ·refine cs_result1 rfl _ _ _ (a:=⟨w.heap.size + 1,0,none⟩) (by rfl) ?_
  go_simp
 ·repeat' (first | (with_reducible exact Below.refl _ _) | with_reducible refine Below.setCell ?_ (by simp) _ | with_reducible refine Below.alloc ?_ (by simp <;> omega) _)
set_option maxHeartbeats 4000000 in
theorem refStop_calls (ta:Option Addr) (tc e0:Nat) (M:List Tk) (p:Pl) (w:World) (h:TkIn w 37 ta M.length M) (hM:M.length ≤ 1000000) (hp:p.a ≤ M.length) :
  Calls Tryz.prog 68 #[.slice ta M.length tc,plV p,.int .i64 (e0:Nat)] w fun e w'=>e=.returned (plV (stopP M p e0)) ∧ Below w.heap.size w w':=by
 by_cases he:p.er=0
 case neg =>
  have t1:((p.er:Int) != 0)=true:=by rw [bne_iff_ne]; omega
  have HV:Hid (stopP M p e0=p):=Lib.hid (stop_err he)
  clear he h
  rw [HV.out]
  unfold plV
  go_enter Tryz.func68,Tryz.ntmps68
  go_wp2_with fail
  refine bodyPost_ret (v:=plV p) ?_ rfl ⟨rfl,?_⟩
  ·refine cs_result1 rfl _ _ _ (a:=⟨w.heap.size + 1,0,none⟩) (by rfl) ?_
   unfold plV
   go_simp
  ·repeat' (first | (with_reducible exact Below.refl _ _) | with_reducible refine Below.setCell ?_ (by simp) _ | with_reducible refine Below.alloc ?_ (by simp <;> omega) _)
 case pos =>
  have t1:((p.er:Int) != 0)=false:=by rw [he]; rfl
  by_cases hl:M.length=0
  case pos =>
   have HV:Hid (stopP M p e0=⟨p.a,e0,1,1,p.op⟩):=Lib.hid (by unfold stopP; rw [if_pos he,List.getElem?_eq_none (by omega)])
   have hpa:p.a=0:=by omega
   rw [HV.out]
   rw [hl]
   clear he hl h hp
   unfold plV
   rw [hpa]
   go_enter Tryz.func68,Tryz.ntmps68
   go_wp2_with fail
   refine bodyPost_ret (v:=.agg #[.int .i64 0,.int .i64 (e0:Nat),.int .i64 1,.int .i64 1,.int .i64 p.op]) ?_ rfl ⟨rfl,?_⟩
   ·refine cs_result1 rfl _ _ _ (a:=⟨w.heap.size + 1,0,none⟩) (by rfl) ?_
    go_simp
   ·repeat' (first | (with_reducible exact Below.refl _ _) | with_reducible refine Below.setCell ?_ (by simp) _ | with_reducible refine Below.alloc ?_ (by simp <;> omega) _)
  case neg =>
   obtain ⟨last,hlast⟩:∃ last,M.length=last + 1:=⟨M.length - 1,by omega⟩
   obtain ⟨m,hm0⟩:∃ m,m=min p.a last:=⟨_,rfl⟩
   have hml:m < M.length:=by omega
   have HV:Hid (stopP M p e0=⟨p.a,e0,(tkAt M m).line,(tkAt M m).col,p.op⟩):=Lib.hid (by
    unfold stopP
    rw [if_pos he,show min p.a (M.length - 1)=m by omega,tk_at hml])
   obtain ⟨b,off,rfl,hb,d0,d1,d2,d3⟩:=rtk_cells h hml
   obtain ⟨x,hx⟩:∃ x,x=tkAt M m:=⟨_,rfl⟩
   rw [← hx] at d0 d1 d2 d3 HV
   rw [HV.out]
   have t0:(M.length:Int) - 1=(last:Int):=by omega
   have b1:last ≤ 1000000:=by omega
   have b2:p.a ≤ 1000000:=by omega
   have hwb:b < ((w.alloc (.cells (plAr p) 33)).alloc (.cells (plAr p) 33)).heap.size:=by simp; omega
   have hbn:¬ b=w.heap.size:=by omega
   have hbn2:¬ w.heap.size=b:=by omega
   unfold plV
   generalize M.length=tl at t0 hml hM hp hl hlast h ⊢
   by_cases hc:last < p.a
   case pos =>
    obtain rfl:m=last:=by omega
    have t1':m < tl:=by omega
    have hmin:min (p.a:Int) (m:Int)=(m:Int):=by omega
    clear he hl h hp hlast hm0 hx hml
    go_enter Tryz.func68,Tryz.ntmps68
    go_wp2_with fail
    refine bodyPost_ret (v:=.agg #[.int .i64 (p.a:Nat),.int .i64 (e0:Nat),.int .i64 (x.line:Nat),.int .i64 (x.col:Nat),.int .i64 p.op]) ?_ rfl ⟨rfl,?_⟩
    ·refine cs_result1 rfl _ _ _ (a:=⟨w.heap.size + 1,0,none⟩) (by rfl) ?_
     go_simp
    ·repeat' (first | (with_reducible exact Below.refl _ _) | with_reducible refine Below.setCell ?_ (by simp) _ | with_reducible refine Below.alloc ?_ (by simp <;> omega) _)
   case neg =>
    obtain rfl:m=p.a:=by omega
    have t1':p.a < tl:=by omega
    have hmin:min (p.a:Int) (last:Int)=(p.a:Int):=by omega
    clear he hl h hp hlast hm0 hx hml
    go_enter Tryz.func68,Tryz.ntmps68
    go_wp2_with fail
    refine bodyPost_ret (v:=.agg #[.int .i64 (p.a:Nat),.int .i64 (e0:Nat),.int .i64 (x.line:Nat),.int .i64 (x.col:Nat),.int .i64 p.op]) ?_ rfl ⟨rfl,?_⟩
    ·refine cs_result1 rfl _ _ _ (a:=⟨w.heap.size + 1,0,none⟩) (by rfl) ?_
     go_simp
    ·repeat' (first | (with_reducible exact Below.refl _ _) | with_reducible refine Below.setCell ?_ (by simp) _ | with_reducible refine Below.alloc ?_ (by simp <;> omega) _)
set_option maxHeartbeats 4000000 in
theorem refIs_calls (ta:Option Addr) (tc:Nat) (M:List Tk) (p:Pl) (s:ByteArray) (w:World) (h:TkIn w 37 ta M.length M) (hM:M.length ≤ 1000000) (hp:p.a ≤ M.length) :
  Calls Tryz.prog 16 #[.slice ta M.length tc,plV p,.string s] w fun e w'=>e=.returned (.bool (isP M p s.data.toList)) ∧ Below w.heap.size w w':=by
 have HB:Hid (Below w.heap.size w (w.alloc (.cells #[.int .i64 (p.a:Nat),.int .i64 (p.er:Nat),.int .i64 (p.line:Nat),.int .i64 (p.col:Nat),.int .i64 p.op] 33))):=Lib.hid ((Below.refl _ _).alloc (Nat.le_refl _) _)
 unfold plV
 by_cases he:p.er=0
 case neg =>
  have t1:((p.er:Int) == 0)=false:=by rw [beq_eq_false_iff_ne]; omega
  have HV:Hid (isP M p s.data.toList=false):=Lib.hid (isP_err he)
  clear he h
  go_enter Tryz.func16,Tryz.ntmps16
  go_wp2_with fail
  go_ret
  exact ⟨by rw [HV.out]; rfl,HB.out⟩
 case pos =>
  have t1:((p.er:Int) == 0)=true:=by rw [he]; rfl
  by_cases hl:p.a < M.length
  case neg =>
   have HV:Hid (isP M p s.data.toList=false):=Lib.hid (by
    cases e:isP M p s.data.toList with
    | false=>rfl
    | true=>exact absurd (isP_some e).2 hl)
   have t2:decide (p.a < M.length)=false:=decide_eq_false hl
   clear he h hl
   go_enter Tryz.func16,Tryz.ntmps16
   go_wp2_with fail
   go_ret
   exact ⟨by rw [HV.out]; rfl,HB.out⟩
  case pos =>
   obtain ⟨b,off,rfl,hb,d0,d1,d2,d3⟩:=rtk_cells h hl
   have HI:Hid (isP M p s.data.toList=(((tkAt M p.a).k == 2 || (tkAt M p.a).k == 5) && (tkAt M p.a).t == s.data.toList)):=Lib.hid (by rw [isP_peek]; unfold peekC; rw [if_pos he])
   obtain ⟨x,hx⟩:∃ x,x=tkAt M p.a:=⟨_,rfl⟩
   rw [← hx] at d0 d1 HI
   have t2:decide (p.a < M.length)=true:=decide_eq_true hl
   have t3:p.a < M.length:=hl
   clear he h hx d2 d3
   generalize M.length=tl at hl hp hM t2 t3 ⊢
   generalize hr:isP M p s.data.toList=r at HI ⊢
   clear hr
   by_cases k2:x.k=2
   case pos =>
    have t4:((x.k:Int) == 2)=true:=by rw [k2]; rfl
    have t5:(x.t == s.toList)=r:=by rw [HI.out,sc_tl,k2]; rfl
    clear k2 hl
    go_enter Tryz.func16,Tryz.ntmps16
    go_wp2_with fail
    go_ret
    exact ⟨by first | rfl | (rw [t5]; rfl),HB.out⟩
   case neg =>
    have t4:((x.k:Int) == 2)=false:=by rw [beq_eq_false_iff_ne]; omega
    by_cases k5:x.k=5
    case pos =>
     have t6:((x.k:Int) == 5)=true:=by rw [k5]; rfl
     have t5:(x.t == s.toList)=r:=by rw [HI.out,sc_tl,k5]; rfl
     clear k2 k5 hl
     go_enter Tryz.func16,Tryz.ntmps16
     go_wp2_with fail
     go_ret
     exact ⟨by first | rfl | (rw [t5]; rfl),HB.out⟩
    case neg =>
     have t6:((x.k:Int) == 5)=false:=by rw [beq_eq_false_iff_ne]; omega
     have HV:Hid (r=false):=Lib.hid (by rw [HI.out,beq_eq_false_iff_ne.2 k2,beq_eq_false_iff_ne.2 k5]; rfl)
     clear k2 k5 hl
     go_enter Tryz.func16,Tryz.ntmps16
     go_wp2_with fail
     go_ret
     exact ⟨by rw [HV.out]; rfl,HB.out⟩
structure Pk (M:List Tk) (p:Pl):Prop where
 at':p.a ≤ M.length
 lo:-1000 ≤ p.op
 hi:p.op ≤ 1000
set_option maxHeartbeats 2000000 in
theorem refWant_calls (ta:Option Addr) (tc:Nat) (M:List Tk) (p:Pl) (s:ByteArray) (w:World) (h:TkIn w 37 ta M.length M) (hM:M.length ≤ 1000000) (hp:p.a ≤ M.length) :
  Calls Tryz.prog 127 #[.slice ta M.length tc,plV p,.string s] w fun e w'=>e=.returned (plV (wantP M p s.data.toList)) ∧ Below w.heap.size w w':=by
 have HB:Hid (Below w.heap.size w ((w.alloc (.cells #[.int .i64 (p.a:Nat),.int .i64 (p.er:Nat),.int .i64 (p.line:Nat),.int .i64 (p.col:Nat),.int .i64 p.op] 33)).alloc (.cells #[.int .i64 0,.int .i64 0,.int .i64 0,.int .i64 0,.int .i64 0] 33))):=Lib.hid (((Below.refl _ _).alloc (Nat.le_refl _) _).alloc (by simp) _)
 have HX0:Hid (Ho ((w.alloc (.cells #[.int .i64 (p.a:Nat),.int .i64 (p.er:Nat),.int .i64 (p.line:Nat),.int .i64 (p.col:Nat),.int .i64 p.op] 33)).alloc (.cells #[.int .i64 0,.int .i64 0,.int .i64 0,.int .i64 0,.int .i64 0] 33)) w.heap.size (plAr p) 33):=Lib.hid ((Ho.new _ _ _ rfl).alloc _)
 have HR0:Hid (Ho ((w.alloc (.cells #[.int .i64 (p.a:Nat),.int .i64 (p.er:Nat),.int .i64 (p.line:Nat),.int .i64 (p.col:Nat),.int .i64 p.op] 33)).alloc (.cells #[.int .i64 0,.int .i64 0,.int .i64 0,.int .i64 0,.int .i64 0] 33)) (w.heap.size + 1) #[.int .i64 0,.int .i64 0,.int .i64 0,.int .i64 0,.int .i64 0] 33):=Lib.hid (Ho.new _ _ _ (by simp))
 have HI:=Lib.hid (refIs_calls ta tc M p s _ (h.below HB.out) hM hp)
 have HST:=Lib.hid (fun w1 (h1:Below w.heap.size w w1)=>refStop_calls ta tc 16 M p w1 (h.below h1) hM hp)
 have HSK:=Lib.hid (fun w1=>refSkip_calls p w1 (by omega))
 have HW:Hid (wantP M p s.data.toList=if isP M p s.data.toList=true then skipP p else stopP M p 16):=Lib.hid rfl
 clear h
 cases hb:isP M p s.data.toList
 ·rw [hb] at HI HW
  obtain ⟨r,hr⟩:∃ r,r=stopP M p 16:=⟨_,rfl⟩
  rw [← hr] at HST
  have HV:Hid (wantP M p s.data.toList=r):=Lib.hid (by rw [HW.out,if_neg (by decide),hr])
  rw [HV.out]
  have HST:Hid (∀ w1,Below w.heap.size w w1 → Calls Tryz.prog 68 #[.slice ta M.length tc,plV p,.int .i64 16] w1 fun e w'=>e=.returned (plV r) ∧ Below w1.heap.size w1 w'):=HST
  clear hb HW hr
  unfold plV at HI HST ⊢
  go_enter Tryz.func127,Tryz.ntmps127
  go_wp2_with fail
  refine HI.out.mono ?_
  rintro e w1 ⟨rfl,k1⟩
  have HX1:=Lib.hid (HX0.out.below k1)
  have HR1:=Lib.hid (HR0.out.below k1)
  have HB1:=Lib.hid (HB.out.trans (k1.mono HB.out.size))
  obtain ⟨x0,x1,x2,x3,x4⟩:=pl_box HX1.out
  have hx1:=HX1.out.lt
  clear k1
  go_wp2_with fail
  refine (HST.out _ HB1.out).mono ?_
  rintro e w2 ⟨rfl,k1⟩
  have HR2:=Lib.hid (HR1.out.below k1)
  have HB2:=Lib.hid (HB1.out.trans (k1.mono HB1.out.size))
  obtain ⟨y0,y1,y2,y3,y4⟩:=pl5 HR2.out
  obtain ⟨f0,f1,f2,f3,f4⟩:=pl5f HR2.out
  have hx2:=HR2.out.lt
  clear k1 x0 x1 x2 x3 x4
  go_wp2_with fail
  refine bodyPost_ret (v:=plV r) ?_ rfl ⟨rfl,?_⟩
  ·refine cs_result1 rfl _ _ _ (a:=⟨w.heap.size + 1,0,none⟩) (by rfl) ?_
   unfold plV
   go_simp
  ·repeat' (first | (with_reducible exact HB2.out) | with_reducible refine Below.setCell ?_ (by simp) _)
 ·rw [hb] at HI HW
  obtain ⟨r,hr⟩:∃ r,r=skipP p:=⟨_,rfl⟩
  rw [← hr] at HSK
  have HV:Hid (wantP M p s.data.toList=r):=Lib.hid (by rw [HW.out,if_pos rfl,hr])
  rw [HV.out]
  clear hb HW hr
  unfold plV at HI HSK ⊢
  go_enter Tryz.func127,Tryz.ntmps127
  go_wp2_with fail
  refine HI.out.mono ?_
  rintro e w1 ⟨rfl,k1⟩
  have HX1:=Lib.hid (HX0.out.below k1)
  have HR1:=Lib.hid (HR0.out.below k1)
  have HB1:=Lib.hid (HB.out.trans (k1.mono HB.out.size))
  obtain ⟨x0,x1,x2,x3,x4⟩:=pl_box HX1.out
  have hx1:=HX1.out.lt
  clear k1
  go_wp2_with fail
  refine (HSK.out _).mono ?_
  rintro e w2 ⟨rfl,k1⟩
  have HR2:=Lib.hid (HR1.out.below k1)
  have HB2:=Lib.hid (HB1.out.trans (k1.mono HB1.out.size))
  obtain ⟨y0,y1,y2,y3,y4⟩:=pl5 HR2.out
  obtain ⟨f0,f1,f2,f3,f4⟩:=pl5f HR2.out
  have hx2:=HR2.out.lt
  clear k1 x0 x1 x2 x3 x4
  go_wp2_with fail
  refine bodyPost_ret (v:=plV r) ?_ rfl ⟨rfl,?_⟩
  ·refine cs_result1 rfl _ _ _ (a:=⟨w.heap.size + 1,0,none⟩) (by rfl) ?_
   unfold plV
   go_simp
  ·repeat' (first | (with_reducible exact HB2.out) | with_reducible refine Below.setCell ?_ (by simp) _)
set_option maxHeartbeats 2000000 in
theorem refOpen_calls (ta:Option Addr) (tc:Nat) (M:List Tk) (p:Pl) (w:World) (h:TkIn w 37 ta M.length M) (hM:M.length ≤ 1000000) (hp:Pk M p) :
  Calls Tryz.prog 50 #[.slice ta M.length tc,plV p] w fun e w'=>e=.returned (plV (openP M p)) ∧ Below w.heap.size w w':=by
 have hat:=hp.at'
 have hlo:=hp.lo
 have hhi:=hp.hi
 have HB:Hid (Below w.heap.size w ((w.alloc (.cells #[.int .i64 (p.a:Nat),.int .i64 (p.er:Nat),.int .i64 (p.line:Nat),.int .i64 (p.col:Nat),.int .i64 p.op] 33)).alloc (.cells #[.int .i64 0,.int .i64 0,.int .i64 0,.int .i64 0,.int .i64 0] 33))):=Lib.hid (((Below.refl _ _).alloc (Nat.le_refl _) _).alloc (by simp) _)
 have HX0:Hid (Ho ((w.alloc (.cells #[.int .i64 (p.a:Nat),.int .i64 (p.er:Nat),.int .i64 (p.line:Nat),.int .i64 (p.col:Nat),.int .i64 p.op] 33)).alloc (.cells #[.int .i64 0,.int .i64 0,.int .i64 0,.int .i64 0,.int .i64 0] 33)) w.heap.size (plAr p) 33):=Lib.hid ((Ho.new _ _ _ rfl).alloc _)
 have HR0:Hid (Ho ((w.alloc (.cells #[.int .i64 (p.a:Nat),.int .i64 (p.er:Nat),.int .i64 (p.line:Nat),.int .i64 (p.col:Nat),.int .i64 p.op] 33)).alloc (.cells #[.int .i64 0,.int .i64 0,.int .i64 0,.int .i64 0,.int .i64 0] 33)) (w.heap.size + 1) #[.int .i64 0,.int .i64 0,.int .i64 0,.int .i64 0,.int .i64 0] 33):=Lib.hid (Ho.new _ _ _ (by simp))
 have HST:=Lib.hid (refStop_calls ta tc 13 M p _ (h.below HB.out) hM hat)
 have HSK:=Lib.hid (fun w1=>refSkip_calls p w1 (by omega))
 have HW:Hid (openP M p=if 128 ≤ p.op then stopP M p 13 else ⟨p.a + 1,p.er,p.line,p.col,p.op + 1⟩):=Lib.hid rfl
 clear h
 by_cases hb:128 ≤ p.op
 ·have HW2:=HW.out
  rw [if_pos hb] at HW2
  rw [HW2]
  have t1:decide (128 ≤ p.op)=true:=decide_eq_true hb
  generalize stopP M p 13=r at HST HW2 ⊢
  have HST:Hid (Calls Tryz.prog 68 #[.slice ta M.length tc,plV p,.int .i64 13] ((w.alloc (.cells #[.int .i64 (p.a:Nat),.int .i64 (p.er:Nat),.int .i64 (p.line:Nat),.int .i64 (p.col:Nat),.int .i64 p.op] 33)).alloc (.cells #[.int .i64 0,.int .i64 0,.int .i64 0,.int .i64 0,.int .i64 0] 33)) fun e w'=>e=.returned (plV r) ∧ Below ((w.alloc (.cells #[.int .i64 (p.a:Nat),.int .i64 (p.er:Nat),.int .i64 (p.line:Nat),.int .i64 (p.col:Nat),.int .i64 p.op] 33)).alloc (.cells #[.int .i64 0,.int .i64 0,.int .i64 0,.int .i64 0,.int .i64 0] 33)).heap.size ((w.alloc (.cells #[.int .i64 (p.a:Nat),.int .i64 (p.er:Nat),.int .i64 (p.line:Nat),.int .i64 (p.col:Nat),.int .i64 p.op] 33)).alloc (.cells #[.int .i64 0,.int .i64 0,.int .i64 0,.int .i64 0,.int .i64 0] 33)) w'):=HST
  clear hb HW HW2
  unfold plV at HST ⊢
  go_enter Tryz.func50,Tryz.ntmps50
  go_wp2_with fail
  refine HST.out.mono ?_
  rintro e w2 ⟨rfl,k1⟩
  have HR2:=Lib.hid (HR0.out.below k1)
  have HB2:=Lib.hid (HB.out.trans (k1.mono HB.out.size))
  obtain ⟨y0,y1,y2,y3,y4⟩:=pl5 HR2.out
  obtain ⟨f0,f1,f2,f3,f4⟩:=pl5f HR2.out
  have hx2:=HR2.out.lt
  clear k1
  go_wp2_with fail
  refine bodyPost_ret (v:=plV r) ?_ rfl ⟨rfl,?_⟩
  ·refine cs_result1 rfl _ _ _ (a:=⟨w.heap.size + 1,0,none⟩) (by rfl) ?_
   unfold plV
   go_simp
  ·repeat' (first | (with_reducible exact HB2.out) | with_reducible refine Below.setCell ?_ (by simp) _)
 ·have HW2:=HW.out
  rw [if_neg hb] at HW2
  rw [HW2]
  have t1:decide (128 ≤ p.op)=false:=decide_eq_false hb
  have b1:-9223372036854775808 ≤ p.op + 1:=by omega
  have b2:p.op + 1 ≤ 9223372036854775807:=by omega
  clear hb HW HW2
  unfold plV skipP at HSK
  unfold plV
  dsimp only at HSK
  obtain ⟨n,hn⟩:∃ n,n=p.a + 1:=⟨_,rfl⟩
  rw [← hn] at HSK ⊢
  clear hn
  go_enter Tryz.func50,Tryz.ntmps50
  go_wp2_with fail
  refine (HSK.out _).mono ?_
  rintro e w2 ⟨rfl,k1⟩
  have HX2:=Lib.hid (HX0.out.below k1)
  have HR2:=Lib.hid (HR0.out.below k1)
  have HB2:=Lib.hid (HB.out.trans (k1.mono HB.out.size))
  obtain ⟨x0,x1,x2,x3,x4⟩:=pl_box HX2.out
  obtain ⟨g0,g1,g2,g3,g4⟩:=pl5f HX2.out
  have hx3:=HX2.out.lt
  clear k1
  go_upto_region 4 with fail
  have hX3:Ho (((((w2.setCell ⟨w.heap.size,0,none⟩ (.int .i64 (n:Nat))).setCell ⟨w.heap.size,1,none⟩ (.int .i64 (p.er:Nat))).setCell ⟨w.heap.size,2,none⟩ (.int .i64 (p.line:Nat))).setCell ⟨w.heap.size,3,none⟩ (.int .i64 (p.col:Nat))).setCell ⟨w.heap.size,4,none⟩ (.int .i64 p.op)) w.heap.size #[.int .i64 (n:Nat),.int .i64 (p.er:Nat),.int .i64 (p.line:Nat),.int .i64 (p.col:Nat),.int .i64 p.op] 33:=Ho.set (Ho.set (Ho.set (Ho.set (Ho.set HX2.out rfl) rfl) rfl) rfl) rfl
  have hR3:Ho (((((w2.setCell ⟨w.heap.size,0,none⟩ (.int .i64 (n:Nat))).setCell ⟨w.heap.size,1,none⟩ (.int .i64 (p.er:Nat))).setCell ⟨w.heap.size,2,none⟩ (.int .i64 (p.line:Nat))).setCell ⟨w.heap.size,3,none⟩ (.int .i64 (p.col:Nat))).setCell ⟨w.heap.size,4,none⟩ (.int .i64 p.op)) (w.heap.size + 1) #[.int .i64 0,.int .i64 0,.int .i64 0,.int .i64 0,.int .i64 0] 33:=((((HR2.out.other (by omega)).other (by omega)).other (by omega)).other (by omega)).other (by omega)
  have hB3:Below w.heap.size w (((((w2.setCell ⟨w.heap.size,0,none⟩ (.int .i64 (n:Nat))).setCell ⟨w.heap.size,1,none⟩ (.int .i64 (p.er:Nat))).setCell ⟨w.heap.size,2,none⟩ (.int .i64 (p.line:Nat))).setCell ⟨w.heap.size,3,none⟩ (.int .i64 (p.col:Nat))).setCell ⟨w.heap.size,4,none⟩ (.int .i64 p.op)):=((((HB2.out.setCell (Nat.le_refl _) _).setCell (Nat.le_refl _) _).setCell (Nat.le_refl _) _).setCell (Nat.le_refl _) _).setCell (Nat.le_refl _) _
  generalize ((((w2.setCell ⟨w.heap.size,0,none⟩ (.int .i64 (n:Nat))).setCell ⟨w.heap.size,1,none⟩ (.int .i64 (p.er:Nat))).setCell ⟨w.heap.size,2,none⟩ (.int .i64 (p.line:Nat))).setCell ⟨w.heap.size,3,none⟩ (.int .i64 (p.col:Nat))).setCell ⟨w.heap.size,4,none⟩ (.int .i64 p.op)=w3 at hX3 hR3 hB3 ⊢
  clear x0 x1 x2 x3 x4 g0 g1 g2 g3 g4 hx3
  obtain ⟨x0,x1,x2,x3,x4⟩:=pl5 hX3
  obtain ⟨g0,g1,g2,g3,g4⟩:=pl5f hX3
  have hx3:=hX3.lt
  have HX3:=Lib.hid hX3
  have HR3:=Lib.hid hR3
  have HB3:=Lib.hid hB3
  clear hX3 hR3 hB3
  go_upto_region 5 with fail
  have hX4:Ho (w3.setCell ⟨w.heap.size,4,none⟩ (.int .i64 (p.op + 1))) w.heap.size #[.int .i64 (n:Nat),.int .i64 (p.er:Nat),.int .i64 (p.line:Nat),.int .i64 (p.col:Nat),.int .i64 (p.op + 1)] 33:=Ho.set HX3.out rfl
  have hR4:Ho (w3.setCell ⟨w.heap.size,4,none⟩ (.int .i64 (p.op + 1))) (w.heap.size + 1) #[.int .i64 0,.int .i64 0,.int .i64 0,.int .i64 0,.int .i64 0] 33:=HR3.out.other (by omega)
  have hB4:Below w.heap.size w (w3.setCell ⟨w.heap.size,4,none⟩ (.int .i64 (p.op + 1))):=HB3.out.setCell (Nat.le_refl _) _
  generalize w3.setCell ⟨w.heap.size,4,none⟩ (.int .i64 (p.op + 1))=w4 at hX4 hR4 hB4 ⊢
  clear x0 x1 x2 x3 x4 g0 g1 g2 g3 g4 hx3
  obtain ⟨x0,x1,x2,x3,x4⟩:=pl5 hX4
  obtain ⟨y0,y1,y2,y3,y4⟩:=pl5 hR4
  obtain ⟨f0,f1,f2,f3,f4⟩:=pl5f hR4
  have hx3:=hX4.lt
  have hx4:=hR4.lt
  have HB4:=Lib.hid hB4
  clear hX4 hR4 hB4
  go_wp2_with fail
  refine bodyPost_ret (v:=.agg #[.int .i64 (n:Nat),.int .i64 (p.er:Nat),.int .i64 (p.line:Nat),.int .i64 (p.col:Nat),.int .i64 (p.op + 1)]) ?_ rfl ⟨rfl,?_⟩
  ·refine cs_result1 rfl _ _ _ (a:=⟨w.heap.size + 1,0,none⟩) (by rfl) ?_
   go_simp
  ·repeat' (first | (with_reducible exact HB4.out) | with_reducible refine Below.setCell ?_ (by simp) _)
theorem ref_depth_le (l:List Ex):∀ (n:Nat),depthT l n ≤ n + 1:=by
 intro n
 induction n using Nat.strongRecOn with
 | ind n ih =>
  have hI:∀ i:Int,getS ((accT nodeD l []).take n) i ≤ n:=fun i=>by
   by_cases h0:i < 0
   ·unfold getS; rw [if_pos h0]; omega
   ·by_cases hn:i < n
    ·rw [getS_take hn]
     have:=ih i.toNat (by omega)
     unfold depthT at this
     rw [show ((i.toNat:Nat):Int)=i by omega] at this
     omega
    ·unfold getS
     rw [if_neg h0,List.getD,List.getElem?_eq_none (by rw [List.length_take]; omega)]
     exact Nat.zero_le _
  cases h:l[n]? with
  | none =>
   have hl:=List.getElem?_eq_none_iff.1 h
   unfold depthT getS
   rw [if_neg (by omega),List.getD,List.getElem?_eq_none (by rw [acc_len,List.length_nil]; omega)]
   exact Nat.zero_le _
  | some x =>
   rw [depth_eq h,nodeD]
   have h1:=hI x.a
   have h2:=hI x.b
   split
   ·omega
   ·split <;> omega
theorem NsAt.node {B:Nat} {w:World} {v:Value} {L:List Ex} (h:NsAt B w v L) {n:Nat} {x:Ex} (hx:L[n]? = some x):∃ g c,v=.slice (some ⟨g,0,none⟩) L.length c ∧ g < w.heap.size ∧ (∀ j u,(exC x)[j]? = some u → w.cell? ⟨g,n * 10 + j,none⟩=some u):=by
 have hn:=(List.getElem?_eq_some_iff.1 hx).1
 obtain ⟨g,c,e,_,hc,hcell⟩:=h.block (fun e=>by rw [e] at hn; exact absurd hn (by simp))
 refine ⟨g,c,e,hc.lt,fun j u hj=>?_⟩
 have hj10:j < 10:=(List.getElem?_eq_some_iff.1 hj).1
 have h1:=hcell (n * 10 + j) u (by rw [exCs_at hx hj10]; exact hj)
 have hadd:(⟨g,0,none⟩:Addr).add (n * 10 + j)=⟨g,n * 10 + j,none⟩:=by unfold Addr.add; split <;> simp_all
 rwa [hadd] at h1
set_option maxHeartbeats 8000000 in
set_option maxRecDepth 100000 in
theorem refDeep_calls (B:Nat) (v:Value) (L:List Ex) (w:World) (h0:NsAt B w v L) (hc:Cl 0 L) (hl:L.length ≤ 1000000) :
  ∀ (m n:Nat),n < m → n < L.length → Calls Tryz.prog 33 #[v,.int .i64 n] w fun e w'=>e=.returned (.int .i64 (depthT L n:Nat)) ∧ w=w':=by
 intro m
 induction m with
 | zero=>exact fun n hn=>absurd hn (by omega)
 | succ m ih =>
  intro n hi hlt
  obtain ⟨x,hx⟩:∃ x,L[n]? = some x:=⟨L[n],List.getElem?_eq_getElem hlt⟩
  obtain ⟨g,c,rfl,hg,hcell⟩:=h0.node hx
  have c0:w.cell? ⟨g,n * 10,none⟩=some (.int .i64 x.op):=hcell 0 _ rfl
  have c1:w.cell? ⟨g,n * 10 + 1,none⟩=some (.int .i64 x.a):=hcell 1 _ rfl
  have c2:w.cell? ⟨g,n * 10 + 2,none⟩=some (.int .i64 x.b):=hcell 2 _ rfl
  have hp:=hc n x (Nat.zero_le _) hx
  have HX:=Lib.hid hx
  have HI:Hid (∀ (j:Nat),j < n → Calls Tryz.prog 33 #[.slice (some ⟨g,0,none⟩) L.length c,.int .i64 j] w fun e w'=>e=.returned (.int .i64 (depthT L j:Nat)) ∧ w=w'):=Lib.hid (fun j hj=>ih j (by omega) (by omega))
  clear ih h0 hc hcell hx
  by_cases hleaf:x.op=1 ∨ x.op=17
  case pos =>
   have HV:=Lib.hid (depth_leaf HX.out hleaf)
   clear hp
   by_cases h1:x.op=1
   ·have t1:(x.op == 1)=true:=by simp [h1]
    clear h1 hleaf
    go_enter Tryz.func33,Tryz.ntmps33
    go_wp2_with fail
    go_ret
    exact ⟨by rw [HV.out]; rfl,by rfl⟩
   ·have t1:(x.op == 1)=false:=by simpa using h1
    have t2:(x.op == 17)=true:=by rw [beq_iff_eq]; omega
    clear h1 hleaf
    go_enter Tryz.func33,Tryz.ntmps33
    go_wp2_with fail
    go_ret
    exact ⟨by rw [HV.out]; rfl,by rfl⟩
  case neg =>
  obtain ⟨h4,h16,ha0,han,hb⟩:=hp.resolve_left hleaf
  have t1:(x.op == 1)=false:=by rw [beq_eq_false_iff_ne]; omega
  have t2:(x.op == 17)=false:=by rw [beq_eq_false_iff_ne]; omega
  obtain ⟨j,hj⟩:∃ j:Nat,x.a=j:=⟨x.a.toNat,by omega⟩
  have HI1:=Lib.hid (HI.out j (by omega))
  have hd2:depthT L j ≤ j + 1:=ref_depth_le L j
  rw [hj] at c1
  by_cases h5:5 < x.op
  case neg =>
   have t5:decide (5 < x.op)=false:=decide_eq_false h5
   have hd:=depth_one HX.out hleaf h5 han
   rw [hj] at hd
   have HV:=Lib.hid hd
   have hjl:j < 1000000:=by omega
   clear hd hleaf h4 h16 ha0 han hb h5 HI HX c2
   generalize depthT L j=u at HI1 HV hd2
   go_enter Tryz.func33,Tryz.ntmps33
   go_wp2_with fail
   refine HI1.out.mono ?_
   rintro e w1 ⟨rfl,rfl⟩
   go_wp2_with fail
   go_ret
   exact ⟨by rw [HV.out]; rfl,by rfl⟩
  case pos =>
   have t5:decide (5 < x.op)=true:=decide_eq_true h5
   obtain ⟨hb0,hbn⟩:=hb h5
   obtain ⟨q,hq⟩:∃ q:Nat,x.b=q:=⟨x.b.toNat,by omega⟩
   have hd:=depth_two HX.out hleaf h5 han hbn
   rw [hj,hq] at hd
   have HV:=Lib.hid hd
   rw [hq] at c2
   have HI2:=Lib.hid (HI.out q (by omega))
   have hd3:depthT L q ≤ q + 1:=ref_depth_le L q
   have hjl:j < 1000000:=by omega
   have hql:q < 1000000:=by omega
   clear hd hleaf h4 h16 ha0 han hb h5 HI HX hb0 hbn
   generalize depthT L j=u at HI1 HV hd2
   generalize depthT L q=z at HI2 HV hd3
   have hm:max (u:Int) (z:Int)=((max u z:Nat):Int):=by omega
   have hm2:max u z ≤ 1000001:=by omega
   have HM:Hid (max u z ≤ 1000001):=Lib.hid hm2
   clear hm2
   go_enter Tryz.func33,Tryz.ntmps33
   go_wp2_with fail
   refine HI1.out.mono ?_
   rintro e w1 ⟨rfl,rfl⟩
   go_wp2_with fail
   refine HI2.out.mono ?_
   rintro e w1 ⟨rfl,rfl⟩
   go_wp2_with fail
   all_goals go_ret
   all_goals exact ⟨by rw [HV.out]; first | rfl | (congr 2; omega),by rfl⟩
set_option maxHeartbeats 4000000 in
set_option maxRecDepth 100000 in
theorem refMoved_calls (x:Ex) (d:Int) (w:World) (ha:4 ≤ x.op → x.op ≤ 16 → -1000000 ≤ x.a ∧ x.a ≤ 1000000) (hb:5 < x.op → x.op ≤ 16 → -1000000 ≤ x.b ∧ x.b ≤ 1000000) (hd:-1000000 ≤ d ∧ d ≤ 1000000) :
  Calls Tryz.prog 82 #[exV x,.int .i64 d] w fun e w'=>e=.returned (exV (movedE x d)) ∧ Below w.heap.size w w':=by
 obtain ⟨hd1,hd2⟩:=hd
 by_cases hop:4 ≤ x.op ∧ x.op ≤ 16
 case neg =>
  have HV:Hid (movedE x d=x):=Lib.hid (by unfold movedE; rw [if_neg hop])
  rw [HV.out]
  by_cases h4:4 ≤ x.op
  case neg =>
   have t1:decide (4 ≤ x.op)=false:=decide_eq_false h4
   clear hop h4 ha hb
   unfold exV
   go_enter Tryz.func82,Tryz.ntmps82
   go_wp2_with fail
   refine bodyPost_ret (v:=.agg #[.int .i64 x.op,.int .i64 x.a,.int .i64 x.b,.string x.n,.int .i64 x.v.k,.int .i64 x.v.i,.string x.v.s,.bool x.v.b,.int .i64 x.l,.int .i64 x.c]) ?_ rfl ⟨rfl,?_⟩
   ·refine cs_result1 rfl _ _ _ (a:=⟨w.heap.size + 1,0,none⟩) (by rfl) ?_
    go_simp
   ·repeat' (first | (with_reducible exact Below.refl _ _) | with_reducible refine Below.setCell ?_ (by simp) _ | with_reducible refine Below.alloc ?_ (by simp <;> omega) _)
  case pos =>
   have t1:decide (4 ≤ x.op)=true:=decide_eq_true h4
   have t2:decide (x.op ≤ 16)=false:=decide_eq_false (fun k=>hop ⟨h4,k⟩)
   clear hop h4 ha hb
   unfold exV
   go_enter Tryz.func82,Tryz.ntmps82
   go_wp2_with fail
   refine bodyPost_ret (v:=.agg #[.int .i64 x.op,.int .i64 x.a,.int .i64 x.b,.string x.n,.int .i64 x.v.k,.int .i64 x.v.i,.string x.v.s,.bool x.v.b,.int .i64 x.l,.int .i64 x.c]) ?_ rfl ⟨rfl,?_⟩
   ·refine cs_result1 rfl _ _ _ (a:=⟨w.heap.size + 1,0,none⟩) (by rfl) ?_
    go_simp
   ·repeat' (first | (with_reducible exact Below.refl _ _) | with_reducible refine Below.setCell ?_ (by simp) _ | with_reducible refine Below.alloc ?_ (by simp <;> omega) _)
 case pos =>
  obtain ⟨ha1,ha2⟩:=ha hop.1 hop.2
  have t1:decide (4 ≤ x.op)=true:=decide_eq_true hop.1
  have t2:decide (x.op ≤ 16)=true:=decide_eq_true hop.2
  by_cases h5:5 < x.op
  case neg =>
   have HV:Hid (movedE x d=⟨x.op,x.a + d,x.b,x.n,x.v,x.l,x.c⟩):=Lib.hid (by unfold movedE; rw [if_pos hop,if_neg h5])
   rw [HV.out]
   have t3:decide (5 < x.op)=false:=decide_eq_false h5
   clear hop h5 ha hb
   unfold exV
   go_enter Tryz.func82,Tryz.ntmps82
   go_wp2_with fail
   refine bodyPost_ret (v:=.agg #[.int .i64 x.op,.int .i64 (x.a + d),.int .i64 x.b,.string x.n,.int .i64 x.v.k,.int .i64 x.v.i,.string x.v.s,.bool x.v.b,.int .i64 x.l,.int .i64 x.c]) ?_ rfl ⟨rfl,?_⟩
   ·refine cs_result1 rfl _ _ _ (a:=⟨w.heap.size + 1,0,none⟩) (by rfl) ?_
    go_simp
   ·repeat' (first | (with_reducible exact Below.refl _ _) | with_reducible refine Below.setCell ?_ (by simp) _ | with_reducible refine Below.alloc ?_ (by simp <;> omega) _)
  case pos =>
   have HV:Hid (movedE x d=⟨x.op,x.a + d,x.b + d,x.n,x.v,x.l,x.c⟩):=Lib.hid (by unfold movedE; rw [if_pos hop,if_pos h5])
   rw [HV.out]
   obtain ⟨hb1,hb2⟩:=hb h5 hop.2
   have t3:decide (5 < x.op)=true:=decide_eq_true h5
   clear hop h5 ha hb
   unfold exV
   go_enter Tryz.func82,Tryz.ntmps82
   go_wp2_with fail
   refine bodyPost_ret (v:=.agg #[.int .i64 x.op,.int .i64 (x.a + d),.int .i64 (x.b + d),.string x.n,.int .i64 x.v.k,.int .i64 x.v.i,.string x.v.s,.bool x.v.b,.int .i64 x.l,.int .i64 x.c]) ?_ rfl ⟨rfl,?_⟩
   ·refine cs_result1 rfl _ _ _ (a:=⟨w.heap.size + 1,0,none⟩) (by rfl) ?_
    go_simp
   ·repeat' (first | (with_reducible exact Below.refl _ _) | with_reducible refine Below.setCell ?_ (by simp) _ | with_reducible refine Below.alloc ?_ (by simp <;> omega) _)
theorem NsAt.read {B:Nat} {w:World} {v:Value} {L:List Ex} (h:NsAt B w v L):∃ A c,v=.slice A L.length c ∧ (A=none → L.length=0) ∧ ∀ ad,A=some ad → ∀ j u,(exCs L)[j]? = some u → w.cell? (ad.add j)=some u:=by
 by_cases h0:L=[]
 ·obtain ⟨a,c,rfl⟩:=h.slice
  subst h0
  exact ⟨a,c,rfl,fun _=>rfl,fun ad _ j u hj=>by simp [exCs] at hj⟩
 ·obtain ⟨g,c,rfl,_,_,hc⟩:=h.block h0
  refine ⟨_,c,rfl,(fun e=>by cases e),fun ad e=>?_⟩
  cases e
  exact hc
theorem ns_append0 {w:World} {o:Oper} {a:Act} {K:Act → World → Prop} {Q:Exit → Act → World → Prop} (s x:Operand) (ho:o.op=.call { callee:=.builtin .append,args:=#[s,x],argTypes:=#[23,23] }) (base B g:Nat) (hs:a.eval s=.slice (some ⟨g,0,none⟩) 0 0)
  (hg:w.ownsRow base 41 10 (.slice (some ⟨g,0,none⟩) 0 0) 0 []) (v:Value) (L:List Ex) (hx:a.eval x=v) (hL:NsAt B w v L) (hl:L.length ≤ 1000000) (hbase:base ≤ w.heap.size)
  (h:∀ v' w',NsAt base w' v' L → w.grownBy w' (some g) → K (a.put o.dst v') w'):o.wp Tryz.prog a w K Q:=by
 obtain ⟨i0,hi,z0',z1,z2⟩:=cs_parts infoEx
 obtain ⟨A,c,rfl,h0,hc⟩:=hL.read
 refine wp_append_opt s x 23 ho base 41 i0 _ 10 96 Tryz.underlying23 hi z0' z1 z2 rfl (by decide) g hs hg A L.length c (exCs L) hx h0 (exCs_len L) hc (exCs_one L) (by unfold maxLen; omega) (by omega) hbase ?_
 intro v' w' h1 h2
 refine h v' w' ?_ h2
 rw [Nat.zero_add,List.nil_append] at h1
 exact h1
theorem ns_append1 {w:World} {o:Oper} {a:Act} {K:Act → World → Prop} {Q:Exit → Act → World → Prop} (s x:Operand) (ho:o.op=.call { callee:=.builtin .append,args:=#[s,x],argTypes:=#[23,23] }) (base B g:Nat) (v:Value) (L:List Ex) (y:Ex) (hs:a.eval s=v)
  (hL:NsAt base w v L) (hx:a.eval x=.slice (some ⟨g,0,none⟩) 1 1) (hy:NsAt B w (.slice (some ⟨g,0,none⟩) 1 1) [y]) (hl:L.length ≤ 1000000) (hbase:base ≤ w.heap.size)
  (h:∀ v' w',NsAt base w' v' (L ++ [y]) → w.grownBy w' v.ownBlock → K (a.put o.dst v') w'):o.wp Tryz.prog a w K Q:=by
 obtain ⟨i0,hi,z0',z1,z2⟩:=cs_parts infoEx
 obtain ⟨g',c,e,_,_,hc⟩:=hy.block (by simp)
 cases e
 refine wp_append_own w s x 23 ho base 41 i0 _ 10 96 Tryz.underlying23 hi z0' z1 z2 rfl (by decide) v L.length (exCs L) hs hL ⟨g,0,none⟩ 1 1 (exCs [y]) hx (exCs_len [y]) hc (exCs_one [y]) (by unfold maxLen; omega) (by omega) hbase ?_
 intro v' w' h1 h2 _
 refine h v' w' ?_ h2
 unfold NsAt
 rw [List.length_append,exCs_app]
 exact h1
theorem ns_kept {B:Nat} {w w':World} {v:Value} {L:List Ex} {row:Option Nat} (h:NsAt B w v L) (hg:w.grownBy w' row) (hne:v.ownBlock=none ∨ v.ownBlock ≠ row):NsAt B w' v L:=World.ownsRow.kept h hg hne
theorem ns_made (w:World) (B:Nat) (h:B ≤ w.heap.size):(w.alloc (.cells #[] 41)).ownsRow B 41 10 (.slice (some ⟨w.heap.size,0,none⟩) 0 0) 0 []:=World.ownsRow_made w #[] 0 h (Nat.zero_le _) (by simp)
structure NB (w:World) (p:Pl) (x:Ex) (W:World):Prop where
 pl:Ho W w.heap.size #[.int .i64 (p.a:Nat),.int .i64 (p.er:Nat),.int .i64 (p.line:Nat),.int .i64 (p.col:Nat),.int .i64 p.op] 33
 nx:Ho W (w.heap.size + 1) #[.int .i64 x.op,.int .i64 x.a,.int .i64 x.b,.string x.n,.int .i64 x.v.k,.int .i64 x.v.i,.string x.v.s,.bool x.v.b,.int .i64 x.l,.int .i64 x.c] 41
 re:Ho W (w.heap.size + 2) #[.int .i64 0,.int .i64 0,.int .i64 0,.int .i64 0,.int .i64 0] 33
 below:Below w.heap.size w W
theorem NB.step {w W W':World} {p:Pl} {x:Ex} (h:NB w p x W) (k:Below W.heap.size W W'):NB w p x W' :=
 ⟨h.pl.below k,h.nx.below k,h.re.below k,h.below.trans (k.mono h.below.size)⟩
theorem ex_cells {W:World} {b:Nat} {x:Ex} (h:Ho W b #[.int .i64 x.op,.int .i64 x.a,.int .i64 x.b,.string x.n,.int .i64 x.v.k,.int .i64 x.v.i,.string x.v.s,.bool x.v.b,.int .i64 x.l,.int .i64 x.c] 41):W.cell? ⟨b,0,none⟩=some (.int .i64 x.op) ∧ W.cell? ⟨b,1,none⟩=some (.int .i64 x.a) ∧ W.cell? ⟨b,2,none⟩=some (.int .i64 x.b) ∧ W.cell? ⟨b,3,none⟩=some (.string x.n) ∧ W.cell? ⟨b,4,none⟩=some (.int .i64 x.v.k) ∧ W.cell? ⟨b,5,none⟩=some (.int .i64 x.v.i) ∧ W.cell? ⟨b,6,none⟩=some (.string x.v.s) ∧ W.cell? ⟨b,7,none⟩=some (.bool x.v.b) ∧ W.cell? ⟨b,8,none⟩=some (.int .i64 x.l) ∧ W.cell? ⟨b,9,none⟩=some (.int .i64 x.c) :=
 ⟨by rw [cell_of_row _ _ 0 _ _ _ h]; rfl,by rw [cell_of_row _ _ 1 _ _ _ h]; rfl,by rw [cell_of_row _ _ 2 _ _ _ h]; rfl,by rw [cell_of_row _ _ 3 _ _ _ h]; rfl,by rw [cell_of_row _ _ 4 _ _ _ h]; rfl,by rw [cell_of_row _ _ 5 _ _ _ h]; rfl,by rw [cell_of_row _ _ 6 _ _ _ h]; rfl,by rw [cell_of_row _ _ 7 _ _ _ h]; rfl,by rw [cell_of_row _ _ 8 _ _ _ h]; rfl,by rw [cell_of_row _ _ 9 _ _ _ h]; rfl⟩
def nodR (v:Value) (p:Pl):Value:=.tuple #[v,plV p]
def NdPost (r:List Ex × Pl) (w:World) (e:Ending) (w':World):Prop:=∃ v,e=.returned (nodR v r.2) ∧ NsAt 0 w' v r.1 ∧ Below w.heap.size w w'
set_option maxHeartbeats 16000000 in
set_option maxRecDepth 100000 in
theorem refNode_calls (ta:Option Addr) (tc n:Nat) (M:List Tk) (p:Pl) (o:List Ex) (y:Ex) (t:List UInt8) (v:Value) (w:World) (h:TkIn w 37 ta M.length M) (hM:M.length ≤ 1000000) (hn:p.er=0 → n < M.length) (hy:y.n=⟨t.toArray⟩) (ho:NsAt 0 w v o) (hl:o.length ≤ 900000)
  (hcl:p.er=0 → Cl 0 (o ++ [⟨y.op,y.a,y.b,y.n,y.v,(tkAt M n).line,(tkAt M n).col⟩])) :
  Calls Tryz.prog 18 #[.slice ta M.length tc,plV p,.int .i64 (n:Nat),v,exV y] w (NdPost (nodeP M p n o y.op y.a y.b t y.v) w):=by
 have hNB:NB w p y (((w.alloc (.cells #[.int .i64 (p.a:Nat),.int .i64 (p.er:Nat),.int .i64 (p.line:Nat),.int .i64 (p.col:Nat),.int .i64 p.op] 33)).alloc (.cells #[.int .i64 y.op,.int .i64 y.a,.int .i64 y.b,.string y.n,.int .i64 y.v.k,.int .i64 y.v.i,.string y.v.s,.bool y.v.b,.int .i64 y.l,.int .i64 y.c] 41)).alloc (.cells #[.int .i64 0,.int .i64 0,.int .i64 0,.int .i64 0,.int .i64 0] 33)):=⟨(((Ho.new _ _ _ rfl).alloc _).alloc _),(Ho.new _ _ _ (by simp)).alloc _,Ho.new _ _ _ (by simp),(((Below.refl _ _).alloc (Nat.le_refl _) _).alloc (by simp) _).alloc (by simp <;> omega) _⟩
 by_cases he:p.er=0
 case neg =>
  have t1:((p.er:Int) != 0)=true:=by rw [bne_iff_ne]; omega
  have HV:Hid (nodeP M p n o y.op y.a y.b t y.v=(o,p)):=Lib.hid (by unfold nodeP; rw [if_neg he])
  rw [HV.out]
  have HNB:=Lib.hid hNB
  have HO:Hid (∀ W,Below w.heap.size w W → NsAt 0 W v o):=Lib.hid (fun W hb=>ho.below hb)
  obtain ⟨a,c,rfl⟩:=ho.slice
  clear he h hn ho hcl hNB hy
  unfold plV exV
  go_enter Tryz.func18,Tryz.ntmps18
  go_wp2_with fail
  generalize ((w.alloc (.cells #[.int .i64 (p.a:Nat),.int .i64 (p.er:Nat),.int .i64 (p.line:Nat),.int .i64 (p.col:Nat),.int .i64 p.op] 33)).alloc (.cells #[.int .i64 y.op,.int .i64 y.a,.int .i64 y.b,.string y.n,.int .i64 y.v.k,.int .i64 y.v.i,.string y.v.s,.bool y.v.b,.int .i64 y.l,.int .i64 y.c] 41)).alloc (.cells #[.int .i64 0,.int .i64 0,.int .i64 0,.int .i64 0,.int .i64 0] 33)=w0 at HNB ⊢
  obtain ⟨p0,p1,p2,p3,p4⟩:=pl5 HNB.out.pl
  obtain ⟨q0,q1,q2,q3,q4⟩:=pl5 HNB.out.re
  obtain ⟨f0,f1,f2,f3,f4⟩:=pl5f HNB.out.re
  have hpl:=HNB.out.pl.lt
  have hre:=HNB.out.re.lt
  go_region
  all_goals (go_wp2_with fail)
  all_goals (try simp only [Exit.inBlock,Exit.then])
  all_goals (
   have hb:Below w.heap.size w (((((w0.drew.setCell ⟨w.heap.size + 2,0,none⟩ (.int .i64 (p.a:Nat))).setCell ⟨w.heap.size + 2,1,none⟩ (.int .i64 (p.er:Nat))).setCell ⟨w.heap.size + 2,2,none⟩ (.int .i64 (p.line:Nat))).setCell ⟨w.heap.size + 2,3,none⟩ (.int .i64 (p.col:Nat))).setCell ⟨w.heap.size + 2,4,none⟩ (.int .i64 p.op)):=by
    repeat' (first | (with_reducible exact HNB.out.below) | with_reducible refine Below.setCell ?_ (by simp <;> omega) _ | with_reducible refine Below.drew ?_)
   refine bodyPost_ret (v:=nodR (.slice a o.length c) p) ?_ rfl ⟨_,rfl,HO.out _ hb,hb⟩
   refine cs_result2 rfl _ _ _ (a:=⟨w.heap.size + 2,0,none⟩) (by rfl) (by rfl) ?_
   unfold plV
   go_simp)
 case pos =>
  have t1:((p.er:Int) != 0)=false:=by rw [he]; rfl
  have hnM:=hn he
  obtain ⟨tb,off,rfl,htb,d0,d1,d2,d3⟩:=rtk_cells h hnM
  have hcl2:=hcl he
  obtain ⟨tl_,htl_⟩:∃ k,k=(tkAt M n).line:=⟨_,rfl⟩
  obtain ⟨tc_,htc_⟩:∃ k,k=(tkAt M n).col:=⟨_,rfl⟩
  have HW:Hid (nodeP M p n o y.op y.a y.b t y.v=if depthT (o ++ [⟨y.op,y.a,y.b,y.n,y.v,tl_,tc_⟩]) (o.length:Int) ≤ 64 then (o ++ [⟨y.op,y.a,y.b,y.n,y.v,tl_,tc_⟩],p) else (o ++ [⟨y.op,y.a,y.b,y.n,y.v,tl_,tc_⟩],⟨p.a,13,tl_,tc_,p.op⟩)):=Lib.hid (by unfold nodeP; rw [if_pos he,hy,htl_,htc_])
  rw [← htl_,← htc_] at hcl2
  rw [← htl_] at d2
  rw [← htc_] at d3
  clear d0 d1 htl_ htc_ hcl hn
  obtain ⟨x,hx⟩:∃ x:Ex,x=⟨y.op,y.a,y.b,y.n,y.v,tl_,tc_⟩:=⟨_,rfl⟩
  rw [← hx] at hcl2 HW
  have HO:Hid (∀ W,Below w.heap.size w W → NsAt 0 W v o):=Lib.hid (fun W hb=>ho.below hb)
  have HCL:=Lib.hid hcl2
  have HNB:=Lib.hid hNB
  obtain ⟨a,c,rfl⟩:=ho.slice
  have hbn:¬ tb=w.heap.size + 1:=by omega
  have hbn2:¬ w.heap.size + 1=tb:=by omega
  have hnl:n < M.length:=hnM
  clear he h ho hNB hy hcl2
  generalize M.length=ml at hnl hnM hM ⊢
  unfold plV exV
  go_enter Tryz.func18,Tryz.ntmps18
  go_upto_region 1 with fail
  have htz:tb < (((w.alloc (.cells #[.int .i64 (p.a:Nat),.int .i64 (p.er:Nat),.int .i64 (p.line:Nat),.int .i64 (p.col:Nat),.int .i64 p.op] 33)).alloc (.cells #[.int .i64 y.op,.int .i64 y.a,.int .i64 y.b,.string y.n,.int .i64 y.v.k,.int .i64 y.v.i,.string y.v.s,.bool y.v.b,.int .i64 y.l,.int .i64 y.c] 41)).alloc (.cells #[.int .i64 0,.int .i64 0,.int .i64 0,.int .i64 0,.int .i64 0] 33)).heap.size:=by simp; omega
  have e2:(((w.alloc (.cells #[.int .i64 (p.a:Nat),.int .i64 (p.er:Nat),.int .i64 (p.line:Nat),.int .i64 (p.col:Nat),.int .i64 p.op] 33)).alloc (.cells #[.int .i64 y.op,.int .i64 y.a,.int .i64 y.b,.string y.n,.int .i64 y.v.k,.int .i64 y.v.i,.string y.v.s,.bool y.v.b,.int .i64 y.l,.int .i64 y.c] 41)).alloc (.cells #[.int .i64 0,.int .i64 0,.int .i64 0,.int .i64 0,.int .i64 0] 33)).cell? ⟨tb,off + n * 4 + 2,none⟩=some (.int .i64 (tl_:Nat)):=(HNB.out.below.cell (p:=⟨tb,_,none⟩) htb).trans d2
  have e3:(((w.alloc (.cells #[.int .i64 (p.a:Nat),.int .i64 (p.er:Nat),.int .i64 (p.line:Nat),.int .i64 (p.col:Nat),.int .i64 p.op] 33)).alloc (.cells #[.int .i64 y.op,.int .i64 y.a,.int .i64 y.b,.string y.n,.int .i64 y.v.k,.int .i64 y.v.i,.string y.v.s,.bool y.v.b,.int .i64 y.l,.int .i64 y.c] 41)).alloc (.cells #[.int .i64 0,.int .i64 0,.int .i64 0,.int .i64 0,.int .i64 0] 33)).cell? ⟨tb,off + n * 4 + 3,none⟩=some (.int .i64 (tc_:Nat)):=(HNB.out.below.cell (p:=⟨tb,_,none⟩) htb).trans d3
  generalize ((w.alloc (.cells #[.int .i64 (p.a:Nat),.int .i64 (p.er:Nat),.int .i64 (p.line:Nat),.int .i64 (p.col:Nat),.int .i64 p.op] 33)).alloc (.cells #[.int .i64 y.op,.int .i64 y.a,.int .i64 y.b,.string y.n,.int .i64 y.v.k,.int .i64 y.v.i,.string y.v.s,.bool y.v.b,.int .i64 y.l,.int .i64 y.c] 41)).alloc (.cells #[.int .i64 0,.int .i64 0,.int .i64 0,.int .i64 0,.int .i64 0] 33)=w0 at HNB htz e2 e3 ⊢
  obtain ⟨p0,p1,p2,p3,p4⟩:=pl5 HNB.out.pl
  obtain ⟨x0,x1,x2,x3,x4,x5,x6,x7,x8,x9⟩:=ex_cells HNB.out.nx
  have xf8:w0.frozen? ⟨w.heap.size + 1,8,none⟩=false:=frozen_of_row _ _ 8 _ _ HNB.out.nx
  have xf9:w0.frozen? ⟨w.heap.size + 1,9,none⟩=false:=frozen_of_row _ _ 9 _ _ HNB.out.nx
  have hpl:=HNB.out.pl.lt
  have hnx:=HNB.out.nx.lt
  go_upto_region 5 with fail
  have hNB1:NB w p x ((w0.setCell ⟨w.heap.size + 1,5 + 3,none⟩ (.int .i64 (tl_:Nat))).setCell ⟨w.heap.size + 1,6 + 3,none⟩ (.int .i64 (tc_:Nat))):=⟨(HNB.out.pl.other (by omega)).other (by omega),by rw [hx]; exact Ho.set (Ho.set HNB.out.nx rfl) rfl,(HNB.out.re.other (by omega)).other (by omega),(HNB.out.below.setCell (by simp) _).setCell (by simp) _⟩
  clear p0 p1 p2 p3 p4 x0 x1 x2 x3 x4 x5 x6 x7 x8 x9 xf8 xf9 hpl hnx e2 e3 htz hbn hbn2 d2 d3 htb
  generalize (w0.setCell ⟨w.heap.size + 1,5 + 3,none⟩ (.int .i64 (tl_:Nat))).setCell ⟨w.heap.size + 1,6 + 3,none⟩ (.int .i64 (tc_:Nat))=w1 at hNB1 ⊢
  have HNB1:=Lib.hid hNB1
  have HS:Hid (∀ W,Below w1.heap.size w1 W → (W.cell? ⟨w.heap.size + 1,0,none⟩=some (.int .i64 x.op) ∧ W.cell? ⟨w.heap.size + 1,1,none⟩=some (.int .i64 x.a) ∧ W.cell? ⟨w.heap.size + 1,2,none⟩=some (.int .i64 x.b) ∧ W.cell? ⟨w.heap.size + 1,3,none⟩=some (.string x.n) ∧ W.cell? ⟨w.heap.size + 1,4,none⟩=some (.int .i64 x.v.k) ∧ W.cell? ⟨w.heap.size + 1,5,none⟩=some (.int .i64 x.v.i) ∧ W.cell? ⟨w.heap.size + 1,6,none⟩=some (.string x.v.s) ∧ W.cell? ⟨w.heap.size + 1,7,none⟩=some (.bool x.v.b) ∧ W.cell? ⟨w.heap.size + 1,8,none⟩=some (.int .i64 x.l) ∧ W.cell? ⟨w.heap.size + 1,9,none⟩=some (.int .i64 x.c))):=Lib.hid (fun W hb=>ex_cells (HNB1.out.nx.below hb))
  have HXL:Hid (x.l=(tl_:Nat)):=Lib.hid (by rw [hx])
  have HXC:Hid (x.c=(tc_:Nat)):=Lib.hid (by rw [hx])
  clear hNB1 HNB hx
  obtain ⟨n5,hn5⟩:∃ k,k=(o ++ [x]).length:=⟨_,rfl⟩
  have HN5L:=Lib.hid hn5
  clear hn5
  go_cut [12] from 13 to 50 (fun s12 wx=>∃ (a5:Option Addr) (c5:Nat),s12=.slice a5 n5 c5 ∧ Hid (NsAt w1.heap.size wx (.slice a5 n5 c5) (o ++ [x])) ∧ Hid (Below w1.heap.size w1 wx))
  case first =>
   refine wp_region_B (S:=(fun W=>W.cell? ⟨w.heap.size + 1,0,none⟩=some (.int .i64 x.op) ∧ W.cell? ⟨w.heap.size + 1,1,none⟩=some (.int .i64 x.a) ∧ W.cell? ⟨w.heap.size + 1,2,none⟩=some (.int .i64 x.b) ∧ W.cell? ⟨w.heap.size + 1,3,none⟩=some (.string x.n) ∧ W.cell? ⟨w.heap.size + 1,4,none⟩=some (.int .i64 x.v.k) ∧ W.cell? ⟨w.heap.size + 1,5,none⟩=some (.int .i64 x.v.i) ∧ W.cell? ⟨w.heap.size + 1,6,none⟩=some (.string x.v.s) ∧ W.cell? ⟨w.heap.size + 1,7,none⟩=some (.bool x.v.b) ∧ W.cell? ⟨w.heap.size + 1,8,none⟩=some (.int .i64 x.l) ∧ W.cell? ⟨w.heap.size + 1,9,none⟩=some (.int .i64 x.c))) [] (by kernel_rfl) (HS.out _ (Below.refl w1.heap.size w1).drew) (fun hH0=>?_)
   refine wpB_take (i:=1) (v:=.slice a o.length c) [] rfl (by kernel_rfl) (by kernel_rfl) (by kernel_rfl) (by kernel_rfl) (fun _ _ _ h=>h) (Or.inl ⟨by kernel_rfl,fun wS hSw=>by (try dsimp only at hSw); go_simp⟩) hH0 ?_
   refine wpB_take (i:=3) (v:=.agg #[.int .i64 x.op,.int .i64 x.a,.int .i64 x.b,.string x.n,.int .i64 x.v.k,.int .i64 x.v.i,.string x.v.s,.bool x.v.b,.int .i64 x.l,.int .i64 x.c]) [] rfl (by kernel_rfl) (by kernel_rfl) (by kernel_rfl) (by kernel_rfl) (fun _ _ _ h=>h) (Or.inl ⟨by kernel_rfl,fun wS hSw=>by (try dsimp only at hSw); go_simp⟩) hH0 ?_
   have HK0:=Lib.hid ((Below.refl w1.heap.size w1).drew)
   have HG0:Hid (w1.heap.size ≤ w1.drew.heap.size):=Lib.hid (Nat.le_refl _)
   generalize w1.drew=wd at hH0 HK0 HG0 ⊢
   refine wpB_two (i:=0) (j:=4) rfl rfl (by kernel_rfl) (fun K hK=>?_) (fun K hK=>?_)
   ·rw [if_pos (by kernel_rfl)]
    go_simp
    have HZ:=Lib.hid (ns_made wd w1.heap.size HK0.out.size)
    have hk2:=HK0.out.alloc HK0.out.size (.cells #[] 41)
    have hlt0:wd.heap.size < (wd.alloc (.cells #[] 41)).heap.size:=by simp
    have HKA:=Lib.hid hk2
    clear hk2
    generalize wd.alloc (.cells #[] 41)=wA at HZ HKA hlt0 ⊢
    refine hK.out _ _ (HS.out _ HKA.out) (fun hHx=>?_)
    clear hK K
    refine wpB_two (i:=2) (j:=4) rfl rfl (by kernel_rfl) (fun K hK=>?_) (fun K hK=>?_)
    ·rw [if_pos (by kernel_rfl)]
     refine ns_append0 _ _ rfl w1.heap.size 0 wd.heap.size rfl HZ.out _ o rfl (HO.out _ (HNB1.out.below.trans (HKA.out.mono HNB1.out.below.size))) (by omega) HKA.out.size ?_
     intro v2 wB hN2 hG2
     have HK2:=Lib.hid (HKA.out.grown hG2 HKA.out.size (fun k hk=>by cases hk; have:=HG0.out; omega))
     refine hK.out _ _ (HS.out _ HK2.out) (fun hHx=>?_)
     clear hK K
     refine wpB_step (i:=4) rfl (by kernel_rfl) (fun K hK=>?_)
     rw [if_pos (by kernel_rfl)]
     go_simp
     have HN:Hid (NsAt w1.heap.size (wB.alloc (.cells #[.int .i64 x.op,.int .i64 x.a,.int .i64 x.b,.string x.n,.int .i64 x.v.k,.int .i64 x.v.i,.string x.v.s,.bool x.v.b,.int .i64 x.l,.int .i64 x.c] 41)) (.slice (some ⟨wB.heap.size,0,none⟩) 1 1) [x]):=Lib.hid (NsAt.new wB x HK2.out.size rfl)
     have hk2:=HK2.out.alloc HK2.out.size (.cells #[.int .i64 x.op,.int .i64 x.a,.int .i64 x.b,.string x.n,.int .i64 x.v.k,.int .i64 x.v.i,.string x.v.s,.bool x.v.b,.int .i64 x.l,.int .i64 x.c] 41)
     have hlt0:wB.heap.size < (wB.alloc (.cells #[.int .i64 x.op,.int .i64 x.a,.int .i64 x.b,.string x.n,.int .i64 x.v.k,.int .i64 x.v.i,.string x.v.s,.bool x.v.b,.int .i64 x.l,.int .i64 x.c] 41)).heap.size:=by simp
     have HK4:=Lib.hid hk2
     have HV4:=Lib.hid (hN2.below ((Below.refl _ _).alloc (Nat.le_refl _) (.cells #[.int .i64 x.op,.int .i64 x.a,.int .i64 x.b,.string x.n,.int .i64 x.v.k,.int .i64 x.v.i,.string x.v.s,.bool x.v.b,.int .i64 x.l,.int .i64 x.c] 41)))
     clear hk2 hN2 hG2
     generalize wB.alloc (.cells #[.int .i64 x.op,.int .i64 x.a,.int .i64 x.b,.string x.n,.int .i64 x.v.k,.int .i64 x.v.i,.string x.v.s,.bool x.v.b,.int .i64 x.l,.int .i64 x.c] 41)=wC at HN HK4 HV4 ⊢
     refine hK.out _ _ (HS.out _ HK4.out) (fun hHx=>?_)
     clear hK K
     refine wpB_step (i:=5) rfl (by kernel_rfl) (fun K hK=>?_)
     rw [if_pos (by kernel_rfl)]
     refine ns_append1 _ _ rfl w1.heap.size w1.heap.size wB.heap.size _ o x rfl HV4.out rfl HN.out (by omega) HK4.out.size ?_
     intro v5 w5 hN5 hG5
     have HK5:=Lib.hid (HK4.out.grown hG5 HK4.out.size (fun k hk=>(World.ownsRow.lt HV4.out k hk).1))
     obtain ⟨a5,c5,rfl⟩:=hN5.slice
     rw [← HN5L.out] at hN5 ⊢
     have HN5:=Lib.hid hN5
     clear hN5 hG5
     refine hK.out _ _ (HS.out _ HK5.out) (fun hHx=>?_)
     clear hK K
     refine wpB_take (i:=6) (v:=.slice a5 n5 c5) [] rfl (by kernel_rfl) (by kernel_rfl) (by kernel_rfl) (by kernel_rfl) (fun _ _ _ h=>h) (Or.inl ⟨by kernel_rfl,fun wS hSw=>by (try dsimp only at hSw); go_simp⟩) hHx ?_
     refine wpB_done (by kernel_rfl) ?_ _
     go_simp
     go_wp2_with fail
     go_meet
     case rel=>exact ⟨a5,c5,rfl,HN5,HK5⟩
    ·rw [if_pos (by kernel_rfl)]
     go_simp
     have HN:Hid (NsAt w1.heap.size (wA.alloc (.cells #[.int .i64 x.op,.int .i64 x.a,.int .i64 x.b,.string x.n,.int .i64 x.v.k,.int .i64 x.v.i,.string x.v.s,.bool x.v.b,.int .i64 x.l,.int .i64 x.c] 41)) (.slice (some ⟨wA.heap.size,0,none⟩) 1 1) [x]):=Lib.hid (NsAt.new wA x HKA.out.size rfl)
     have hk2:=HKA.out.alloc HKA.out.size (.cells #[.int .i64 x.op,.int .i64 x.a,.int .i64 x.b,.string x.n,.int .i64 x.v.k,.int .i64 x.v.i,.string x.v.s,.bool x.v.b,.int .i64 x.l,.int .i64 x.c] 41)
     have hlt0:wA.heap.size < (wA.alloc (.cells #[.int .i64 x.op,.int .i64 x.a,.int .i64 x.b,.string x.n,.int .i64 x.v.k,.int .i64 x.v.i,.string x.v.s,.bool x.v.b,.int .i64 x.l,.int .i64 x.c] 41)).heap.size:=by simp
     have HK4:=Lib.hid hk2
     have HZ4:=Lib.hid (World.ownsRow.alloc HZ.out (.cells #[.int .i64 x.op,.int .i64 x.a,.int .i64 x.b,.string x.n,.int .i64 x.v.k,.int .i64 x.v.i,.string x.v.s,.bool x.v.b,.int .i64 x.l,.int .i64 x.c] 41))
     clear hk2 HZ
     have HZ:=HZ4
     clear HZ4
     generalize wA.alloc (.cells #[.int .i64 x.op,.int .i64 x.a,.int .i64 x.b,.string x.n,.int .i64 x.v.k,.int .i64 x.v.i,.string x.v.s,.bool x.v.b,.int .i64 x.l,.int .i64 x.c] 41)=wB at HN HK4 HZ ⊢
     refine hK.out _ _ (HS.out _ HK4.out) (fun hHx=>?_)
     clear hK K
     refine wpB_step (i:=2) rfl (by kernel_rfl) (fun K hK=>?_)
     rw [if_pos (by kernel_rfl)]
     refine ns_append0 _ _ rfl w1.heap.size 0 wd.heap.size rfl HZ.out _ o rfl (HO.out _ (HNB1.out.below.trans (HK4.out.mono HNB1.out.below.size))) (by omega) HK4.out.size ?_
     intro v2 wC hN2 hG2
     have HK2:=Lib.hid (HK4.out.grown hG2 HK4.out.size (fun k hk=>by cases hk; have:=HG0.out; omega))
     have HN2:=Lib.hid (ns_kept HN.out hG2 (.inr (fun e=>by have e2:wA.heap.size=wd.heap.size:=Option.some.inj e; omega)))
     have HV2:=Lib.hid hN2
     clear hN2 hG2
     refine hK.out _ _ (HS.out _ HK2.out) (fun hHx=>?_)
     clear hK K
     refine wpB_step (i:=5) rfl (by kernel_rfl) (fun K hK=>?_)
     rw [if_pos (by kernel_rfl)]
     refine ns_append1 _ _ rfl w1.heap.size w1.heap.size wA.heap.size _ o x rfl HV2.out rfl HN2.out (by omega) HK2.out.size ?_
     intro v5 w5 hN5 hG5
     have HK5:=Lib.hid (HK2.out.grown hG5 HK2.out.size (fun k hk=>(World.ownsRow.lt HV2.out k hk).1))
     obtain ⟨a5,c5,rfl⟩:=hN5.slice
     rw [← HN5L.out] at hN5 ⊢
     have HN5:=Lib.hid hN5
     clear hN5 hG5
     refine hK.out _ _ (HS.out _ HK5.out) (fun hHx=>?_)
     clear hK K
     refine wpB_take (i:=6) (v:=.slice a5 n5 c5) [] rfl (by kernel_rfl) (by kernel_rfl) (by kernel_rfl) (by kernel_rfl) (fun _ _ _ h=>h) (Or.inl ⟨by kernel_rfl,fun wS hSw=>by (try dsimp only at hSw); go_simp⟩) hHx ?_
     refine wpB_done (by kernel_rfl) ?_ _
     go_simp
     go_wp2_with fail
     go_meet
     case rel=>exact ⟨a5,c5,rfl,HN5,HK5⟩
   ·rw [if_pos (by kernel_rfl)]
    go_simp
    have HN:Hid (NsAt w1.heap.size (wd.alloc (.cells #[.int .i64 x.op,.int .i64 x.a,.int .i64 x.b,.string x.n,.int .i64 x.v.k,.int .i64 x.v.i,.string x.v.s,.bool x.v.b,.int .i64 x.l,.int .i64 x.c] 41)) (.slice (some ⟨wd.heap.size,0,none⟩) 1 1) [x]):=Lib.hid (NsAt.new wd x HK0.out.size rfl)
    have hk2:=HK0.out.alloc HK0.out.size (.cells #[.int .i64 x.op,.int .i64 x.a,.int .i64 x.b,.string x.n,.int .i64 x.v.k,.int .i64 x.v.i,.string x.v.s,.bool x.v.b,.int .i64 x.l,.int .i64 x.c] 41)
    have hlt0:wd.heap.size < (wd.alloc (.cells #[.int .i64 x.op,.int .i64 x.a,.int .i64 x.b,.string x.n,.int .i64 x.v.k,.int .i64 x.v.i,.string x.v.s,.bool x.v.b,.int .i64 x.l,.int .i64 x.c] 41)).heap.size:=by simp
    have HKA:=Lib.hid hk2
    clear hk2
    generalize wd.alloc (.cells #[.int .i64 x.op,.int .i64 x.a,.int .i64 x.b,.string x.n,.int .i64 x.v.k,.int .i64 x.v.i,.string x.v.s,.bool x.v.b,.int .i64 x.l,.int .i64 x.c] 41)=wA at HN HKA hlt0 ⊢
    refine hK.out _ _ (HS.out _ HKA.out) (fun hHx=>?_)
    clear hK K
    refine wpB_step (i:=0) rfl (by kernel_rfl) (fun K hK=>?_)
    rw [if_pos (by kernel_rfl)]
    go_simp
    have HZ:=Lib.hid (ns_made wA w1.heap.size HKA.out.size)
    have hk2:=HKA.out.alloc HKA.out.size (.cells #[] 41)
    have HN1:=Lib.hid (HN.out.below ((Below.refl _ _).alloc (Nat.le_refl _) (.cells #[] 41)))
    have HK4:=Lib.hid hk2
    have HG0:Hid (w1.heap.size ≤ wA.heap.size):=Lib.hid HKA.out.size
    clear hk2
    generalize wA.alloc (.cells #[] 41)=wB at HZ HK4 HN1 ⊢
    refine hK.out _ _ (HS.out _ HK4.out) (fun hHx=>?_)
    clear hK K
    refine wpB_step (i:=2) rfl (by kernel_rfl) (fun K hK=>?_)
    rw [if_pos (by kernel_rfl)]
    refine ns_append0 _ _ rfl w1.heap.size 0 wA.heap.size rfl HZ.out _ o rfl (HO.out _ (HNB1.out.below.trans (HK4.out.mono HNB1.out.below.size))) (by omega) HK4.out.size ?_
    intro v2 wC hN2 hG2
    have HK2:=Lib.hid (HK4.out.grown hG2 HK4.out.size (fun k hk=>by cases hk; have:=HG0.out; omega))
    have HN2:=Lib.hid (ns_kept HN1.out hG2 (.inr (fun e=>by have e2:wd.heap.size=wA.heap.size:=Option.some.inj e; omega)))
    have HV2:=Lib.hid hN2
    clear hN2 hG2
    refine hK.out _ _ (HS.out _ HK2.out) (fun hHx=>?_)
    clear hK K
    refine wpB_step (i:=5) rfl (by kernel_rfl) (fun K hK=>?_)
    rw [if_pos (by kernel_rfl)]
    refine ns_append1 _ _ rfl w1.heap.size w1.heap.size wd.heap.size _ o x rfl HV2.out rfl HN2.out (by omega) HK2.out.size ?_
    intro v5 w5 hN5 hG5
    have HK5:=Lib.hid (HK2.out.grown hG5 HK2.out.size (fun k hk=>(World.ownsRow.lt HV2.out k hk).1))
    obtain ⟨a5,c5,rfl⟩:=hN5.slice
    rw [← HN5L.out] at hN5 ⊢
    have HN5:=Lib.hid hN5
    clear hN5 hG5
    refine hK.out _ _ (HS.out _ HK5.out) (fun hHx=>?_)
    clear hK K
    refine wpB_take (i:=6) (v:=.slice a5 n5 c5) [] rfl (by kernel_rfl) (by kernel_rfl) (by kernel_rfl) (by kernel_rfl) (fun _ _ _ h=>h) (Or.inl ⟨by kernel_rfl,fun wS hSw=>by (try dsimp only at hSw); go_simp⟩) hHx ?_
    refine wpB_done (by kernel_rfl) ?_ _
    go_simp
    go_wp2_with fail
    go_meet
    case rel=>exact ⟨a5,c5,rfl,HN5,HK5⟩
  case rest =>
   obtain ⟨a5,c5,rfl,HN5,HK5⟩:=hcut
   have hn5:=HN5L.out
   obtain ⟨w5,hw5⟩:∃ u,u=wc:=⟨_,rfl⟩
   subst hw5
   have HNB5:=Lib.hid (HNB1.out.step HK5.out)
   clear HK5 HS
   have HDP:=Lib.hid (refDeep_calls w1.heap.size _ (o ++ [x]) w5 HN5.out HCL.out (by simp; omega) (o.length + 1) o.length (by omega) (by simp))
   have t0:(n5:Int) - 1=(o.length:Int):=by rw [hn5,List.length_append,List.length_singleton]; omega
   have HNN:Hid (NsAt 0 w5 (.slice a5 n5 c5) (o ++ [x])):=Lib.hid (HN5.out.base (Nat.zero_le _))
   have hn6:n5 ≤ 1000000:=by rw [hn5,List.length_append,List.length_singleton]; omega
   have hd9:depthT (o ++ [x]) o.length ≤ o.length + 1:=ref_depth_le _ _
   obtain ⟨dp,hdp⟩:∃ k,k=depthT (o ++ [x]) (o.length:Nat):=⟨_,rfl⟩
   rw [← hdp] at HDP HW hd9
   clear HN5 hn5 hdp
   go_wp2_with fail
   refine HDP.out.mono ?_
   rintro e w6 ⟨rfl,rfl⟩
   obtain ⟨p0,p1,p2,p3,p4⟩:=pl5 HNB5.out.pl
   have hpl:=HNB5.out.pl.lt
   by_cases hd:64 < dp
   case neg =>
    have t9:decide ((64:Int) < dp)=false:=decide_eq_false (by omega)
    have t10:decide (64 < dp)=false:=decide_eq_false hd
    have HV:Hid (nodeP M p n o y.op y.a y.b t y.v=(o ++ [x],p)):=Lib.hid (by rw [HW.out,if_pos (by omega)])
    have hre2:Ho w5 (w.heap.size + 1 + 1) #[.int .i64 0,.int .i64 0,.int .i64 0,.int .i64 0,.int .i64 0] 33:=HNB5.out.re
    obtain ⟨q0,q1,q2,q3,q4⟩:=pl5 hre2
    obtain ⟨f0,f1,f2,f3,f4⟩:=pl5f hre2
    have hre:=hre2.lt
    have HRE:=Lib.hid hre2
    clear hd hd9 hre2
    go_wp2_with fail
    go_region
    all_goals (go_wp2_with fail)
    all_goals (try simp only [Exit.inBlock,Exit.then])
    all_goals (
     refine bodyPost_ret (v:=nodR (.slice a5 n5 c5) p) ?_ rfl ((fun k=>by rw [HV.out]; exact k:NdPost (o ++ [x],p) w _ _ → NdPost (nodeP M p n o y.op y.a y.b t y.v) w _ _) ⟨_,rfl,?_,?_⟩)
     ·refine cs_result2 rfl _ _ _ (a:=⟨w.heap.size + 1 + 1,0,none⟩) (by rfl) (by rfl) ?_
      unfold plV
      go_simp
     ·refine NsAt.below ?_ ((Below.refl _ _).drew)
      refine HNN.out.heap (fun k c=>?_)
      refine Kp.block (S:=K1 (w.heap.size + 1 + 1)) ?_ k c.lt (fun e=>c.ne HRE.out.cblk (by decide) e)
      repeat' (first | (with_reducible exact Kp.refl _ _) | with_reducible refine kp_set1 ?_ _ _)
     ·repeat' (first | (with_reducible exact HNB5.out.below) | with_reducible refine Below.setCell ?_ (by simp <;> omega) _ | with_reducible refine Below.drew ?_))
   case pos =>
    have t9:decide ((64:Int) < dp)=true:=decide_eq_true (by omega)
    have t10:decide (64 < dp)=true:=decide_eq_true hd
    have HV:Hid (nodeP M p n o y.op y.a y.b t y.v=(o ++ [x],⟨p.a,13,tl_,tc_,p.op⟩)):=Lib.hid (by rw [HW.out,if_neg (by omega)])
    obtain ⟨f0,f1,f2,f3,f4⟩:=pl5f HNB5.out.pl
    obtain ⟨x0,x1,x2,x3,x4,x5,x6,x7,x8,x9⟩:=ex_cells HNB5.out.nx
    rw [HXL.out] at x8
    rw [HXC.out] at x9
    have hnx:=HNB5.out.nx.lt
    clear hd hd9
    go_upto_region 10 with fail
    have hP7:Ho (((w5.setCell ⟨w.heap.size,1,none⟩ (.int .i64 13)).setCell ⟨w.heap.size,2,none⟩ (.int .i64 (tl_:Nat))).setCell ⟨w.heap.size,3,none⟩ (.int .i64 (tc_:Nat))) w.heap.size #[.int .i64 (p.a:Nat),.int .i64 13,.int .i64 (tl_:Nat),.int .i64 (tc_:Nat),.int .i64 p.op] 33:=Ho.set (Ho.set (Ho.set HNB5.out.pl rfl) rfl) rfl
    have hR7:Ho (((w5.setCell ⟨w.heap.size,1,none⟩ (.int .i64 13)).setCell ⟨w.heap.size,2,none⟩ (.int .i64 (tl_:Nat))).setCell ⟨w.heap.size,3,none⟩ (.int .i64 (tc_:Nat))) (w.heap.size + 2) #[.int .i64 0,.int .i64 0,.int .i64 0,.int .i64 0,.int .i64 0] 33:=((HNB5.out.re.other (by omega)).other (by omega)).other (by omega)
    have hB7:Below w.heap.size w (((w5.setCell ⟨w.heap.size,1,none⟩ (.int .i64 13)).setCell ⟨w.heap.size,2,none⟩ (.int .i64 (tl_:Nat))).setCell ⟨w.heap.size,3,none⟩ (.int .i64 (tc_:Nat))):=((HNB5.out.below.setCell (Nat.le_refl _) _).setCell (Nat.le_refl _) _).setCell (Nat.le_refl _) _
    have hN7:NsAt 0 (((w5.setCell ⟨w.heap.size,1,none⟩ (.int .i64 13)).setCell ⟨w.heap.size,2,none⟩ (.int .i64 (tl_:Nat))).setCell ⟨w.heap.size,3,none⟩ (.int .i64 (tc_:Nat))) (.slice a5 n5 c5) (o ++ [x]):=by
     refine HNN.out.heap (fun k c=>?_)
     refine Kp.block (S:=K1 w.heap.size) ?_ k c.lt (fun e=>c.ne HNB5.out.pl.cblk (by decide) e)
     repeat' (first | (with_reducible exact Kp.refl _ _) | with_reducible refine kp_set1 ?_ _ _)
    generalize ((w5.setCell ⟨w.heap.size,1,none⟩ (.int .i64 13)).setCell ⟨w.heap.size,2,none⟩ (.int .i64 (tl_:Nat))).setCell ⟨w.heap.size,3,none⟩ (.int .i64 (tc_:Nat))=w7 at hP7 hR7 hB7 hN7 ⊢
    clear p0 p1 p2 p3 p4 hpl f0 f1 f2 f3 f4 x0 x1 x2 x3 x4 x5 x6 x7 x8 x9 hnx
    have hR8:Ho w7 (w.heap.size + 1 + 1) #[.int .i64 0,.int .i64 0,.int .i64 0,.int .i64 0,.int .i64 0] 33:=hR7
    have HN7:=Lib.hid hN7
    have HB7:=Lib.hid hB7
    have HRE:=Lib.hid hR8
    obtain ⟨p0,p1,p2,p3,p4⟩:=pl5 hP7
    obtain ⟨q0,q1,q2,q3,q4⟩:=pl5 hR8
    obtain ⟨f0,f1,f2,f3,f4⟩:=pl5f hR8
    have hpl:=hP7.lt
    have hre:=hR8.lt
    clear hP7 hR7 hB7 hN7 hR8
    go_region
    all_goals (go_wp2_with fail)
    all_goals (try simp only [Exit.inBlock,Exit.then])
    all_goals (
     refine bodyPost_ret (v:=nodR (.slice a5 n5 c5) ⟨p.a,13,tl_,tc_,p.op⟩) ?_ rfl ((fun k=>by rw [HV.out]; exact k:NdPost (o ++ [x],⟨p.a,13,tl_,tc_,p.op⟩) w _ _ → NdPost (nodeP M p n o y.op y.a y.b t y.v) w _ _) ⟨_,rfl,?_,?_⟩)
     ·refine cs_result2 rfl _ _ _ (a:=⟨w.heap.size + 1 + 1,0,none⟩) (by rfl) (by rfl) ?_
      unfold plV
      go_simp
     ·refine NsAt.below ?_ ((Below.refl _ _).drew)
      refine HN7.out.heap (fun k c=>?_)
      refine Kp.block (S:=K1 (w.heap.size + 1 + 1)) ?_ k c.lt (fun e=>c.ne HRE.out.cblk (by decide) e)
      repeat' (first | (with_reducible exact Kp.refl _ _) | with_reducible refine kp_set1 ?_ _ _)
     ·repeat' (first | (with_reducible exact HB7.out) | with_reducible refine Below.setCell ?_ (by simp <;> omega) _ | with_reducible refine Below.drew ?_))
structure SgAt (w:World) (gs gi:Nat) (L:List (List UInt8 × Nat)):Prop where
 ls:gs < w.heap.size
 li:gi < w.heap.size
 at':∀ j s o,L[j]? = some (s,o) → w.cell? ⟨gs,j,none⟩=some (.string ⟨s.toArray⟩) ∧ w.cell? ⟨gi,j,none⟩=some (.int .i64 (o:Nat))
theorem SgAt.below {w W:World} {gs gi:Nat} {L:List (List UInt8 × Nat)} (h:SgAt w gs gi L) (hb:Below w.heap.size w W):SgAt W gs gi L :=
 ⟨Nat.lt_of_lt_of_le h.ls hb.size,Nat.lt_of_lt_of_le h.li hb.size,fun j s o hj=>⟨(hb.cell (p:=⟨gs,j,none⟩) h.ls).trans (h.at' j s o hj).1,(hb.cell (p:=⟨gi,j,none⟩) h.li).trans (h.at' j s o hj).2⟩⟩
theorem first_drop {M:List Tk} {p:Pl} {L:List (List UInt8 × Nat)} {j:Nat} {s:List UInt8} {o:Nat} (h:L[j]? = some (s,o)):firstOp M p (L.drop j)=if isP M p s=true then o else firstOp M p (L.drop (j + 1)):=by
 obtain ⟨hj,e⟩:=List.getElem?_eq_some_iff.1 h
 rw [List.drop_eq_getElem_cons hj,e,firstOp]
set_option maxHeartbeats 8000000 in
set_option maxRecDepth 100000 in
theorem refSign_calls (ta:Option Addr) (tc gs gi n:Nat) (M:List Tk) (p:Pl) (L:List (List UInt8 × Nat)) (w:World) (h:TkIn w 37 ta M.length M) (hM:M.length ≤ 1000000) (hp:p.a ≤ M.length) (hs:SgAt w gs gi L) (hn:n=L.length) (hl:n ≤ 100) :
  Calls Tryz.prog 66 #[.slice ta M.length tc,plV p,.slice (some ⟨gs,0,none⟩) n n,.slice (some ⟨gi,0,none⟩) n n] w fun e w'=>e=.returned (.int .i64 (firstOp M p L:Nat)) ∧ Below w.heap.size w w':=by
 have HIS:=Lib.hid (fun s w1 (h1:Below w.heap.size w w1)=>refIs_calls ta tc M p s w1 (h.below h1) hM hp)
 have HSG:=Lib.hid (fun w1 (h1:Below w.heap.size w w1)=>hs.below h1)
 have HN:=Lib.hid hn
 have HB0:Hid (Below w.heap.size w (w.alloc (.cells #[.int .i64 (p.a:Nat),.int .i64 (p.er:Nat),.int .i64 (p.line:Nat),.int .i64 (p.col:Nat),.int .i64 p.op] 33))):=Lib.hid ((Below.refl _ _).alloc (Nat.le_refl _) _)
 have HX0:Hid (Ho (w.alloc (.cells #[.int .i64 (p.a:Nat),.int .i64 (p.er:Nat),.int .i64 (p.line:Nat),.int .i64 (p.col:Nat),.int .i64 p.op] 33)) w.heap.size #[.int .i64 (p.a:Nat),.int .i64 (p.er:Nat),.int .i64 (p.line:Nat),.int .i64 (p.col:Nat),.int .i64 p.op] 33):=Lib.hid (Ho.new _ _ _ rfl)
 clear h hs hn hM hp
 generalize M.length=ml at HIS ⊢
 unfold plV at HIS
 unfold plV
 go_enter Tryz.func66,Tryz.ntmps66
 go_wp2_with fail
 generalize w.alloc (.cells #[.int .i64 (p.a:Nat),.int .i64 (p.er:Nat),.int .i64 (p.line:Nat),.int .i64 (p.col:Nat),.int .i64 p.op] 33)=w0 at HB0 HX0 ⊢
 go_loopw [9] (fun i wr=>∃ (j:Nat),j ≤ n ∧ i=.int .i64 j ∧ Hid (firstOp M p L=firstOp M p (L.drop j)) ∧ Hid (Ho wr w.heap.size #[.int .i64 (p.a:Nat),.int .i64 (p.er:Nat),.int .i64 (p.line:Nat),.int .i64 (p.col:Nat),.int .i64 p.op] 33) ∧ Hid (Below w.heap.size w wr)) (fun i _=>n - (intOf i).toNat)
 case atStart=>exact ⟨0,Nat.zero_le _,rfl,Lib.hid (by rw [List.drop_zero]),HX0,HB0⟩
 case round =>
  clear HB0 HX0
  obtain ⟨j,hj,rfl,HF,HX,HB⟩:=hrel
  by_cases hlt:j < n
  case neg =>
   obtain rfl:j=n:=by omega
   have HV:Hid (firstOp M p L=0):=Lib.hid (by rw [HF.out,HN.out,List.drop_length]; rfl)
   clear hj
   go_wp2_with fail
   go_ret
   exact ⟨by rw [HV.out]; rfl,HB.out⟩
  case pos =>
   obtain ⟨so,hso⟩:∃ so,L[j]? = some so:=⟨L[j]'(by rw [← HN.out]; exact hlt),List.getElem?_eq_getElem _⟩
   obtain ⟨s,o⟩:=so
   have HD:=Lib.hid (first_drop (M:=M) (p:=p) hso)
   have HC:=Lib.hid (fun w1 hb=>(HSG.out w1 hb).at' j s o hso)
   clear hso
   have hgs:=(HSG.out wr HB.out).ls
   have hgi:=(HSG.out wr HB.out).li
   obtain ⟨b,hb⟩:∃ b,b=isP M p s:=⟨_,rfl⟩
   have HI:Hid (∀ w1,Below w.heap.size w w1 → Calls Tryz.prog 16 #[.slice ta ml tc,.agg #[.int .i64 (p.a:Nat),.int .i64 (p.er:Nat),.int .i64 (p.line:Nat),.int .i64 (p.col:Nat),.int .i64 p.op],.string ⟨s.toArray⟩] w1 fun e w'=>e=.returned (.bool b) ∧ Below w1.heap.size w1 w'):=Lib.hid (fun w1 h1=>by
    have:=HIS.out ⟨s.toArray⟩ w1 h1
    rw [hb]
    exact this)
   rw [← hb] at HD
   have HS:Hid (∀ W,Ho W w.heap.size #[.int .i64 (p.a:Nat),.int .i64 (p.er:Nat),.int .i64 (p.line:Nat),.int .i64 (p.col:Nat),.int .i64 p.op] 33 → Below w.heap.size w W → (W.cell? ⟨w.heap.size,0,none⟩=some (.int .i64 (p.a:Nat)) ∧ W.cell? ⟨w.heap.size,1,none⟩=some (.int .i64 (p.er:Nat)) ∧ W.cell? ⟨w.heap.size,2,none⟩=some (.int .i64 (p.line:Nat)) ∧ W.cell? ⟨w.heap.size,3,none⟩=some (.int .i64 (p.col:Nat)) ∧ W.cell? ⟨w.heap.size,4,none⟩=some (.int .i64 p.op) ∧ W.cell? ⟨gs,j,none⟩=some (.string ⟨s.toArray⟩))):=Lib.hid (fun W h1 h2=>⟨(pl5 h1).1,(pl5 h1).2.1,(pl5 h1).2.2.1,(pl5 h1).2.2.2.1,(pl5 h1).2.2.2.2,(HC.out W h2).1⟩)
   clear hb HIS
   go_upto_region 4 with fail
   refine wp_region_B (S:=(fun W=>W.cell? ⟨w.heap.size,0,none⟩=some (.int .i64 (p.a:Nat)) ∧ W.cell? ⟨w.heap.size,1,none⟩=some (.int .i64 (p.er:Nat)) ∧ W.cell? ⟨w.heap.size,2,none⟩=some (.int .i64 (p.line:Nat)) ∧ W.cell? ⟨w.heap.size,3,none⟩=some (.int .i64 (p.col:Nat)) ∧ W.cell? ⟨w.heap.size,4,none⟩=some (.int .i64 p.op) ∧ W.cell? ⟨gs,j,none⟩=some (.string ⟨s.toArray⟩))) [] (by kernel_rfl) (HS.out wr.drew (HX.out.below (Below.refl wr.heap.size wr).drew) HB.out.drew) (fun hH0=>?_)
   refine wpB_take (i:=0) (v:=.slice ta ml tc) [] rfl (by kernel_rfl) (by kernel_rfl) (by kernel_rfl) (by kernel_rfl) (fun _ _ _ h=>h) (Or.inl ⟨by kernel_rfl,fun wS hSw=>by (try dsimp only at hSw); go_simp⟩) hH0 ?_
   refine wpB_take (i:=1) (v:=.agg #[.int .i64 (p.a:Nat),.int .i64 (p.er:Nat),.int .i64 (p.line:Nat),.int .i64 (p.col:Nat),.int .i64 p.op]) [] rfl (by kernel_rfl) (by kernel_rfl) (by kernel_rfl) (by kernel_rfl) (fun _ _ _ h=>h) (Or.inl ⟨by kernel_rfl,fun wS hSw=>by (try dsimp only at hSw); go_simp⟩) hH0 ?_
   refine wpB_take (i:=2) (v:=.slice (some ⟨gs,0,none⟩) n n) [] rfl (by kernel_rfl) (by kernel_rfl) (by kernel_rfl) (by kernel_rfl) (fun _ _ _ h=>h) (Or.inl ⟨by kernel_rfl,fun wS hSw=>by (try dsimp only at hSw); go_simp⟩) hH0 ?_
   refine wpB_take (i:=3) (v:=.int .i64 (j:Nat)) [] rfl (by kernel_rfl) (by kernel_rfl) (by kernel_rfl) (by kernel_rfl) (fun _ _ _ h=>h) (Or.inl ⟨by kernel_rfl,fun wS hSw=>by (try dsimp only at hSw); go_simp⟩) hH0 ?_
   refine wpB_take (i:=4) (v:=.pointer (some ⟨gs,j,none⟩)) [] rfl (by kernel_rfl) (by kernel_rfl) (by kernel_rfl) (by kernel_rfl) (fun _ _ _ h=>h) (Or.inl ⟨by kernel_rfl,fun wS hSw=>by (try dsimp only at hSw); go_simp⟩) hH0 ?_
   refine wpB_take (i:=5) (v:=.string ⟨s.toArray⟩) [] rfl (by kernel_rfl) (by kernel_rfl) (by kernel_rfl) (by kernel_rfl) (fun _ _ _ h=>h) (Or.inl ⟨by kernel_rfl,fun wS hSw=>by (try dsimp only at hSw); go_simp⟩) hH0 ?_
   refine wpB_step (i:=6) rfl (by kernel_rfl) (fun K hK=>?_)
   rw [if_pos (by kernel_rfl)]
   go_simp
   refine (HI.out _ HB.out.drew).mono ?_
   rintro e w1 ⟨rfl,k1⟩
   have k2:Below wr.heap.size wr w1:=((Below.refl wr.heap.size wr).drew).trans k1
   have HX1:=Lib.hid (HX.out.below k2)
   have HB1:=Lib.hid (HB.out.trans (k2.mono HB.out.size))
   clear k1 k2
   refine hK.out _ _ (HS.out w1 HX1.out HB1.out) (fun hH1=>?_)
   clear hK K
   refine wpB_done (by kernel_rfl) ?_ _
   go_simp
   cases b with
   | true =>
    have HV:Hid (firstOp M p L=o):=Lib.hid (by rw [HF.out,HD.out]; rfl)
    have c1:=(HC.out w1 HB1.out).2
    have hgi1:=(HSG.out w1 HB1.out).li
    go_wp2_with fail
    go_ret
    exact ⟨by rw [HV.out]; rfl,HB1.out⟩
   | false =>
    go_wp2_with fail
    go_roundw
    case rel=>exact ⟨j + 1,hlt,by go_num,Lib.hid (by rw [HF.out,HD.out]; rfl),HX1,HB1⟩
    case measure=>simp [intOf]; omega
theorem wpList_ns {w:World} {ops:Array Oper} {rest:List Oper} {o:Oper} {a:Act} {Q:Exit → Act → World → Prop} (hgd:o.guard=none) (s x:Operand)
  (ho:o.op=.call { callee:=.builtin .append,args:=#[s,x],argTypes:=#[23,23] }) (base:Nat) (v:Value) (L N:List Ex) (hs:a.eval s=v) (hL:NsAt base w v L) (g m c:Nat) (hx:a.eval x=.slice (some ⟨g,0,none⟩) m c) (hm:m=N.length)
  (hN:∀ j u,(exCs N)[j]? = some u → w.cell? ((⟨g,0,none⟩:Addr).add j)=some u) (hl:L.length + N.length ≤ 1000000) (hbase:base ≤ w.heap.size) (B:Nat) (w0:World) (hb:Below B w0 w) (hB:B ≤ base) (r:List Ex) (hr:r=L ++ N)
  (h:∀ v' w',Hid (NsAt base w' v' r) → Hid (Below B w0 w') → wpList Tryz.prog ops Q rest (a.put o.dst v') w'):wpList Tryz.prog ops Q (o :: rest) a w:=by
 subst hr hm
 obtain ⟨i0,hi,z0',z1,z2⟩:=cs_parts infoEx
 refine wpList_append_own _ hgd s x 23 ho base 41 i0 _ 10 96 Tryz.underlying23 hi z0' z1 z2 rfl (by decide) v L.length (exCs L) hs hL ⟨g,0,none⟩ N.length c (exCs N) hx (exCs_len N) hN (exCs_one N) (by unfold maxLen; omega) (by omega) hbase ?_
 intro v' w' h1 h2 _
 refine h v' w' (Lib.hid ?_) (Lib.hid (hb.grown h2 (Nat.le_trans hB hbase) (fun k hk=>Nat.le_trans hB (World.ownsRow.lt hL k hk).1)))
 unfold NsAt
 rw [List.length_append,exCs_app]
 exact h1
theorem exCs_take (L:List Ex) (n:Nat):∀ (j:Nat) (u:Value),(exCs (L.take n))[j]? = some u → (exCs L)[j]? = some u:=by
 intro j u hj
 have e:exCs L=exCs (L.take n) ++ exCs (L.drop n):=by rw [← exCs_app,List.take_append_drop]
 rw [e,List.getElem?_append_left (List.getElem?_eq_some_iff.1 hj).1]
 exact hj
set_option maxHeartbeats 16000000 in
set_option maxRecDepth 100000 in
theorem refTurned_calls (v:Value) (o:List Ex) (f m:Nat) (w:World) (ho:NsAt 0 w v o) (hfm:f < m) (hm:m ≤ o.length) (hl:o.length ≤ 800000) (hx:∀ x ∈ o,(4 ≤ x.op → x.op ≤ 16 → -1000000 ≤ x.a ∧ x.a ≤ 1000000) ∧ (5 < x.op → x.op ≤ 16 → -1000000 ≤ x.b ∧ x.b ≤ 1000000)) :
  Calls Tryz.prog 67 #[v,.int .i64 (f:Nat),.int .i64 (m:Nat)] w fun e w'=>∃ v',e=.returned v' ∧ NsAt 0 w' v' (turnedE o f m) ∧ Below w.heap.size w w':=by
 have HO:=Lib.hid (fun W (hb:Below w.heap.size w W)=>ho.below hb)
 obtain ⟨g,c,rfl,_,_,hcell⟩:=ho.block (fun e=>by rw [e] at hm; simp at hm; omega)
 have hcap:o.length ≤ c ∧ c ≤ 9223372036854775807:=by
  obtain ⟨_,hown⟩:=ho
  rcases hown with ⟨e,_⟩ | ⟨g',c',cur,e,_,_,h3,h4,_⟩
  ·cases e
  ·cases e
   exact ⟨h3,by unfold maxLen at h4; omega⟩
 obtain ⟨hcap1,hcap2⟩:=hcap
 have hg:g < w.heap.size:=by
  obtain ⟨g',_,e,_,hc,_⟩:=ho.block (fun e=>by rw [e] at hm; simp at hm; omega)
  cases e
  exact hc.lt
 have HC:=Lib.hid hcell
 have HX:=Lib.hid hx
 obtain ⟨n,hn⟩:∃ n,n=o.length:=⟨_,rfl⟩
 have HN:=Lib.hid hn
 have HMV:Hid (∀ (x:Ex) (d:Int) (w1:World),x ∈ o → (-1000000 ≤ d ∧ d ≤ 1000000) → Calls Tryz.prog 82 #[exV x,.int .i64 d] w1 fun e w'=>e=.returned (exV (movedE x d)) ∧ Below w1.heap.size w1 w'):=Lib.hid (fun x d w1 h1 h2=>refMoved_calls x d w1 (hx x h1).1 (hx x h1).2 h2)
 rw [← hn] at hm hl hcap1 ⊢
 have hBm:=(Below.refl w.heap.size w).alloc (Nat.le_refl _) (.cells #[] 41)
 have HBm:=Lib.hid hBm
 have HZ:Hid (NsAt w.heap.size (w.alloc (.cells #[] 41)) (.slice (some ⟨w.heap.size,0,none⟩) 0 0) []):=Lib.hid (World.ownsRow_made w #[] 0 (Nat.le_refl _) (Nat.zero_le _) (by simp))
 have HC1:Hid (∀ j u,(exCs (o.take f))[j]? = some u → (w.alloc (.cells #[] 41)).cell? ((⟨g,0,none⟩:Addr).add j)=some u):=Lib.hid (fun j u hj=>cells_below HC.out hg ((Below.refl _ _).alloc (Nat.le_refl _) _) j u (exCs_take o f j u hj))
 have HTL:Hid (f=(o.take f).length):=Lib.hid (by rw [List.length_take,← hn]; omega)
 have hfc:f ≤ c:=by omega
 have hfn:f ≤ 800000:=by omega
 clear ho hcell hx hn hBm
 go_enter Tryz.func67,Tryz.ntmps67
 go_wp2_with (at_builtin; refine wpList_ns rfl _ _ rfl w.heap.size _ [] (o.take f) rfl HZ.out g f c rfl HTL.out HC1.out (by rw [← HTL.out]; simp; omega) HBm.out.size w.heap.size w HBm.out (Nat.le_refl _) (o.take f) rfl ?_; intro v2 w2 HR2 HB2)
 clear HZ HC1 HBm
 go_loopw [7,8] (fun v i wr=>∃ (k j:Nat),j=m + k ∧ j ≤ n ∧ i=.int .i64 (j:Nat) ∧ Hid (NsAt w.heap.size wr v (o.take f ++ ((o.drop m).take k).map (fun x=>movedE x ((f:Int) - (m:Nat))))) ∧ Hid (Below w.heap.size w wr)) (fun _ i _=>n - (intOf i).toNat)
 case atStart=>exact ⟨0,_,rfl,by omega,rfl,Lib.hid (by rw [List.take_zero,List.map_nil,List.append_nil]; exact HR2.out),HB2⟩
 case round =>
  clear HR2 HB2
  obtain ⟨k,j,jh,hk,rfl,HR,HB⟩:=hrel
  by_cases hlt:j < n
  case pos =>
   obtain ⟨x,hx⟩:∃ x,o[j]? = some x:=⟨o[j]'(by rw [← HN.out]; omega),List.getElem?_eq_getElem _⟩
   have hxm:=List.mem_of_getElem? hx
   obtain ⟨g',c',e9,_,hcx⟩:=(HO.out wr HB.out).node hx
   cases e9
   have c0:wr.cell? ⟨g,j * 10,none⟩=some (.int .i64 x.op):=hcx 0 _ rfl
   have c1:wr.cell? ⟨g,j * 10 + 1,none⟩=some (.int .i64 x.a):=hcx 1 _ rfl
   have c2:wr.cell? ⟨g,j * 10 + 2,none⟩=some (.int .i64 x.b):=hcx 2 _ rfl
   have c3:wr.cell? ⟨g,j * 10 + 3,none⟩=some (.string x.n):=hcx 3 _ rfl
   have c4:wr.cell? ⟨g,j * 10 + 4,none⟩=some (.int .i64 x.v.k):=hcx 4 _ rfl
   have c5:wr.cell? ⟨g,j * 10 + 5,none⟩=some (.int .i64 x.v.i):=hcx 5 _ rfl
   have c6:wr.cell? ⟨g,j * 10 + 6,none⟩=some (.string x.v.s):=hcx 6 _ rfl
   have c7:wr.cell? ⟨g,j * 10 + 7,none⟩=some (.bool x.v.b):=hcx 7 _ rfl
   have c8:wr.cell? ⟨g,j * 10 + 8,none⟩=some (.int .i64 x.l):=hcx 8 _ rfl
   have c9:wr.cell? ⟨g,j * 10 + 9,none⟩=some (.int .i64 x.c):=hcx 9 _ rfl
   have hgr:g < wr.heap.size:=by have:=HB.out.size; omega
   have HSN:Hid (((o.drop m).take (k + 1)).map (fun x=>movedE x ((f:Int) - (m:Nat)))=((o.drop m).take k).map (fun x=>movedE x ((f:Int) - (m:Nat))) ++ [movedE x ((f:Int) - (m:Nat))]):=Lib.hid (map_snoc (by rw [List.getElem?_drop,← jh]; exact hx))
   obtain ⟨y,hy⟩:∃ y,y=movedE x ((f:Int) - (m:Nat)):=⟨_,rfl⟩
   have HM1:=HMV.out x ((f:Int) - (m:Nat)) wr hxm (by omega)
   rw [← hy] at HM1 HSN
   have HM1:=Lib.hid HM1
   unfold exV at HM1
   clear hx hxm hcx hy
   have HJ:=Lib.hid jh
   clear jh
   go_wp2_with fail
   refine HM1.out.mono ?_
   rintro e w1 ⟨rfl,k1⟩
   have hB1:=HB.out.trans (k1.mono HB.out.size)
   have HY:Hid (NsAt w.heap.size (w1.alloc (.cells #[.int .i64 y.op,.int .i64 y.a,.int .i64 y.b,.string y.n,.int .i64 y.v.k,.int .i64 y.v.i,.string y.v.s,.bool y.v.b,.int .i64 y.l,.int .i64 y.c] 41)) (.slice (some ⟨w1.heap.size,0,none⟩) 1 1) [y]):=Lib.hid (NsAt.new w1 y hB1.size rfl)
   have HYC:Hid (∀ j u,(exCs [y])[j]? = some u → (w1.alloc (.cells #[.int .i64 y.op,.int .i64 y.a,.int .i64 y.b,.string y.n,.int .i64 y.v.k,.int .i64 y.v.i,.string y.v.s,.bool y.v.b,.int .i64 y.l,.int .i64 y.c] 41)).cell? ((⟨w1.heap.size,0,none⟩:Addr).add j)=some u):=Lib.hid (by
    obtain ⟨g',c',e9,_,_,hc⟩:=HY.out.block (by simp)
    cases e9
    exact hc)
   have HR1:=Lib.hid ((HR.out.below k1).below ((Below.refl w1.heap.size w1).alloc (Nat.le_refl _) (.cells #[.int .i64 y.op,.int .i64 y.a,.int .i64 y.b,.string y.n,.int .i64 y.v.k,.int .i64 y.v.i,.string y.v.s,.bool y.v.b,.int .i64 y.l,.int .i64 y.c] 41)))
   have HB1:=Lib.hid (hB1.alloc hB1.size (.cells #[.int .i64 y.op,.int .i64 y.a,.int .i64 y.b,.string y.n,.int .i64 y.v.k,.int .i64 y.v.i,.string y.v.s,.bool y.v.b,.int .i64 y.l,.int .i64 y.c] 41))
   clear k1 hB1 c0 c1 c2 c3 c4 c5 c6 c7 c8 c9 HM1
   have hlen:(o.take f ++ ((o.drop m).take k).map (fun x=>movedE x ((f:Int) - (m:Nat)))).length + 1 ≤ 900000:=by
    have:=HTL.out
    have:=HJ.out
    simp only [List.length_append,List.length_map,List.length_take,List.length_drop,← HN.out]
    omega
   have HLN:=Lib.hid hlen
   clear hlen
   go_wp2_with (at_builtin; refine wpList_ns rfl _ _ rfl w.heap.size _ (o.take f ++ ((o.drop m).take k).map (fun x=>movedE x ((f:Int) - (m:Nat)))) [y] rfl HR1.out w1.heap.size 1 1 rfl rfl HYC.out (by have:=HLN.out; simp only [List.length_singleton]; omega) HB1.out.size w.heap.size w HB1.out (Nat.le_refl _) _ rfl ?_; intro v3 w3 HR3 HB3)
   go_roundw
   case rel=>exact ⟨k + 1,j + 1,by rw [HJ.out]; omega,hlt,by go_num,Lib.hid (by rw [HSN.out,← List.append_assoc]; exact HR3.out),HB3⟩
   case measure=>simp [intOf]; omega
  case neg =>
   have HA:Hid (o.take f ++ ((o.drop m).take k).map (fun x=>movedE x ((f:Int) - (m:Nat)))=o.take f ++ (o.drop m).map (fun x=>movedE x ((f:Int) - (m:Nat)))):=Lib.hid (by rw [List.take_of_length_le (l:=o.drop m) (by rw [List.length_drop,← HN.out]; omega)])
   have hmk:j=n:=by omega
   rw [HA.out] at HR
   clear HA hk jh
   go_wp2_with fail
   clear hmk hlt
   go_loopw [7,9] (fun v i wr=>∃ (k q:Nat),q=f + k ∧ q ≤ m ∧ i=.int .i64 (q:Nat) ∧ Hid (NsAt w.heap.size wr v (o.take f ++ (o.drop m).map (fun x=>movedE x ((f:Int) - (m:Nat))) ++ ((o.drop f).take k).map (fun x=>movedE x ((n:Int) - (m:Nat))))) ∧ Hid (Below w.heap.size w wr)) (fun _ i _=>m - (intOf i).toNat)
   case atStart=>exact ⟨0,_,rfl,by omega,rfl,Lib.hid (by rw [List.take_zero,List.map_nil,List.append_nil]; exact HR.out),HB⟩
   case round =>
    clear HR HB
    obtain ⟨k,q,qh,hk,rfl,HR,HB⟩:=hrel
    by_cases hlt:q < m
    case pos =>
     obtain ⟨x,hx⟩:∃ x,o[q]? = some x:=⟨o[q]'(by rw [← HN.out]; omega),List.getElem?_eq_getElem _⟩
     have hxm:=List.mem_of_getElem? hx
     obtain ⟨g',c',e9,_,hcx⟩:=(HO.out wr HB.out).node hx
     cases e9
     have c0:wr.cell? ⟨g,q * 10,none⟩=some (.int .i64 x.op):=hcx 0 _ rfl
     have c1:wr.cell? ⟨g,q * 10 + 1,none⟩=some (.int .i64 x.a):=hcx 1 _ rfl
     have c2:wr.cell? ⟨g,q * 10 + 2,none⟩=some (.int .i64 x.b):=hcx 2 _ rfl
     have c3:wr.cell? ⟨g,q * 10 + 3,none⟩=some (.string x.n):=hcx 3 _ rfl
     have c4:wr.cell? ⟨g,q * 10 + 4,none⟩=some (.int .i64 x.v.k):=hcx 4 _ rfl
     have c5:wr.cell? ⟨g,q * 10 + 5,none⟩=some (.int .i64 x.v.i):=hcx 5 _ rfl
     have c6:wr.cell? ⟨g,q * 10 + 6,none⟩=some (.string x.v.s):=hcx 6 _ rfl
     have c7:wr.cell? ⟨g,q * 10 + 7,none⟩=some (.bool x.v.b):=hcx 7 _ rfl
     have c8:wr.cell? ⟨g,q * 10 + 8,none⟩=some (.int .i64 x.l):=hcx 8 _ rfl
     have c9:wr.cell? ⟨g,q * 10 + 9,none⟩=some (.int .i64 x.c):=hcx 9 _ rfl
     have hgr:g < wr.heap.size:=by have:=HB.out.size; omega
     have HSN:Hid (((o.drop f).take (k + 1)).map (fun x=>movedE x ((n:Int) - (m:Nat)))=((o.drop f).take k).map (fun x=>movedE x ((n:Int) - (m:Nat))) ++ [movedE x ((n:Int) - (m:Nat))]):=Lib.hid (map_snoc (by rw [List.getElem?_drop,← qh]; exact hx))
     obtain ⟨y,hy⟩:∃ y,y=movedE x ((n:Int) - (m:Nat)):=⟨_,rfl⟩
     have HM1:=HMV.out x ((n:Int) - (m:Nat)) wr hxm (by omega)
     rw [← hy] at HM1 HSN
     have HM1:=Lib.hid HM1
     unfold exV at HM1
     clear hx hxm hcx hy
     have HJ:=Lib.hid qh
     clear qh
     go_wp2_with fail
     refine HM1.out.mono ?_
     rintro e w1 ⟨rfl,k1⟩
     have hB1:=HB.out.trans (k1.mono HB.out.size)
     have HY:Hid (NsAt w.heap.size (w1.alloc (.cells #[.int .i64 y.op,.int .i64 y.a,.int .i64 y.b,.string y.n,.int .i64 y.v.k,.int .i64 y.v.i,.string y.v.s,.bool y.v.b,.int .i64 y.l,.int .i64 y.c] 41)) (.slice (some ⟨w1.heap.size,0,none⟩) 1 1) [y]):=Lib.hid (NsAt.new w1 y hB1.size rfl)
     have HYC:Hid (∀ j u,(exCs [y])[j]? = some u → (w1.alloc (.cells #[.int .i64 y.op,.int .i64 y.a,.int .i64 y.b,.string y.n,.int .i64 y.v.k,.int .i64 y.v.i,.string y.v.s,.bool y.v.b,.int .i64 y.l,.int .i64 y.c] 41)).cell? ((⟨w1.heap.size,0,none⟩:Addr).add j)=some u):=Lib.hid (by
      obtain ⟨g',c',e9,_,_,hc⟩:=HY.out.block (by simp)
      cases e9
      exact hc)
     have HR1:=Lib.hid ((HR.out.below k1).below ((Below.refl w1.heap.size w1).alloc (Nat.le_refl _) (.cells #[.int .i64 y.op,.int .i64 y.a,.int .i64 y.b,.string y.n,.int .i64 y.v.k,.int .i64 y.v.i,.string y.v.s,.bool y.v.b,.int .i64 y.l,.int .i64 y.c] 41)))
     have HB1:=Lib.hid (hB1.alloc hB1.size (.cells #[.int .i64 y.op,.int .i64 y.a,.int .i64 y.b,.string y.n,.int .i64 y.v.k,.int .i64 y.v.i,.string y.v.s,.bool y.v.b,.int .i64 y.l,.int .i64 y.c] 41))
     clear k1 hB1 c0 c1 c2 c3 c4 c5 c6 c7 c8 c9 HM1
     have hlen:(o.take f ++ (o.drop m).map (fun x=>movedE x ((f:Int) - (m:Nat))) ++ ((o.drop f).take k).map (fun x=>movedE x ((n:Int) - (m:Nat)))).length + 1 ≤ 900000:=by
      have:=HTL.out
      have:=HJ.out
      simp only [List.length_append,List.length_map,List.length_take,List.length_drop,← HN.out]
      omega
     have HLN:=Lib.hid hlen
     clear hlen
     go_wp2_with (at_builtin; refine wpList_ns rfl _ _ rfl w.heap.size _ (o.take f ++ (o.drop m).map (fun x=>movedE x ((f:Int) - (m:Nat))) ++ ((o.drop f).take k).map (fun x=>movedE x ((n:Int) - (m:Nat)))) [y] rfl HR1.out w1.heap.size 1 1 rfl rfl HYC.out (by have:=HLN.out; simp only [List.length_singleton]; omega) HB1.out.size w.heap.size w HB1.out (Nat.le_refl _) _ rfl ?_; intro v3 w3 HR3 HB3)
     go_roundw
     case rel=>exact ⟨k + 1,q + 1,by rw [HJ.out]; omega,hlt,by go_num,Lib.hid (by rw [HSN.out,← List.append_assoc]; exact HR3.out),HB3⟩
     case measure=>simp [intOf]; omega
    case neg =>
     have hmk:k=m - f:=by omega
     have HV:Hid (turnedE o f m=o.take f ++ (o.drop m).map (fun x=>movedE x ((f:Int) - (m:Nat))) ++ ((o.drop f).take k).map (fun x=>movedE x ((n:Int) - (m:Nat)))):=Lib.hid (by unfold turnedE; rw [hmk,← HN.out])
     clear hmk hk qh
     go_wp2_with fail
     go_ret
     exact ⟨_,rfl,by rw [HV.out]; exact HR.out.base (Nat.zero_le _),HB.out⟩
end Go.Proofs.YtmknmmbfaljkbaaGreatDoor
