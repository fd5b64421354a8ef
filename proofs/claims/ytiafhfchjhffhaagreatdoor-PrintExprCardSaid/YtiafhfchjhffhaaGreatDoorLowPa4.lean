/- paclaim: ParPeek ParTake ParOver -/
import Derived.Test.YtiafhfchjhffhaaGreatDoorLowPa3
import Derived.WalkKit
import Derived.BigQuiet
import Derived.Deep.RegionHeld3
namespace Go.Proofs.YtiafhfchjhffhaaGreatDoor
open Go.RowKit
set_option linter.unusedVariables false
def aheadC (M:List Tk) (p:Pl) (n:Nat):Tk:=if p.er=0 then tkAt M (p.a + n) else default
theorem tk_none {M:List Tk} {n:Nat} (h:¬ n < M.length):tkAt M n=default:=by
 unfold tkAt
 rw [List.getD,List.getElem?_eq_none (by omega)]; rfl
set_option maxHeartbeats 4000000 in
theorem ahead_calls (g tl tc n:Nat) (ta:Option Addr) (M:List Tk) (p:Pl) (w:World) (h:PlAt w g ta tl tc M p) (hm:M.length ≤ 1000000) (hn:n ≤ 1) :
  Calls Tryz.prog 190 #[.pointer (some ⟨g,0,none⟩),.int .i64 (n:Nat)] w fun e w'=>e=.returned (tkV (aheadC M p n)) ∧ Below w.heap.size w w':=by
 obtain ⟨ev,hev,hev2,c0,c1,c2,c3,f1,f2,f3⟩:=h.cells
 have hg:=h.lt
 have hat:=h.at'
 have hleng:=h.tk.leng
 have HB:Hid (Below w.heap.size w (w.alloc (.cells #[.int .i64 0,.string ⟨#[]⟩,.int .i64 0,.int .i64 0] 183))):=Lib.hid ((Below.refl _ _).alloc (Nat.le_refl _) _)
 have b1:-9223372036854775808 ≤ (p.a:Int) + (n:Int):=by omega
 have b2:(p.a:Int) + (n:Int) ≤ 9223372036854775807:=by omega
 by_cases he:p.er=0
 case neg =>
  obtain ⟨b,rfl,_⟩:=hev2 he
  have HV:Hid (tkV (aheadC M p n)=.agg #[.int .i64 0,.string ⟨#[]⟩,.int .i64 0,.int .i64 0]):=Lib.hid (by unfold aheadC; rw [if_neg he]; rfl)
  clear hev hev2 h
  go_enter Tryz.func190,Tryz.ntmps190
  go_wp2_with fail
  go_quiet (fail)
  go_wp2_with fail
  refine bodyPost_ret (v:=.agg #[.int .i64 0,.string ⟨#[]⟩,.int .i64 0,.int .i64 0]) ?_ rfl ⟨by rw [HV.out],?_⟩
  ·refine cs_result1 rfl _ _ _ (a:=⟨w.heap.size,0,none⟩) (by rfl) ?_
   go_simp
  ·repeat' (first | (with_reducible exact HB.out) | with_reducible refine Below.setCell ?_ (by simp) _ | with_reducible refine par_drewN ?_ _)
 case pos =>
  obtain rfl:=hev he
  by_cases hl:p.a + n < M.length
  case neg =>
   have t1:decide ((tl:Int) ≤ (p.a:Int) + (n:Int))=true:=decide_eq_true (by omega)
   have HV:Hid (tkV (aheadC M p n)=.agg #[.int .i64 0,.string ⟨#[]⟩,.int .i64 0,.int .i64 0]):=Lib.hid (by unfold aheadC; rw [if_pos he,tk_none hl]; rfl)
   clear hev hev2 h hl hleng he
   go_enter Tryz.func190,Tryz.ntmps190
   go_wp2_with fail
   go_quiet (fail)
   go_wp2_with fail
   refine bodyPost_ret (v:=.agg #[.int .i64 0,.string ⟨#[]⟩,.int .i64 0,.int .i64 0]) ?_ rfl ⟨by rw [HV.out],?_⟩
   ·refine cs_result1 rfl _ _ _ (a:=⟨w.heap.size,0,none⟩) (by rfl) ?_
    go_simp
   ·repeat' (first | (with_reducible exact HB.out) | with_reducible refine Below.setCell ?_ (by simp) _ | with_reducible refine par_drewN ?_ _)
  case pos =>
   obtain ⟨m,hm0⟩:∃ m,m=p.a + n:=⟨_,rfl⟩
   have hmi:(p.a:Int) + (n:Int)=(m:Int):=by omega
   rw [← hm0] at hl
   have t1:decide (tl ≤ m)=false:=decide_eq_false (by omega)
   have t3:m < tl:=by omega
   have b3:m ≤ 1000000:=by omega
   obtain ⟨b,off,rfl,hb,d0,d1,d2,d3⟩:=tk_cells h.tk hl
   have HV:Hid (tkV (aheadC M p n)=tkV (tkAt M m)):=Lib.hid (by unfold aheadC; rw [if_pos he,← hm0])
   have hx:∃ x,x=tkAt M m:=⟨_,rfl⟩
   obtain ⟨x,hx⟩:=hx
   rw [← hx] at d0 d1 d2 d3 HV
   clear hev hev2 h hl hleng he hx hm0 b1 b2
   go_enter Tryz.func190,Tryz.ntmps190
   go_wp2_with fail
   go_quiet (fail)
   go_wp2_with fail
   go_region
   go_wp2_with fail
   refine bodyPost_ret (v:=tkV x) ?_ rfl ⟨by rw [HV.out],?_⟩
   ·refine cs_result1 rfl _ _ _ (a:=⟨w.heap.size,0,none⟩) (by rfl) ?_
    unfold tkV
    go_simp
   ·repeat' (first | (with_reducible exact HB.out) | with_reducible refine Below.setCell ?_ (by simp) _ | with_reducible refine par_drewN ?_ _)
theorem ahead_zero (M:List Tk) (p:Pl):aheadC M p 0=peekC M p:=rfl
set_option maxHeartbeats 1000000 in
theorem peek_calls (g tl tc:Nat) (ta:Option Addr) (M:List Tk) (p:Pl) (w:World) (h:PlAt w g ta tl tc M p) (hm:M.length ≤ 1000000) :
  Calls Tryz.prog 125 #[.pointer (some ⟨g,0,none⟩)] w fun e w'=>e=.returned (tkV (peekC M p)) ∧ Below w.heap.size w w':=by
 have HB:=Lib.hid ((Below.refl w.heap.size w).alloc (Nat.le_refl _) (.cells #[.int .i64 0,.string ⟨#[]⟩,.int .i64 0,.int .i64 0] 183))
 have HA:=Lib.hid (ahead_calls g tl tc 0 ta M p _ (h.below HB.out) hm (by omega))
 have hN:=heap_alloc_new w (.cells #[.int .i64 0,.string ⟨#[]⟩,.int .i64 0,.int .i64 0] 183)
 have HN:=Lib.hid hN
 rw [ahead_zero] at HA
 obtain ⟨x,hx⟩:∃ x,x=peekC M p:=⟨_,rfl⟩
 rw [← hx] at HA
 have HX:=Lib.hid hx
 clear h hN hx
 go_enter Tryz.func125,Tryz.ntmps125
 go_wp2_with fail
 refine HA.out.mono ?_
 rintro e w1 ⟨rfl,k1⟩
 have hN1:=(k1.block w.heap.size (by simp)).trans HN.out
 have d0:w1.cell? ⟨w.heap.size,0,none⟩=some (.int .i64 0):=by rw [cell_of_row w1 _ 0 _ _ _ hN1]; rfl
 have d1:w1.cell? ⟨w.heap.size,1,none⟩=some (.string ⟨#[]⟩):=by rw [cell_of_row w1 _ 1 _ _ _ hN1]; rfl
 have d2:w1.cell? ⟨w.heap.size,2,none⟩=some (.int .i64 0):=by rw [cell_of_row w1 _ 2 _ _ _ hN1]; rfl
 have d3:w1.cell? ⟨w.heap.size,3,none⟩=some (.int .i64 0):=by rw [cell_of_row w1 _ 3 _ _ _ hN1]; rfl
 have f0:=frozen_of_row w1 _ 0 _ _ hN1
 have f1:=frozen_of_row w1 _ 1 _ _ hN1
 have f2:=frozen_of_row w1 _ 2 _ _ hN1
 have f3:=frozen_of_row w1 _ 3 _ _ hN1
 have HB1:=Lib.hid (HB.out.trans (k1.mono HB.out.size))
 clear k1 hN1
 unfold tkV
 go_wp2_with fail
 refine bodyPost_ret (v:=tkV x) ?_ rfl ⟨by rw [HX.out],?_⟩
 ·refine cs_result1 rfl _ _ _ (a:=⟨w.heap.size,0,none⟩) (by rfl) ?_
  unfold tkV
  go_simp
 ·repeat' (first | (with_reducible exact HB1.out) | with_reducible refine Below.setCell ?_ (by simp) _ | with_reducible refine par_drewN ?_ _)
theorem isP_peek (M:List Tk) (p:Pl) (s:List UInt8):isP M p s=(((peekC M p).k == 2 || (peekC M p).k == 5) && (peekC M p).t == s):=by
 unfold isP peekC
 by_cases he:p.er=0
 ·rw [if_pos he,he]
  by_cases hl:p.a < M.length
  ·rw [tk_at hl]; rfl
  ·rw [List.getElem?_eq_none (by omega),tk_none hl]; rfl
 ·rw [if_neg he]
  have:(p.er == 0)=false:=by rw [beq_eq_false_iff_ne]; exact he
  rw [this]; rfl
set_option maxHeartbeats 2000000 in
theorem comes_calls (g tl tc:Nat) (ta:Option Addr) (M:List Tk) (p:Pl) (s:ByteArray) (w:World) (h:PlAt w g ta tl tc M p) (hm:M.length ≤ 1000000) :
  Calls Tryz.prog 119 #[.pointer (some ⟨g,0,none⟩),.string s] w fun e w'=>e=.returned (.bool (isP M p s.data.toList)) ∧ Below w.heap.size w w':=by
 have HA:=Lib.hid (peek_calls g tl tc ta M p w h hm)
 have HI:=Lib.hid (isP_peek M p s.data.toList)
 obtain ⟨x,hx⟩:∃ x,x=peekC M p:=⟨_,rfl⟩
 rw [← hx] at HA HI
 clear h hx
 by_cases k2:x.k=2
 case pos =>
  have t1:((x.k:Int) == 2)=true:=by rw [k2]; rfl
  have t2:(x.t == s.toList)=isP M p s.data.toList:=by rw [HI.out,sc_tl,k2]; rfl
  clear k2
  go_enter Tryz.func119,Tryz.ntmps119
  go_wp2_with fail
  refine HA.out.mono ?_
  rintro e w1 ⟨rfl,k1⟩
  have HB1:=Lib.hid k1
  clear k1
  unfold tkV
  go_wp2_with fail
  go_ret
  exact ⟨by first | rfl | (rw [t2]; rfl),HB1.out.alloc HB1.out.size _⟩
 case neg =>
  have t1:((x.k:Int) == 2)=false:=by rw [beq_eq_false_iff_ne]; omega
  by_cases k5:x.k=5
  case pos =>
   have t3:((x.k:Int) == 5)=true:=by rw [k5]; rfl
   have t2:(x.t == s.toList)=isP M p s.data.toList:=by rw [HI.out,sc_tl,k5]; rfl
   clear k2 k5
   go_enter Tryz.func119,Tryz.ntmps119
   go_wp2_with fail
   refine HA.out.mono ?_
   rintro e w1 ⟨rfl,k1⟩
   have HB1:=Lib.hid k1
   clear k1
   unfold tkV
   go_wp2_with fail
   go_ret
   exact ⟨by first | rfl | (rw [t2]; rfl),HB1.out.alloc HB1.out.size _⟩
  case neg =>
   have t3:((x.k:Int) == 5)=false:=by rw [beq_eq_false_iff_ne]; omega
   have HV:Hid (isP M p s.data.toList=false):=Lib.hid (by rw [HI.out,beq_eq_false_iff_ne.2 k2,beq_eq_false_iff_ne.2 k5]; rfl)
   clear k2 k5
   go_enter Tryz.func119,Tryz.ntmps119
   go_wp2_with fail
   refine HA.out.mono ?_
   rintro e w1 ⟨rfl,k1⟩
   have HB1:=Lib.hid k1
   clear k1
   unfold tkV
   go_wp2_with fail
   go_ret
   exact ⟨by rw [HV.out]; rfl,HB1.out.alloc HB1.out.size _⟩
set_option maxHeartbeats 1000000 in
theorem isName_calls (x:Tk) (w:World):Calls Tryz.prog 124 #[tkV x] w fun e w'=>e=.returned (.bool (isNameT x)) ∧ Below w.heap.size w w':=by
 unfold tkV
 by_cases k1:x.k=1
 case pos =>
  have t1:((x.k:Int) == 1)=true:=by rw [k1]; rfl
  have t2:(x.t != [95])=isNameT x:=by
   unfold isNameT
   rw [k1]; rfl
  clear k1
  go_enter Tryz.func124,Tryz.ntmps124
  go_wp2_with fail
  go_ret
  exact ⟨by show Ending.returned (.bool (!(x.t == [95])))=_; rw [← t2]; rfl,(Below.refl _ _).alloc (Nat.le_refl _) _⟩
 case neg =>
  have t1:((x.k:Int) == 1)=false:=by rw [beq_eq_false_iff_ne]; omega
  have HV:Hid (isNameT x=false):=Lib.hid (by unfold isNameT; rw [beq_eq_false_iff_ne.2 k1]; rfl)
  clear k1
  go_enter Tryz.func124,Tryz.ntmps124
  go_wp2_with fail
  go_ret
  exact ⟨by rw [HV.out]; rfl,(Below.refl _ _).alloc (Nat.le_refl _) _⟩
def takeC (M:List Tk) (p:Pl):Pl:=if (peekC M p).k=0 then p else skipP p
set_option maxHeartbeats 2000000 in
theorem take_calls (g tl tc:Nat) (ta:Option Addr) (M:List Tk) (p:Pl) (w:World) (h:PlAt w g ta tl tc M p) (hm:M.length ≤ 1000000) :
  Calls Tryz.prog 184 #[.pointer (some ⟨g,0,none⟩)] w fun e w'=>e=.returned (tkV (peekC M p)) ∧ PlAt w' g ta tl tc M (takeC M p) ∧ Kp (K1 g) w w':=by
 have HB:=Lib.hid ((Below.refl w.heap.size w).alloc (Nat.le_refl _) (.cells #[.int .i64 0,.string ⟨#[]⟩,.int .i64 0,.int .i64 0] 183))
 have HA:=Lib.hid (peek_calls g tl tc ta M p _ (h.below HB.out) hm)
 have HP:=Lib.hid h
 have HN:=Lib.hid (heap_alloc_new w (.cells #[.int .i64 0,.string ⟨#[]⟩,.int .i64 0,.int .i64 0] 183))
 obtain ⟨x,hx⟩:∃ x,x=peekC M p:=⟨_,rfl⟩
 rw [← hx] at HA
 have HX:=Lib.hid hx
 have hg:=h.lt
 have hat:=h.at'
 clear h hx
 by_cases hk:x.k=0
 case pos =>
  have t1:((x.k:Int) != 0)=false:=by rw [hk]; rfl
  have HT:Hid (takeC M p=p):=Lib.hid (by unfold takeC; rw [← HX.out,if_pos hk])
  clear hk
  go_enter Tryz.func184,Tryz.ntmps184
  go_wp2_with fail
  refine HA.out.mono ?_
  rintro e w1 ⟨rfl,k1⟩
  have hN1:=(k1.block w.heap.size (by simp)).trans HN.out
  have d0:w1.cell? ⟨w.heap.size,0,none⟩=some (.int .i64 0):=by rw [cell_of_row w1 _ 0 _ _ _ hN1]; rfl
  have d1:w1.cell? ⟨w.heap.size,1,none⟩=some (.string ⟨#[]⟩):=by rw [cell_of_row w1 _ 1 _ _ _ hN1]; rfl
  have d2:w1.cell? ⟨w.heap.size,2,none⟩=some (.int .i64 0):=by rw [cell_of_row w1 _ 2 _ _ _ hN1]; rfl
  have d3:w1.cell? ⟨w.heap.size,3,none⟩=some (.int .i64 0):=by rw [cell_of_row w1 _ 3 _ _ _ hN1]; rfl
  have f0:=frozen_of_row w1 _ 0 _ _ hN1
  have f1:=frozen_of_row w1 _ 1 _ _ hN1
  have f2:=frozen_of_row w1 _ 2 _ _ hN1
  have f3:=frozen_of_row w1 _ 3 _ _ hN1
  have hwl:w.heap.size < w1.heap.size:=by have:=k1.size; rw [World.size_alloc] at this; omega
  have HB1:=Lib.hid (HB.out.trans (k1.mono HB.out.size))
  clear k1 hN1
  unfold tkV
  go_wp2_with fail
  refine bodyPost_ret (v:=tkV x) ?_ rfl ⟨by rw [HX.out],?_,?_⟩
  ·refine cs_result1 rfl _ _ _ (a:=⟨w.heap.size,0,none⟩) (by rfl) ?_
   unfold tkV
   go_simp
  ·rw [HT.out]
   refine HP.out.below ?_
   repeat' (first | (with_reducible exact HB1.out) | with_reducible refine Below.alloc ?_ (by simp <;> omega) _ | with_reducible refine Below.setCell ?_ (by simp) _)
  ·refine Kp.of_below ?_
   repeat' (first | (with_reducible exact HB1.out) | with_reducible refine Below.alloc ?_ (by simp <;> omega) _ | with_reducible refine Below.setCell ?_ (by simp) _)
 case neg =>
  have t1:((x.k:Int) != 0)=true:=by rw [bne_iff_ne]; omega
  have hpk:=peek_in (M:=M) (p:=p) (by rw [← HX.out]; exact hk)
  have HT:Hid (takeC M p=skipP p):=Lib.hid (by unfold takeC; rw [← HX.out,if_neg hk])
  have HL:=Lib.hid hpk.2
  have b1:p.a ≤ 1000000:=by omega
  clear hk hpk
  go_enter Tryz.func184,Tryz.ntmps184
  go_wp2_with fail
  refine HA.out.mono ?_
  rintro e w1 ⟨rfl,k1⟩
  have hN1:=(k1.block w.heap.size (by simp)).trans HN.out
  have d0:w1.cell? ⟨w.heap.size,0,none⟩=some (.int .i64 0):=by rw [cell_of_row w1 _ 0 _ _ _ hN1]; rfl
  have d1:w1.cell? ⟨w.heap.size,1,none⟩=some (.string ⟨#[]⟩):=by rw [cell_of_row w1 _ 1 _ _ _ hN1]; rfl
  have d2:w1.cell? ⟨w.heap.size,2,none⟩=some (.int .i64 0):=by rw [cell_of_row w1 _ 2 _ _ _ hN1]; rfl
  have d3:w1.cell? ⟨w.heap.size,3,none⟩=some (.int .i64 0):=by rw [cell_of_row w1 _ 3 _ _ _ hN1]; rfl
  have f0:=frozen_of_row w1 _ 0 _ _ hN1
  have f1:=frozen_of_row w1 _ 1 _ _ hN1
  have f2:=frozen_of_row w1 _ 2 _ _ hN1
  have f3:=frozen_of_row w1 _ 3 _ _ hN1
  have HB1:=Lib.hid (HB.out.trans (k1.mono HB.out.size))
  have HP1:=Lib.hid (HP.out.below HB1.out)
  obtain ⟨ev,_,_,c0,c1,c2,c3,e1,e2,e3⟩:=HP1.out.cells
  have hg1:=HP1.out.lt
  have hwl:w.heap.size < w1.heap.size:=by have:=k1.size; rw [World.size_alloc] at this; omega
  have hne:¬ w.heap.size=g:=by omega
  have hne2:¬ g=w.heap.size:=by omega
  clear k1 hN1
  unfold tkV
  go_wp2_with fail
  have hsz:w.heap.size ≤ w1.heap.size:=by omega
  obtain ⟨ev2,ho0,her⟩:=HP.out.ho
  have ho:Ho w1 g (parC ta tl tc p ev2) 167:=(HB1.out.block g hg).trans ho0
  refine bodyPost_ret (v:=tkV x) ?_ rfl ⟨by rw [HX.out],?_,?_⟩
  ·refine cs_result1 rfl _ _ _ (a:=⟨w.heap.size,0,none⟩) (by rfl) ?_
   unfold tkV
   go_simp
  ·rw [HT.out]
   refine HP.out.put (ev:=ev2) ?_ ?_ ?_ HL.out
   ·repeat' (first | (with_reducible exact Kp.of_below HB1.out) | with_reducible refine kp_set1 ?_ _ _ | with_reducible refine par_setNew ?_ (Nat.le_refl _) _ | with_reducible refine Kp.alloc ?_ _)
   ·repeat' (first | (with_reducible exact ho) | with_reducible refine Ho.alloc ?_ _ | with_reducible refine Ho.other ?_ hne2 | refine Ho.set ho rfl)
   ·refine her.kp (g:=g) HP.out.cblk ?_ rfl rfl rfl
    repeat' (first | (with_reducible exact Kp.of_below HB1.out) | with_reducible refine kp_set1 ?_ _ _ | with_reducible refine par_setNew ?_ (Nat.le_refl _) _ | with_reducible refine Kp.alloc ?_ _)
  ·repeat' (first | (with_reducible exact Kp.of_below HB1.out) | with_reducible refine kp_set1 ?_ _ _ | with_reducible refine par_setNew ?_ (Nat.le_refl _) _ | with_reducible refine Kp.alloc ?_ _)
set_option maxHeartbeats 2000000 in
theorem fail_calls (g tl tc er:Nat) (ta:Option Addr) (M:List Tk) (p:Pl) (t:Tk) (w:World) (h:PlAt w g ta tl tc M p) (he:er ≠ 0) :
  Calls Tryz.prog 178 #[.pointer (some ⟨g,0,none⟩),tkV t,.iface 44 (.int .i64 (er:Nat))] w fun e w'=>e=.returned (.tuple #[]) ∧ PlAt w' g ta tl tc M (failC p t er) ∧ Kp (K1 g) w w':=by
 obtain ⟨ev,hev,hev2,c0,c1,c2,c3,f1,f2,f3⟩:=h.cells
 have hg:=h.lt
 have HP:=Lib.hid h
 clear h
 unfold tkV
 by_cases h0:p.er=0
 case neg =>
  obtain ⟨b,rfl,_⟩:=hev2 h0
  have HF:Hid (failC p t er=p):=Lib.hid (fail_err h0)
  have HB2:Hid (Below w.heap.size w (w.alloc (.cells #[.int .i64 (t.k:Nat),.string ⟨t.t.toArray⟩,.int .i64 (t.line:Nat),.int .i64 (t.col:Nat)] 183))):=Lib.hid ((Below.refl _ _).alloc (Nat.le_refl _) _)
  clear h0 hev hev2
  go_enter Tryz.func178,Tryz.ntmps178
  go_wp2_with fail
  go_end0
  exact ⟨rfl,by rw [HF.out]; exact HP.out.below HB2.out,Kp.of_below HB2.out⟩
 case pos =>
  obtain rfl:=hev h0
  have HF:Hid (failC p t er=⟨p.a,er,t.line,t.col,p.op⟩):=Lib.hid (by unfold failC; rw [if_pos h0])
  have HE:=Lib.hid he
  clear h0 hev hev2 he
  go_enter Tryz.func178,Tryz.ntmps178
  go_wp2_with fail
  go_end0
  obtain ⟨ev2,ho,her⟩:=HP.out.ho
  have hne:¬ g=w.heap.size:=by omega
  refine ⟨rfl,?_,?_⟩
  ·rw [HF.out]
   refine HP.out.put (ev:=.iface 168 (.pointer (some ⟨w.heap.size + 1,0,none⟩))) ?_ ?_ ⟨fun e=>absurd e HE.out,fun _=>⟨w.heap.size + 1,rfl,?_⟩⟩ HP.out.at'
   ·repeat' (first | (with_reducible exact Kp.refl _ _) | with_reducible refine kp_set1 ?_ _ _ | with_reducible refine par_setNew ?_ (Nat.le_refl _) _ | with_reducible refine Kp.alloc ?_ _)
   ·repeat' (first | (with_reducible exact ho) | with_reducible refine Ho.alloc ?_ _ | with_reducible refine Ho.other ?_ hne | refine Ho.set ho rfl)
   ·refine Ho.new _ _ _ ?_
    simp
  ·repeat' (first | (with_reducible exact Kp.refl _ _) | with_reducible refine kp_set1 ?_ _ _ | with_reducible refine par_setNew ?_ (Nat.le_refl _) _ | with_reducible refine Kp.alloc ?_ _)
set_option maxHeartbeats 1000000 in
theorem takes_calls (g tl tc:Nat) (ta:Option Addr) (M:List Tk) (p:Pl) (s:ByteArray) (w:World) (h:PlAt w g ta tl tc M p) (hm:M.length ≤ 1000000) (hk:∀ t ∈ M,1 ≤ t.k ∧ t.k ≤ 5) :
  Calls Tryz.prog 117 #[.pointer (some ⟨g,0,none⟩),.string s] w fun e w'=>e=.returned (.bool (isP M p s.data.toList)) ∧ PlAt w' g ta tl tc M (if isP M p s.data.toList=true then skipP p else p) ∧ Kp (K1 g) w w':=by
 have HC:=Lib.hid (comes_calls g tl tc ta M p s w h hm)
 have HT:=Lib.hid (fun w1 h1=>take_calls g tl tc ta M p w1 h1 hm)
 have HP:=Lib.hid h
 clear h
 have HX:Hid (isP M p s.data.toList=true → takeC M p=skipP p):=Lib.hid (fun e=>by
  have h1:=(isP_at e).1
  obtain ⟨h2,h3⟩:=isP_some e
  unfold takeC peekC
  rw [if_pos h2,if_neg (by omega)])
 generalize isP M p s.data.toList=b at HC HX ⊢
 cases b
 case false =>
  go_enter Tryz.func117,Tryz.ntmps117
  go_wp2_with fail
  refine HC.out.mono ?_
  rintro e w1 ⟨rfl,k1⟩
  have HB1:=Lib.hid k1
  clear k1
  go_wp2_with fail
  go_ret
  exact ⟨rfl,HP.out.below HB1.out,Kp.of_below HB1.out⟩
 case true =>
  go_enter Tryz.func117,Tryz.ntmps117
  go_wp2_with fail
  refine HC.out.mono ?_
  rintro e w1 ⟨rfl,k1⟩
  have HB1:=Lib.hid k1
  clear k1
  go_wp2_with fail
  refine (HT.out _ (HP.out.below HB1.out)).mono ?_
  rintro e w2 ⟨rfl,k2,k3⟩
  rw [HX.out trivial] at k2
  have HP2:=Lib.hid k2
  have HK2:=Lib.hid k3
  clear k2 k3
  go_wp2_with fail
  go_ret
  exact ⟨rfl,HP2.out,(Kp.of_below HB1.out).trans HK2.out⟩
theorem wantP_eq (M:List Tk) (p:Pl) (s:List UInt8):wantP M p s=if isP M p s=true then skipP p else stopP M p 16:=rfl
set_option maxHeartbeats 4000000 in
theorem stray_calls (g tl tc:Nat) (ta:Option Addr) (M:List Tk) (p:Pl) (w:World) (h:PlAt w g ta tl tc M p) (hm:M.length ≤ 1000000) :
  Calls Tryz.prog 112 #[.pointer (some ⟨g,0,none⟩)] w fun e w'=>e=.returned (.tuple #[]) ∧ PlAt w' g ta tl tc M (stopP M p 16) ∧ Kp (K1 g) w w':=by
 have HP:=Lib.hid h
 have HF:=Lib.hid (fun t w1 h1=>fail_calls g tl tc 16 ta M p t w1 h1 (by decide))
 have hleng:=h.tk.leng
 have hat:=h.at'
 obtain ⟨ev,_,_,c0,c1,c2,c3,e1,e2,e3⟩:=h.cells
 have hg:=h.lt
 have HB:Hid (Below w.heap.size w (w.alloc (.cells #[.int .i64 0,.string ⟨#[]⟩,.int .i64 1,.int .i64 1] 183))):=Lib.hid ((Below.refl _ _).alloc (Nat.le_refl _) _)
 by_cases hl:M.length=0
 case pos =>
  have htl:tl=0:=by omega
  have HS:Hid (stopP M p 16=failC p ⟨0,[],1,1⟩ 16):=Lib.hid (by
   unfold stopP failC
   rw [List.getElem?_eq_none (by omega)])
  have HF2:Hid (∀ w1,PlAt w1 g ta tl tc M p → Calls Tryz.prog 178 #[.pointer (some ⟨g,0,none⟩),.agg #[.int .i64 0,.string ⟨#[]⟩,.int .i64 1,.int .i64 1],.iface 44 (.int .i64 16)] w1 fun e w'=>e=.returned (.tuple #[]) ∧ PlAt w' g ta tl tc M (failC p ⟨0,[],1,1⟩ 16) ∧ Kp (K1 g) w1 w'):=Lib.hid (fun w1 h1=>HF.out ⟨0,[],1,1⟩ w1 h1)
  subst htl
  clear h hl hleng HF
  go_enter Tryz.func112,Tryz.ntmps112
  go_wp2_with fail
  refine (HF2.out _ (HP.out.below HB.out)).mono ?_
  rintro e w2 ⟨rfl,k2,k3⟩
  have HP2:=Lib.hid k2
  have HK2:=Lib.hid k3
  clear k2 k3
  go_wp2_with fail
  go_end0
  exact ⟨rfl,by rw [HS.out]; exact HP2.out,(Kp.of_below HB.out).trans HK2.out⟩
 case neg =>
  obtain ⟨last,hlast⟩:∃ last,M.length=last + 1:=⟨M.length - 1,by omega⟩
  obtain ⟨m,hm0⟩:∃ m,m=min p.a last:=⟨_,rfl⟩
  have hml:m < M.length:=by omega
  have HS:Hid (stopP M p 16=failC p (tkAt M m) 16):=Lib.hid (by
   unfold stopP failC
   rw [show min p.a (M.length - 1)=m by omega,tk_at hml])
  obtain ⟨b,off,rfl,hb,d0,d1,d2,d3⟩:=tk_cells h.tk hml
  obtain ⟨x,hx⟩:∃ x,x=tkAt M m:=⟨_,rfl⟩
  rw [← hx] at d0 d1 d2 d3 HS
  have HF2:Hid (∀ w1,PlAt w1 g (some ⟨b,off,none⟩) tl tc M p → Calls Tryz.prog 178 #[.pointer (some ⟨g,0,none⟩),tkV x,.iface 44 (.int .i64 16)] w1 fun e w'=>e=.returned (.tuple #[]) ∧ PlAt w' g (some ⟨b,off,none⟩) tl tc M (failC p x 16) ∧ Kp (K1 g) w1 w'):=Lib.hid (fun w1 h1=>HF.out x w1 h1)
  have t0:(tl:Int) - 1=(last:Int):=by omega
  have b1:last ≤ 1000000:=by omega
  have b2:p.a ≤ 1000000:=by omega
  unfold tkV at HF2
  have HBW:Hid (∀ W,Below w.heap.size w W → PlAt W g (some ⟨b,off,none⟩) tl tc M p):=Lib.hid (fun W k=>HP.out.below k)
  by_cases hc:last < p.a
  case pos =>
   obtain rfl:m=last:=by omega
   have t1:m < tl:=by omega
   clear h hl hleng HF hx hml hlast hm0
   go_enter Tryz.func112,Tryz.ntmps112
   go_wp2_with fail
   go_region
   go_wp2_with fail
   have hB2:Below w.heap.size w (w.alloc (.cells #[.int .i64 (x.k:Nat),.string ⟨x.t.toArray⟩,.int .i64 (x.line:Nat),.int .i64 (x.col:Nat)] 183)).drew:=((Below.refl _ _).alloc (Nat.le_refl _) _).drew
   refine (HF2.out _ (HBW.out _ hB2)).mono ?_
   rintro e w2 ⟨rfl,k2,k3⟩
   have HP2:=Lib.hid k2
   have HK2:=Lib.hid ((Kp.of_below hB2).trans k3)
   clear k2 k3
   go_wp2_with fail
   go_end0
   exact ⟨rfl,by rw [HS.out]; exact HP2.out,HK2.out⟩
  case neg =>
   obtain rfl:m=p.a:=by omega
   have t1:p.a < tl:=by omega
   clear h hl hleng HF hx hml hlast hm0
   go_enter Tryz.func112,Tryz.ntmps112
   go_wp2_with fail
   go_region
   go_wp2_with fail
   have hB2:Below w.heap.size w (w.alloc (.cells #[.int .i64 (x.k:Nat),.string ⟨x.t.toArray⟩,.int .i64 (x.line:Nat),.int .i64 (x.col:Nat)] 183)).drew:=((Below.refl _ _).alloc (Nat.le_refl _) _).drew
   refine (HF2.out _ (HBW.out _ hB2)).mono ?_
   rintro e w2 ⟨rfl,k2,k3⟩
   have HP2:=Lib.hid k2
   have HK2:=Lib.hid ((Kp.of_below hB2).trans k3)
   clear k2 k3
   go_wp2_with fail
   go_end0
   exact ⟨rfl,by rw [HS.out]; exact HP2.out,HK2.out⟩
set_option maxHeartbeats 1000000 in
theorem must_calls (g tl tc:Nat) (ta:Option Addr) (M:List Tk) (p:Pl) (s:ByteArray) (w:World) (h:PlAt w g ta tl tc M p) (hm:M.length ≤ 1000000) (hk:∀ t ∈ M,1 ≤ t.k ∧ t.k ≤ 5) :
  Calls Tryz.prog 115 #[.pointer (some ⟨g,0,none⟩),.string s] w fun e w'=>e=.returned (.tuple #[]) ∧ PlAt w' g ta tl tc M (wantP M p s.data.toList) ∧ Kp (K1 g) w w':=by
 have HT:=Lib.hid (takes_calls g tl tc ta M p s w h hm hk)
 have HS:=Lib.hid (fun w1 h1=>stray_calls g tl tc ta M p w1 h1 hm)
 have HW:=Lib.hid (wantP_eq M p s.data.toList)
 clear h
 generalize isP M p s.data.toList=b at HT HW
 cases b
 case false =>
  go_enter Tryz.func115,Tryz.ntmps115
  go_wp2_with fail
  refine HT.out.mono ?_
  rintro e w1 ⟨rfl,k1,k2⟩
  have HP1:=Lib.hid k1
  have HK1:=Lib.hid k2
  clear k1 k2
  go_wp2_with fail
  refine (HS.out _ HP1.out).mono ?_
  rintro e w2 ⟨rfl,k1,k2⟩
  have HP2:=Lib.hid k1
  have HK2:=Lib.hid (HK1.out.trans k2)
  clear k1 k2
  go_wp2_with fail
  go_end0
  exact ⟨rfl,by rw [HW.out]; exact HP2.out,HK2.out⟩
 case true =>
  go_enter Tryz.func115,Tryz.ntmps115
  go_wp2_with fail
  refine HT.out.mono ?_
  rintro e w1 ⟨rfl,k1,k2⟩
  have HP1:=Lib.hid k1
  have HK1:=Lib.hid k2
  clear k1 k2
  go_wp2_with fail
  go_end0
  exact ⟨rfl,by rw [HW.out]; exact HP1.out,HK1.out⟩
set_option maxHeartbeats 4000000 in
theorem leaf_calls (t:Tk) (x:Ex) (w:World) :
  Calls Tryz.prog 299 #[tkV t,exV x] w fun e w'=>(∃ v,e=.returned v ∧ CxAt w.heap.size w' v ⟨[⟨x.op,x.a,x.b,x.n,x.v,t.line,t.col⟩],1⟩) ∧ Below w.heap.size w w':=by
 unfold tkV exV
 go_enter Tryz.func299,Tryz.ntmps299
 go_wp2_with fail
 go_region
 go_wp2_with fail
 refine bodyPost_ret (v:=.agg #[.slice (some ⟨w.heap.size + 3,0,none⟩) 1 1,.int .i64 1]) ?_ rfl ⟨⟨_,rfl,⟨_,rfl,?_⟩⟩,?_⟩
 ·refine cs_result1 rfl _ _ _ (a:=⟨w.heap.size + 2,0,none⟩) (by rfl) ?_
  go_simp
 ·refine NsAt.below (NsAt.new (B:=w.heap.size) _ ⟨x.op,x.a,x.b,x.n,x.v,(t.line:Int),(t.col:Int)⟩ ?_ ?_) ((Below.refl _ _).drew)
  ·simp <;> omega
  ·simp
 ·repeat' (first | (with_reducible exact Below.refl _ _) | with_reducible refine Below.alloc ?_ (by simp <;> omega) _ | with_reducible refine Below.setCell ?_ (by simp) _ | with_reducible refine Below.drew ?_)
set_option maxHeartbeats 8000000 in
theorem over_calls (g tl tc b pc:Nat) (ta:Option Addr) (M:List Tk) (p:Pl) (t:Tk) (op:Int) (L:List Cx) (B:Nat) (w:World) (h:PlAt w g ta tl tc M p) (hp:PsAt B w b L)
  (hne:∀ c ∈ L,c.ns ≠ []) (hdm:∀ c ∈ L,c.d ≤ 1000000) (hnm:(catN L).length ≤ 2000000) (hll:L.length ≤ 2) :
  Calls Tryz.prog 199 #[.pointer (some ⟨g,0,none⟩),tkV t,.int .i64 op,.slice (some ⟨b,0,none⟩) L.length pc] w fun e w'=>(∃ v,e=.returned v ∧ CxAt w.heap.size w' v (overL p t op L).1) ∧ PlAt w' g ta tl tc M (overL p t op L).2 ∧ Kp (K1 g) w w':=by
 have HP:=Lib.hid h
 have HPS:=Lib.hid hp
 have HF:=Lib.hid (fun w1 h1=>fail_calls g tl tc 13 ta M p t w1 h1 (by decide))
 have HNE:=Lib.hid hne
 have HDM:=Lib.hid (fun n=>depN_le L n hdm)
 have HNM:=Lib.hid (fun n=>Nat.le_trans (catN_le (L:=L) (n:=n)) hnm)
 obtain ⟨i0,hi,z0',z1,z2⟩:=cs_parts infoEx
 have HI:=Lib.hid hi
 have HZ0:=Lib.hid z0'
 have HZ1:=Lib.hid z1
 have HZ2:=Lib.hid z2
 have hg:=h.lt
 have hbl:=hp.blk.lt
 clear h hp hne hdm hnm hi z0' z1 z2
 unfold tkV
 go_enter Tryz.func199,Tryz.ntmps199
 go_wp2_with fail
 have hX0:Ho (((w.alloc (.cells #[.int .i64 (t.k:Nat),.string ⟨t.t.toArray⟩,.int .i64 (t.line:Nat),.int .i64 (t.col:Nat)] 183)).alloc (.cells #[.slice none 0 0,.int .i64 0] 136)).alloc (.cells #[.slice none 0 0,.int .i64 0] 136)) w.heap.size #[.int .i64 (t.k:Nat),.string ⟨t.t.toArray⟩,.int .i64 (t.line:Nat),.int .i64 (t.col:Nat)] 183:=((Ho.new _ _ _ rfl).alloc _).alloc _
 have hY0:Ho (((w.alloc (.cells #[.int .i64 (t.k:Nat),.string ⟨t.t.toArray⟩,.int .i64 (t.line:Nat),.int .i64 (t.col:Nat)] 183)).alloc (.cells #[.slice none 0 0,.int .i64 0] 136)).alloc (.cells #[.slice none 0 0,.int .i64 0] 136)) (w.heap.size + 1) #[.slice none 0 0,.int .i64 0] 136:=(Ho.new _ _ _ (by simp)).alloc _
 have hO0:Ho (((w.alloc (.cells #[.int .i64 (t.k:Nat),.string ⟨t.t.toArray⟩,.int .i64 (t.line:Nat),.int .i64 (t.col:Nat)] 183)).alloc (.cells #[.slice none 0 0,.int .i64 0] 136)).alloc (.cells #[.slice none 0 0,.int .i64 0] 136)) (w.heap.size + 2) #[.slice none 0 0,.int .i64 0] 136:=Ho.new _ _ _ (by simp)
 have hB0:Below w.heap.size w (((w.alloc (.cells #[.int .i64 (t.k:Nat),.string ⟨t.t.toArray⟩,.int .i64 (t.line:Nat),.int .i64 (t.col:Nat)] 183)).alloc (.cells #[.slice none 0 0,.int .i64 0] 136)).alloc (.cells #[.slice none 0 0,.int .i64 0] 136)):=(((Below.refl _ _).alloc (Nat.le_refl _) _).alloc (by simp) _).alloc (by simp <;> omega) _
 have HX0:=Lib.hid hX0
 have HY0:=Lib.hid hY0
 have HO0:=Lib.hid hO0
 have HB0:=Lib.hid hB0
 clear hX0 hY0 hO0 hB0
 go_loopw [14] (fun i wr=>∃ (n:Nat) (nv:Value),n ≤ L.length ∧ i=.int .i64 (n:Nat) ∧ Hid (Ho wr w.heap.size #[.int .i64 (t.k:Nat),.string ⟨t.t.toArray⟩,.int .i64 (t.line:Nat),.int .i64 (t.col:Nat)] 183) ∧ Hid (Ho wr (w.heap.size + 1) #[.slice none 0 0,.int .i64 0] 136) ∧ Hid (Ho wr (w.heap.size + 2) #[nv,.int .i64 (depN (L.take n):Nat)] 136) ∧ Hid (NsAt w.heap.size wr nv (catN (L.take n))) ∧ Hid (Below w.heap.size w wr)) (fun i _=>L.length - (intOf i).toNat)
 ·exact ⟨0,.slice none 0 0,Nat.zero_le _,rfl,HX0,HY0,HO0,Lib.hid NsAt.nil,HB0⟩
 ·obtain ⟨n,nv,hnl,rfl,HX,HY,HO,HN,HB⟩:=hrel
  clear HX0 HY0 HO0 HB0
  have c0:wr.cell? ⟨w.heap.size + 2,0,none⟩=some nv:=by rw [cell_of_row _ _ 0 _ _ _ HO.out]; rfl
  have c1:wr.cell? ⟨w.heap.size + 2,1,none⟩=some (.int .i64 (depN (L.take n):Nat)):=by rw [cell_of_row _ _ 1 _ _ _ HO.out]; rfl
  have f0:wr.frozen? ⟨w.heap.size + 2,0,none⟩=false:=frozen_of_row _ _ 0 _ _ HO.out
  have f1:wr.frozen? ⟨w.heap.size + 2,1,none⟩=false:=frozen_of_row _ _ 1 _ _ HO.out
  have hwr:w.heap.size + 2 < wr.heap.size:=HO.out.lt
  obtain ⟨va,vc,rfl⟩:=HN.out.slice
  obtain ⟨d0,hd0⟩:∃ d0,d0=depN (L.take n):=⟨_,rfl⟩
  obtain ⟨k0,hk0⟩:∃ k0,k0=(catN (L.take n)).length:=⟨_,rfl⟩
  have hdle:d0 ≤ 1000000:=by rw [hd0]; exact HDM.out n
  have hkle:k0 ≤ 2000000:=by rw [hk0]; exact HNM.out n
  have HOW:Hid (wr.ownsRow w.heap.size 58 10 (.slice va k0 vc) k0 (exCs (catN (L.take n)))):=Lib.hid (by rw [hk0]; exact HN.out)
  rw [← hd0] at c1
  rw [← hk0] at c0
  have HD0:=Lib.hid hd0
  have HK0:=Lib.hid hk0
  clear HN hd0 hk0
  by_cases hlt:n < L.length
  case pos =>
   have hc:∃ c,L[n]? = some c:=⟨L[n],List.getElem?_eq_getElem hlt⟩
   obtain ⟨c,hc⟩:=hc
   have hmem:=List.mem_of_getElem? hc
   obtain ⟨cv,e0,e1,hcn⟩:=(HPS.out.below HB.out).at' n c hc
   obtain ⟨gc,cc,rfl,_,hgcb,hcells⟩:=hcn.block (HNE.out c hmem)
   have HCELL:=Lib.hid hcells
   have hgc:=hgcb.lt
   have HCN:=Lib.hid hcn
   have HSN:=Lib.hid (catN_snoc hc)
   have HSD:=Lib.hid (depN_snoc hc)
   have hlen2:k0 + c.ns.length ≤ 2000000:=by
    have h1:=HNM.out (n + 1)
    rw [HSN.out,List.length_append,← HK0.out] at h1
    exact h1
   obtain ⟨m,hm⟩:∃ m,m=c.ns.length:=⟨_,rfl⟩
   rw [← hm] at e0 hlen2
   have HM:=Lib.hid hm
   obtain ⟨d1,hd1⟩:∃ d1,d1=c.d:=⟨_,rfl⟩
   rw [← hd1] at e1
   have hd1l:d1 ≤ 1000000:=by rw [hd1]; have h1:=HDM.out (n + 1); rw [HSD.out] at h1; omega
   have HD1:=Lib.hid hd1
   have hbw:b < wr.heap.size:=by have:=HB.out.size; omega
   clear hc hmem hcn hcells hgcb hm hd1
   go_wp2_with (at_builtin; refine wpList_append_own _ rfl _ _ 40 rfl w.heap.size 58 i0 _ 10 96 Tryz.underlying40 HI.out HZ0.out HZ1.out HZ2.out rfl (by decide) _ _ _ rfl (ownsRow_heap (HOW.out) (fun g hc=>heap_alloc_old _ _ hc.lt)) ⟨gc,0,none⟩ m cc (exCs c.ns) rfl ?c0 ?c1 ?c2 ?c3 ?c4 ?c5 ?_)
   case c0=>rw [exCs_len,← HM.out]
   case c1=>exact cells_below HCELL.out hgc ((Below.refl _ _).alloc (Nat.le_refl _) _)
   case c2=>exact exCs_one _
   case c3=>unfold maxLen; omega
   case c4=>omega
   case c5=>have:=HB.out.size; simp; omega
   intro v' w2 hown' hgrow _
   have hOW2:(wr.alloc (.cells #[.slice (some ⟨gc,0,none⟩) m cc,.int .i64 (d1:Nat)] 136)).ownsRow w.heap.size 58 10 (.slice va k0 vc) k0 (exCs (catN (L.take n))):=ownsRow_heap (HOW.out) (fun g hc=>heap_alloc_old _ _ hc.lt)
   have hKU:=KU.grown hOW2 hgrow
   have HX2:=Lib.hid ((HX.out.alloc (.cells #[.slice (some ⟨gc,0,none⟩) m cc,.int .i64 (d1:Nat)] 136)).ku hKU (by decide))
   have HY2:=Lib.hid ((HY.out.alloc (.cells #[.slice (some ⟨gc,0,none⟩) m cc,.int .i64 (d1:Nat)] 136)).ku hKU (by decide))
   have HO2:=Lib.hid ((HO.out.alloc (.cells #[.slice (some ⟨gc,0,none⟩) m cc,.int .i64 (d1:Nat)] 136)).ku hKU (by decide))
   have HP2:=Lib.hid ((Ho.new wr #[.slice (some ⟨gc,0,none⟩) m cc,.int .i64 (d1:Nat)] 136 rfl).ku hKU (by decide))
   have HB2:Hid (Below w.heap.size w w2):=Lib.hid ((HB.out.alloc HB.out.size _).grown hgrow (by simp; omega) (fun k hk=>(hOW2.lt k hk).1))
   obtain ⟨va2,vc2,rfl⟩:=cs_own hown'
   have HOW3:=Lib.hid hown'
   have c0:w2.cell? ⟨w.heap.size + 2,0,none⟩=some (.slice va (catN (L.take n)).length vc):=by rw [cell_of_row _ _ 0 _ _ _ HO2.out]; rfl
   have c1:w2.cell? ⟨w.heap.size + 2,1,none⟩=some (.int .i64 (depN (L.take n):Nat)):=by rw [cell_of_row _ _ 1 _ _ _ HO2.out]; rfl
   rw [← HD0.out] at c1
   rw [← HK0.out] at c0
   have g0:w2.frozen? ⟨w.heap.size + 2,0,none⟩=false:=frozen_of_row _ _ 0 _ _ HO2.out
   have g1:w2.frozen? ⟨w.heap.size + 2,1,none⟩=false:=frozen_of_row _ _ 1 _ _ HO2.out
   have q1:w2.cell? ⟨wr.heap.size,1,none⟩=some (.int .i64 (d1:Nat)):=by rw [cell_of_row _ _ 1 _ _ _ HP2.out]; rfl
   have hw2:w.heap.size + 2 < w2.heap.size:=HO2.out.lt
   have hw3:wr.heap.size < w2.heap.size:=HP2.out.lt
   have hne9:¬ wr.heap.size=w.heap.size + 2:=by omega
   have HREL:Hid (∀ dm,dm=max d0 d1 → Ho ((w2.setCell ⟨w.heap.size + 2,0,none⟩ (.slice va2 (k0 + m) vc2)).setCell ⟨w.heap.size + 2,1,none⟩ (.int .i64 (dm:Nat))) (w.heap.size + 2) #[.slice va2 (k0 + m) vc2,.int .i64 (depN (L.take (n + 1)):Nat)] 136 ∧ NsAt w.heap.size ((w2.setCell ⟨w.heap.size + 2,0,none⟩ (.slice va2 (k0 + m) vc2)).setCell ⟨w.heap.size + 2,1,none⟩ (.int .i64 (dm:Nat))) (.slice va2 (k0 + m) vc2) (catN (L.take (n + 1))) ∧ Below w.heap.size w ((w2.setCell ⟨w.heap.size + 2,0,none⟩ (.slice va2 (k0 + m) vc2)).setCell ⟨w.heap.size + 2,1,none⟩ (.int .i64 (dm:Nat)))):=Lib.hid (fun dm hdm=>by
    refine ⟨?_,?_,?_⟩
    ·have h1:=Ho.set (o:=1) (v:=.int .i64 (dm:Nat)) (Ho.set (o:=0) (v:=.slice va2 (k0 + m) vc2) HO2.out rfl) rfl
     rw [HSD.out,← HD0.out,← HD1.out,← hdm]
     exact h1
    ·rw [HSN.out]
     unfold NsAt
     rw [List.length_append,exCs_app,← HK0.out,← HM.out]
     exact ns_set (ns_set HOW3.out HO2.out.cblk (by decide)) (Ho.set (o:=0) (v:=.slice va2 (k0 + m) vc2) HO2.out rfl).cblk (by decide)
    ·exact (HB2.out.setCell (by show w.heap.size ≤ w.heap.size + 2; omega) _).setCell (by show w.heap.size ≤ w.heap.size + 2; omega) _)
   have HXS:Hid (∀ dm,Ho ((w2.setCell ⟨w.heap.size + 2,0,none⟩ (.slice va2 (k0 + m) vc2)).setCell ⟨w.heap.size + 2,1,none⟩ (.int .i64 (dm:Nat))) w.heap.size #[.int .i64 (t.k:Nat),.string ⟨t.t.toArray⟩,.int .i64 (t.line:Nat),.int .i64 (t.col:Nat)] 183 ∧ Ho ((w2.setCell ⟨w.heap.size + 2,0,none⟩ (.slice va2 (k0 + m) vc2)).setCell ⟨w.heap.size + 2,1,none⟩ (.int .i64 (dm:Nat))) (w.heap.size + 1) #[.slice none 0 0,.int .i64 0] 136):=Lib.hid (fun dm=>⟨(HX2.out.other (by omega)).other (by omega),(HY2.out.other (by omega)).other (by omega)⟩)
   clear hown' hgrow hOW2 hKU HX HY HO HOW HP2 HX2 HY2 HO2 HOW3
   by_cases hmx:d0 < d1
   case pos =>
    have HMX:Hid (d1=max d0 d1):=Lib.hid (by omega)
    go_wp2_with fail
    go_roundw
    case rel =>
     obtain ⟨r1,r2,r3⟩:=HREL.out d1 HMX.out
     obtain ⟨s1,s2⟩:=HXS.out d1
     exact ⟨n + 1,.slice va2 (k0 + m) vc2,by omega,by go_num,Lib.hid s1,Lib.hid s2,Lib.hid r1,Lib.hid r2,Lib.hid r3⟩
    case measure=>simp [intOf] <;> omega
   case neg =>
    have HMX:Hid (d0=max d0 d1):=Lib.hid (by omega)
    go_wp2_with fail
    go_roundw
    case rel =>
     obtain ⟨r1,r2,r3⟩:=HREL.out d0 HMX.out
     obtain ⟨s1,s2⟩:=HXS.out d0
     exact ⟨n + 1,.slice va2 (k0 + m) vc2,by omega,by go_num,Lib.hid s1,Lib.hid s2,Lib.hid r1,Lib.hid r2,Lib.hid r3⟩
    case measure=>simp [intOf] <;> omega
  case neg =>
   obtain rfl:n=L.length:=by omega
   have hT:L.take L.length=L:=List.take_length
   rw [hT] at HOW HD0 HK0 HO
   have x0:wr.cell? ⟨w.heap.size,0,none⟩=some (.int .i64 (t.k:Nat)):=by rw [cell_of_row _ _ 0 _ _ _ HX.out]; rfl
   have x1:wr.cell? ⟨w.heap.size,1,none⟩=some (.string ⟨t.t.toArray⟩):=by rw [cell_of_row _ _ 1 _ _ _ HX.out]; rfl
   have x2:wr.cell? ⟨w.heap.size,2,none⟩=some (.int .i64 (t.line:Nat)):=by rw [cell_of_row _ _ 2 _ _ _ HX.out]; rfl
   have x3:wr.cell? ⟨w.heap.size,3,none⟩=some (.int .i64 (t.col:Nat)):=by rw [cell_of_row _ _ 3 _ _ _ HX.out]; rfl
   have hw0:w.heap.size < wr.heap.size:=HX.out.lt
   have HRL:Hid (overL p t op L=(⟨catN L ++ [opE t op],d0 + 1⟩,if 64 < d0 + 1 then failC p t 13 else p)):=Lib.hid (by rw [overL_eq,← HD0.out])
   clear hT
   go_wp2_with (at_builtin; refine wpList_append_own _ rfl _ _ 40 rfl w.heap.size 58 i0 _ 10 96 Tryz.underlying40 HI.out HZ0.out HZ1.out HZ2.out rfl (by decide) _ _ _ rfl (ownsRow_heap (HOW.out) (fun g hc=>heap_alloc_old _ _ hc.lt)) ⟨wr.heap.size,0,none⟩ 1 1 (exCs [opE t op]) rfl rfl ?c1 ?c2 ?c3 ?c4 ?c5 ?_)
   case c1=>exact ex_new wr (opE t op) _ rfl
   case c2=>exact exCs_one _
   case c3=>unfold maxLen; omega
   case c4=>omega
   case c5=>have:=HB.out.size; simp; omega
   intro v' w2 hown' hgrow _
   have hOW2:(wr.alloc (.cells #[.int .i64 op,.int .i64 0,.int .i64 0,.string ⟨#[]⟩,.int .i64 0,.int .i64 0,.string ⟨#[]⟩,.bool false,.int .i64 (t.line:Nat),.int .i64 (t.col:Nat)] 58)).ownsRow w.heap.size 58 10 (.slice va k0 vc) k0 (exCs (catN L)):=ownsRow_heap (HOW.out) (fun g hc=>heap_alloc_old _ _ hc.lt)
   have hKU:=KU.grown hOW2 hgrow
   have HX2:=Lib.hid ((HX.out.alloc (.cells #[.int .i64 op,.int .i64 0,.int .i64 0,.string ⟨#[]⟩,.int .i64 0,.int .i64 0,.string ⟨#[]⟩,.bool false,.int .i64 (t.line:Nat),.int .i64 (t.col:Nat)] 58)).ku hKU (by decide))
   have HY2:=Lib.hid ((HY.out.alloc (.cells #[.int .i64 op,.int .i64 0,.int .i64 0,.string ⟨#[]⟩,.int .i64 0,.int .i64 0,.string ⟨#[]⟩,.bool false,.int .i64 (t.line:Nat),.int .i64 (t.col:Nat)] 58)).ku hKU (by decide))
   have HO2:=Lib.hid ((HO.out.alloc (.cells #[.int .i64 op,.int .i64 0,.int .i64 0,.string ⟨#[]⟩,.int .i64 0,.int .i64 0,.string ⟨#[]⟩,.bool false,.int .i64 (t.line:Nat),.int .i64 (t.col:Nat)] 58)).ku hKU (by decide))
   have HB2:Hid (Below w.heap.size w w2):=Lib.hid ((HB.out.alloc HB.out.size _).grown hgrow (by simp; omega) (fun k hk=>(hOW2.lt k hk).1))
   obtain ⟨va2,vc2,rfl⟩:=cs_own hown'
   have HOW3:Hid (NsAt w.heap.size w2 (.slice va2 (k0 + 1) vc2) (catN L ++ [opE t op])):=Lib.hid (by
    unfold NsAt
    rw [List.length_append,exCs_app,← HK0.out]
    exact hown')
   have y0:w2.cell? ⟨w.heap.size + 1,0,none⟩=some (.slice none 0 0):=by rw [cell_of_row _ _ 0 _ _ _ HY2.out]; rfl
   have y1:w2.cell? ⟨w.heap.size + 1,1,none⟩=some (.int .i64 0):=by rw [cell_of_row _ _ 1 _ _ _ HY2.out]; rfl
   have yf0:w2.frozen? ⟨w.heap.size + 1,0,none⟩=false:=frozen_of_row _ _ 0 _ _ HY2.out
   have yf1:w2.frozen? ⟨w.heap.size + 1,1,none⟩=false:=frozen_of_row _ _ 1 _ _ HY2.out
   have c0:w2.cell? ⟨w.heap.size + 2,0,none⟩=some (.slice va (catN L).length vc):=by rw [cell_of_row _ _ 0 _ _ _ HO2.out]; rfl
   have c1:w2.cell? ⟨w.heap.size + 2,1,none⟩=some (.int .i64 (depN L:Nat)):=by rw [cell_of_row _ _ 1 _ _ _ HO2.out]; rfl
   rw [← HD0.out] at c1
   rw [← HK0.out] at c0
   have g0:w2.frozen? ⟨w.heap.size + 2,0,none⟩=false:=frozen_of_row _ _ 0 _ _ HO2.out
   have g1:w2.frozen? ⟨w.heap.size + 2,1,none⟩=false:=frozen_of_row _ _ 1 _ _ HO2.out
   have x0:w2.cell? ⟨w.heap.size,0,none⟩=some (.int .i64 (t.k:Nat)):=by rw [cell_of_row _ _ 0 _ _ _ HX2.out]; rfl
   have x1:w2.cell? ⟨w.heap.size,1,none⟩=some (.string ⟨t.t.toArray⟩):=by rw [cell_of_row _ _ 1 _ _ _ HX2.out]; rfl
   have x2:w2.cell? ⟨w.heap.size,2,none⟩=some (.int .i64 (t.line:Nat)):=by rw [cell_of_row _ _ 2 _ _ _ HX2.out]; rfl
   have x3:w2.cell? ⟨w.heap.size,3,none⟩=some (.int .i64 (t.col:Nat)):=by rw [cell_of_row _ _ 3 _ _ _ HX2.out]; rfl
   have hw2:w.heap.size + 2 < w2.heap.size:=HO2.out.lt
   have hw21:w.heap.size + 1 < w2.heap.size:=HY2.out.lt
   have hw20:w.heap.size < w2.heap.size:=HX2.out.lt
   have b1:-9223372036854775808 ≤ (d0:Int) + 1:=by omega
   have b2:(d0:Int) + 1 ≤ 9223372036854775807:=by omega
   have HBT:Hid (∀ W,Below w.heap.size w W → PlAt W g ta tl tc M p):=Lib.hid (fun W k=>HP.out.below k)
   clear hown' hgrow hOW2 hKU HX HY HO HOW hnl hlt hwr hw0
   by_cases h64:64 < d0 + 1
   case pos =>
    have t64:decide ((64:Int) < (d0:Int) + 1)=true:=decide_eq_true (by omega)
    have HRM:=HRL.out
    rw [if_pos h64] at HRM
    replace HRM:=Lib.hid HRM
    clear h64 HRL
    go_wp2_with fail
    have hB3:Below w.heap.size w ((w2.setCell ⟨w.heap.size + 2,0,none⟩ (.slice va2 (k0 + 1) vc2)).setCell ⟨w.heap.size + 2,1,none⟩ (.int .i64 ((d0:Int) + 1))):=(HB2.out.setCell (by show w.heap.size ≤ w.heap.size + 2; omega) _).setCell (by show w.heap.size ≤ w.heap.size + 2; omega) _
    have hO3:Ho ((w2.setCell ⟨w.heap.size + 2,0,none⟩ (.slice va2 (k0 + 1) vc2)).setCell ⟨w.heap.size + 2,1,none⟩ (.int .i64 ((d0:Int) + 1))) (w.heap.size + 2) #[.slice va2 (k0 + 1) vc2,.int .i64 ((d0:Int) + 1)] 136:=Ho.set (Ho.set (o:=0) (v:=.slice va2 (k0 + 1) vc2) HO2.out rfl) rfl
    have hX3:Ho ((w2.setCell ⟨w.heap.size + 2,0,none⟩ (.slice va2 (k0 + 1) vc2)).setCell ⟨w.heap.size + 2,1,none⟩ (.int .i64 ((d0:Int) + 1))) w.heap.size #[.int .i64 (t.k:Nat),.string ⟨t.t.toArray⟩,.int .i64 (t.line:Nat),.int .i64 (t.col:Nat)] 183:=(HX2.out.other (by omega)).other (by omega)
    have hY3:Ho ((w2.setCell ⟨w.heap.size + 2,0,none⟩ (.slice va2 (k0 + 1) vc2)).setCell ⟨w.heap.size + 2,1,none⟩ (.int .i64 ((d0:Int) + 1))) (w.heap.size + 1) #[.slice none 0 0,.int .i64 0] 136:=(HY2.out.other (by omega)).other (by omega)
    have hN3:NsAt w.heap.size ((w2.setCell ⟨w.heap.size + 2,0,none⟩ (.slice va2 (k0 + 1) vc2)).setCell ⟨w.heap.size + 2,1,none⟩ (.int .i64 ((d0:Int) + 1))) (.slice va2 (k0 + 1) vc2) (catN L ++ [opE t op]):=ns_set (ns_set HOW3.out HO2.out.cblk (by decide)) (Ho.set (o:=0) (v:=.slice va2 (k0 + 1) vc2) HO2.out rfl).cblk (by decide)
    generalize (w2.setCell ⟨w.heap.size + 2,0,none⟩ (.slice va2 (k0 + 1) vc2)).setCell ⟨w.heap.size + 2,1,none⟩ (.int .i64 ((d0:Int) + 1))=w3 at hB3 hO3 hX3 hY3 hN3 ⊢
    have HB3:=Lib.hid hB3
    have HO3:=Lib.hid hO3
    have HX3:=Lib.hid hX3
    have HY3:=Lib.hid hY3
    have HN3:=Lib.hid hN3
    have HP3:=Lib.hid (HBT.out w3 hB3)
    have hX3d:Ho w3.drew w.heap.size #[.int .i64 (t.k:Nat),.string ⟨t.t.toArray⟩,.int .i64 (t.line:Nat),.int .i64 (t.col:Nat)] 183:=hX3
    have HXC:Hid (∀ W,Ho W w.heap.size #[.int .i64 (t.k:Nat),.string ⟨t.t.toArray⟩,.int .i64 (t.line:Nat),.int .i64 (t.col:Nat)] 183 → W.cell? ⟨w.heap.size,0,none⟩=some (.int .i64 (t.k:Nat)) ∧ W.cell? ⟨w.heap.size,1,none⟩=some (.string ⟨t.t.toArray⟩) ∧ W.cell? ⟨w.heap.size,2,none⟩=some (.int .i64 (t.line:Nat)) ∧ W.cell? ⟨w.heap.size,3,none⟩=some (.int .i64 (t.col:Nat))):=Lib.hid (fun W hX=>⟨by rw [cell_of_row _ _ 0 _ _ _ hX]; rfl,by rw [cell_of_row _ _ 1 _ _ _ hX]; rfl,by rw [cell_of_row _ _ 2 _ _ _ hX]; rfl,by rw [cell_of_row _ _ 3 _ _ _ hX]; rfl⟩)
    clear hB3 hO3 hX3 hY3 hN3 HX2 HY2 HO2 HB2 HOW3 x0 x1 x2 x3 c0 c1 y0 y1 yf0 yf1 g0 g1 f0 f1
    refine wp_region_held_drew (S:=(fun W=>W.cell? ⟨w.heap.size,0,none⟩=some (.int .i64 (t.k:Nat)) ∧ W.cell? ⟨w.heap.size,1,none⟩=some (.string ⟨t.t.toArray⟩) ∧ W.cell? ⟨w.heap.size,2,none⟩=some (.int .i64 (t.line:Nat)) ∧ W.cell? ⟨w.heap.size,3,none⟩=some (.int .i64 (t.col:Nat)))) (by kernel_rfl) (HXC.out _ hX3d) (fun hH0=>?_)
    refine wpAnyH_take (i:=0) (v:=.pointer (some ⟨g,0,none⟩)) rfl (by kernel_rfl) (by kernel_rfl) (by kernel_rfl) (fun _ _ _ h=>h) (Or.inl ⟨by kernel_rfl,fun wS hSw=>by (try dsimp only at hSw); go_simp⟩) hH0 ?_
    refine wpAnyH_take (i:=1) (v:=.pointer (some ⟨g,0,none⟩)) rfl (by kernel_rfl) (by kernel_rfl) (by kernel_rfl) (fun _ _ _ h=>h) (Or.inl ⟨by kernel_rfl,fun wS hSw=>by (try dsimp only at hSw); go_simp⟩) hH0 ?_
    refine wpAnyH_take (i:=2) (v:=.pointer (some ⟨g,0,none⟩)) rfl (by kernel_rfl) (by kernel_rfl) (by kernel_rfl) (fun _ _ _ h=>h) (Or.inl ⟨by kernel_rfl,fun wS hSw=>by (try dsimp only at hSw); go_simp⟩) hH0 ?_
    refine wpAnyH_take (i:=3) (v:=.agg #[.int .i64 (t.k:Nat),.string ⟨t.t.toArray⟩,.int .i64 (t.line:Nat),.int .i64 (t.col:Nat)]) rfl (by kernel_rfl) (by kernel_rfl) (by kernel_rfl) (fun _ _ _ h=>h) (Or.inl ⟨by kernel_rfl,fun wS hSw=>by (try dsimp only at hSw); go_simp⟩) hH0 ?_
    refine wpAnyH_take (i:=4) (v:=.iface 44 (.int .i64 13)) rfl (by kernel_rfl) (by kernel_rfl) (by kernel_rfl) (fun _ _ _ h=>h) (Or.inl ⟨by kernel_rfl,fun wS hSw=>by (try dsimp only at hSw); go_simp⟩) hH0 ?_
    refine wpAnyH_ready (rs:=[5]) (by kernel_rfl) (by simp) ?_
    refine AllReadyH.cons rfl (fun K hK=>?_) AllReadyH.nil
    rw [if_pos (by kernel_rfl)]
    go_simp
    refine (HF.out _ (HP3.out.below ((Below.refl _ _).drew))).mono ?_
    rintro e w4 ⟨rfl,k1,k2⟩
    have hgb:=HP3.out.cblk
    have k3:Kp (K1 g) w3 w4:=(Kp.of_below ((Below.refl _ _).drew)).trans k2
    have hgne:g < w.heap.size:=hg
    have HX4:Hid (Ho w4 w.heap.size #[.int .i64 (t.k:Nat),.string ⟨t.t.toArray⟩,.int .i64 (t.line:Nat),.int .i64 (t.col:Nat)] 183):=Lib.hid ((k3.block _ HX3.out.lt (by show ¬ w.heap.size=g; omega)).trans HX3.out)
    have HY4:Hid (Ho w4 (w.heap.size + 1) #[.slice none 0 0,.int .i64 0] 136):=Lib.hid ((k3.block _ HY3.out.lt (by show ¬ w.heap.size + 1=g; omega)).trans HY3.out)
    have HO4:Hid (Ho w4 (w.heap.size + 2) #[.slice va2 (k0 + 1) vc2,.int .i64 ((d0:Int) + 1)] 136):=Lib.hid ((k3.block _ HO3.out.lt (by show ¬ w.heap.size + 2=g; omega)).trans HO3.out)
    have HN4:=Lib.hid (HN3.out.kp hgb k3)
    have HP4:=Lib.hid k1
    have HK4:=Lib.hid ((Kp.of_below HB3.out).trans k3)
    clear k1 k2 k3 hgb
    refine hK.out _ _ (HXC.out _ HX4.out) (fun hH1=>?_)
    clear hK K
    refine wpAnyH_done (by kernel_rfl) ?_ _
    go_simp
    have y0:w4.cell? ⟨w.heap.size + 1,0,none⟩=some (.slice none 0 0):=by rw [cell_of_row _ _ 0 _ _ _ HY4.out]; rfl
    have y1:w4.cell? ⟨w.heap.size + 1,1,none⟩=some (.int .i64 0):=by rw [cell_of_row _ _ 1 _ _ _ HY4.out]; rfl
    have yf0:w4.frozen? ⟨w.heap.size + 1,0,none⟩=false:=frozen_of_row _ _ 0 _ _ HY4.out
    have yf1:w4.frozen? ⟨w.heap.size + 1,1,none⟩=false:=frozen_of_row _ _ 1 _ _ HY4.out
    have c0:w4.cell? ⟨w.heap.size + 2,0,none⟩=some (.slice va2 (k0 + 1) vc2):=by rw [cell_of_row _ _ 0 _ _ _ HO4.out]; rfl
    have c1:w4.cell? ⟨w.heap.size + 2,1,none⟩=some (.int .i64 ((d0:Int) + 1)):=by rw [cell_of_row _ _ 1 _ _ _ HO4.out]; rfl
    have hw4:w.heap.size + 2 < w4.heap.size:=HO4.out.lt
    clear hH0 hH1 hX3d
    go_wp2_with fail
    refine bodyPost_ret (v:=.agg #[.slice va2 (k0 + 1) vc2,.int .i64 ((d0:Int) + 1)]) ?_ rfl ⟨⟨_,rfl,⟨.slice va2 (k0 + 1) vc2,?_,?_⟩⟩,?_,?_⟩
    ·refine cs_result1 rfl _ _ _ (a:=⟨w.heap.size + 1,0,none⟩) (by rfl) ?_
     go_simp
    ·rw [HRM.out]; rfl
    ·rw [HRM.out]
     exact ns_set (ns_set HN4.out HY4.out.cblk (by decide)) (Ho.set (o:=0) (v:=.slice va2 (k0 + 1) vc2) HY4.out rfl).cblk (by decide)
    ·rw [HRM.out]
     exact (HP4.out.setT HY4.out.cblk (by decide) (by decide) (by decide)).setT (Ho.set (o:=0) (v:=.slice va2 (k0 + 1) vc2) HY4.out rfl).cblk (by decide) (by decide) (by decide)
    ·exact par_setNew (par_setNew HK4.out (by omega) _) (by omega) _
   case neg =>
    have t64:decide ((64:Int) < (d0:Int) + 1)=false:=decide_eq_false (by omega)
    have HRM:=HRL.out
    rw [if_neg h64] at HRM
    replace HRM:=Lib.hid HRM
    clear h64 HRL
    go_wp2_with fail
    refine bodyPost_ret (v:=.agg #[.slice va2 (k0 + 1) vc2,.int .i64 ((d0:Int) + 1)]) ?_ rfl ⟨⟨_,rfl,⟨.slice va2 (k0 + 1) vc2,?_,?_⟩⟩,?_,?_⟩
    ·refine cs_result1 rfl _ _ _ (a:=⟨w.heap.size + 1,0,none⟩) (by rfl) ?_
     go_simp
    ·rw [HRM.out]; rfl
    ·rw [HRM.out]
     have hO3:=Ho.set (o:=1) (v:=.int .i64 ((d0:Int) + 1)) (Ho.set (o:=0) (v:=.slice va2 (k0 + 1) vc2) HO2.out rfl) rfl
     have hY3:Ho ((w2.setCell ⟨w.heap.size + 2,0,none⟩ (.slice va2 (k0 + 1) vc2)).setCell ⟨w.heap.size + 2,1,none⟩ (.int .i64 ((d0:Int) + 1))) (w.heap.size + 1) #[.slice none 0 0,.int .i64 0] 136:=(HY2.out.other (by omega)).other (by omega)
     exact ns_set (ns_set (ns_set (ns_set HOW3.out HO2.out.cblk (by decide)) (Ho.set (o:=0) (v:=.slice va2 (k0 + 1) vc2) HO2.out rfl).cblk (by decide)) hY3.cblk (by decide)) (Ho.set (o:=0) (v:=.slice va2 (k0 + 1) vc2) hY3 rfl).cblk (by decide)
    ·rw [HRM.out]
     refine HBT.out _ ?_
     repeat' (first | (with_reducible exact HB2.out) | with_reducible refine Below.setCell ?_ (by simp <;> omega) _)
    ·refine Kp.of_below ?_
     repeat' (first | (with_reducible exact HB2.out) | with_reducible refine Below.setCell ?_ (by simp <;> omega) _)
end Go.Proofs.YtiafhfchjhffhaaGreatDoor
