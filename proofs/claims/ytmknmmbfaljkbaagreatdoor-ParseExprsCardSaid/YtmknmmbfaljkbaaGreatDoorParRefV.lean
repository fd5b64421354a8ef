/- paclaim: ParRefV -/
import Derived.Test.YtmknmmbfaljkbaaGreatDoorLowR3
import Derived.Test.YtmknmmbfaljkbaaGreatDoorLowPa5
import Derived.Test.YtmknmmbfaljkbaaGreatDoorLowR1
import Derived.Deep.Cut
namespace Go.Proofs.YtmknmmbfaljkbaaGreatDoor
open Go.RowKit
set_option linter.unusedVariables false
theorem par_result3 {fn:Func} {p q r:Tmp} {ty tz:TypeId} (h:fn.results=#[.cell p ty,.cell q tz,.tmp r]) (tmps:Array Value) (P:Program) (w:World) {a b:Addr} {u v x:Value}
  (h0:(asAddr (tmps.getD p undef)).run P w=.ok a w) (h1:(loadVar ty a).run P w=.ok u w) (h2:(asAddr (tmps.getD q undef)).run P w=.ok b w) (h3:(loadVar tz b).run P w=.ok v w) (h4:tmps.getD r undef=x):(results fn tmps).run P w=.ok (.tuple #[u,v,x]) w:=by
 rw [Array.getD_eq_getD_getElem?] at h0 h2 h4
 simp [results,h,Sem.run_bind,Result.andThen,h0,h1,h2,h3,h4]
theorem vd_cells {W:World} {b:Nat} {u v x y:Value} {T:TypeId} (h:Ho W b #[u,v,x,y] T):W.cell? ⟨b,0,none⟩=some u ∧ W.cell? ⟨b,1,none⟩=some v ∧ W.cell? ⟨b,2,none⟩=some x ∧ W.cell? ⟨b,3,none⟩=some y ∧ W.frozen? ⟨b,0,none⟩=false ∧ W.frozen? ⟨b,1,none⟩=false ∧ W.frozen? ⟨b,2,none⟩=false ∧ W.frozen? ⟨b,3,none⟩=false :=
 ⟨by rw [cell_of_row _ _ 0 _ _ _ h]; rfl,by rw [cell_of_row _ _ 1 _ _ _ h]; rfl,by rw [cell_of_row _ _ 2 _ _ _ h]; rfl,by rw [cell_of_row _ _ 3 _ _ _ h]; rfl,frozen_of_row _ _ 0 _ _ h,frozen_of_row _ _ 1 _ _ h,frozen_of_row _ _ 2 _ _ h,frozen_of_row _ _ 3 _ _ h⟩
structure VB (w:World) (p:Pl) (W:World):Prop where
 pl:Ho W w.heap.size #[.int .i64 (p.a:Nat),.int .i64 (p.er:Nat),.int .i64 (p.line:Nat),.int .i64 (p.col:Nat),.int .i64 p.op] 33
 va:Ho W (w.heap.size + 1) #[.int .i64 0,.int .i64 0,.string ⟨#[]⟩,.bool false] 39
 qa:Ho W (w.heap.size + 2) #[.int .i64 0,.int .i64 0,.int .i64 0,.int .i64 0,.int .i64 0] 33
 no:Ho W (w.heap.size + 3) #[.int .i64 0,.int .i64 0,.string ⟨#[]⟩,.bool false] 39
 below:Below w.heap.size w W
theorem VB.step {w W W':World} {p:Pl} (h:VB w p W) (k:Below W.heap.size W W'):VB w p W' :=
 ⟨h.pl.below k,h.va.below k,h.qa.below k,h.no.below k,h.below.trans (k.mono h.below.size)⟩
theorem VB.fin {w W:World} {p:Pl} (h:VB w p W) (a b c d e f g h1 i:Value):Below w.heap.size w (((((((((W.setCell ⟨w.heap.size + 1,0,none⟩ a).setCell ⟨w.heap.size + 1,1,none⟩ b).setCell ⟨w.heap.size + 1,2,none⟩ c).setCell ⟨w.heap.size + 1,3,none⟩ d).setCell ⟨w.heap.size + 2,0,none⟩ e).setCell ⟨w.heap.size + 2,1,none⟩ f).setCell ⟨w.heap.size + 2,2,none⟩ g).setCell ⟨w.heap.size + 2,3,none⟩ h1).setCell ⟨w.heap.size + 2,4,none⟩ i):=by
 repeat' (first | (with_reducible exact h.below) | with_reducible refine Below.setCell ?_ (by simp <;> omega) _)
theorem VB.far {w W:World} {p:Pl} (h:VB w p W) {g:Nat} (hg:w.heap.size + 3 < g) (j:Nat) (v:Value):VB w p (W.setCell ⟨g,j,none⟩ v) :=
 ⟨h.pl.other (by omega),h.va.other (by omega),h.qa.other (by omega),h.no.other (by omega),h.below.setCell (by show w.heap.size ≤ g; omega) _⟩
def valR (v:Vd) (p:Pl) (b:Bool):Value:=.tuple #[vdV v,plV p,.bool b]
set_option maxHeartbeats 16000000 in
set_option maxRecDepth 100000 in
theorem refValue_calls (ta:Option Addr) (tc:Nat) (M:List Tk) (p:Pl) (w:World) (h:TkIn w 37 ta M.length M) (hM:MOk M) (hp:p.a ≤ M.length) :
  Calls Tryz.prog 111 #[.slice ta M.length tc,plV p] w fun e w'=>e=.returned (valR (valueP M p).1 (valueP M p).2.1 (valueP M p).2.2) ∧ Below w.heap.size w w':=by
 have hml:=hM.len
 have HIS:=Lib.hid (fun s w1 (h1:Below w.heap.size w w1) q (hq:q.a ≤ M.length)=>refIs_calls ta tc M q s w1 (h.below h1) hml hq)
 have HSK:=Lib.hid (fun q w1 hq=>refSkip_calls q w1 hq)
 have HST:=Lib.hid (fun w1 (h1:Below w.heap.size w w1) q (hq:q.a ≤ M.length)=>refStop_calls ta tc 5 M q w1 (h.below h1) hml hq)
 have HNU:=Lib.hid (fun s w1 hs=>refNumber_calls s w1 hs)
 by_cases he:p.er=0
 case neg =>
  have t1:((p.er:Int) != 0)=true:=by rw [bne_iff_ne]; omega
  have HV:Hid (valueP M p=(v0,p,false)):=Lib.hid (by unfold valueP; rw [if_neg he])
  clear he h hp
  unfold plV
  go_enter Tryz.func111,Tryz.ntmps111
  go_upto_region 2 with fail
  have hVB:VB w p ((((w.alloc (.cells #[.int .i64 (p.a:Nat),.int .i64 (p.er:Nat),.int .i64 (p.line:Nat),.int .i64 (p.col:Nat),.int .i64 p.op] 33)).alloc (.cells #[.int .i64 0,.int .i64 0,.string ⟨#[]⟩,.bool false] 39)).alloc (.cells #[.int .i64 0,.int .i64 0,.int .i64 0,.int .i64 0,.int .i64 0] 33)).alloc (.cells #[.int .i64 0,.int .i64 0,.string ⟨#[]⟩,.bool false] 39)):=⟨((((Ho.new _ _ _ rfl).alloc _).alloc _).alloc _),((Ho.new _ _ _ (by simp)).alloc _).alloc _,(Ho.new _ _ _ (by simp)).alloc _,Ho.new _ _ _ (by simp),(((((Below.refl _ _).alloc (Nat.le_refl _) _).alloc (by simp) _).alloc (by simp <;> omega) _).alloc (by simp <;> omega) _)⟩
  generalize (((w.alloc (.cells #[.int .i64 (p.a:Nat),.int .i64 (p.er:Nat),.int .i64 (p.line:Nat),.int .i64 (p.col:Nat),.int .i64 p.op] 33)).alloc (.cells #[.int .i64 0,.int .i64 0,.string ⟨#[]⟩,.bool false] 39)).alloc (.cells #[.int .i64 0,.int .i64 0,.int .i64 0,.int .i64 0,.int .i64 0] 33)).alloc (.cells #[.int .i64 0,.int .i64 0,.string ⟨#[]⟩,.bool false] 39)=w0 at hVB ⊢
  have HV0:=Lib.hid hVB
  clear hVB
  obtain ⟨p0,p1,p2,p3,p4⟩:=pl5 HV0.out.pl
  have hpl:=HV0.out.pl.lt
  obtain ⟨n0,n1,n2,n3,_⟩:=vd_cells HV0.out.no
  obtain ⟨v0',v1',v2',v3',vf0,vf1,vf2,vf3⟩:=vd_cells HV0.out.va
  obtain ⟨q0',q1',q2',q3',q4'⟩:=pl5 HV0.out.qa
  obtain ⟨qf0,qf1,qf2,qf3,qf4⟩:=pl5f HV0.out.qa
  have hno:=HV0.out.no.lt
  have hva:=HV0.out.va.lt
  have hqa:=HV0.out.qa.lt
  go_wp2_with fail
  go_region
  all_goals (go_wp2_with fail)
  all_goals (try simp only [Exit.inBlock,Exit.then])
  (try simp only [Exit.inBlock,Exit.then])
  refine bodyPost_ret (v:=.tuple #[.agg #[.int .i64 0,.int .i64 0,.string ⟨#[]⟩,.bool false],.agg #[.int .i64 (p.a:Nat),.int .i64 (p.er:Nat),.int .i64 (p.line:Nat),.int .i64 (p.col:Nat),.int .i64 p.op],.bool false]) ?_ rfl ⟨by rw [HV.out]; rfl,?_⟩
  ·refine par_result3 rfl _ _ _ (a:=⟨w.heap.size + 1,0,none⟩) (b:=⟨w.heap.size + 2,0,none⟩) (by rfl) ?_ (by rfl) ?_ (by rfl)
   ·go_simp
   ·go_simp
  ·repeat' (first | (with_reducible exact HV0.out.below) | with_reducible refine Below.setCell ?_ (by simp <;> omega) _ | with_reducible refine Below.drew ?_ | with_reducible refine Below.alloc ?_ (by simp <;> omega) _)
 case pos =>
 have t1:((p.er:Int) != 0)=false:=by rw [he]; rfl
 by_cases hl:p.a < M.length
 case neg =>
  have t2:decide (M.length ≤ p.a)=true:=decide_eq_true (by omega)
  have HV:Hid (valueP M p=(v0,p,false)):=Lib.hid (by unfold valueP; rw [if_pos he,List.getElem?_eq_none (by omega)])
  clear he h hp
  unfold plV
  go_enter Tryz.func111,Tryz.ntmps111
  go_upto_region 2 with fail
  have hVB:VB w p ((((w.alloc (.cells #[.int .i64 (p.a:Nat),.int .i64 (p.er:Nat),.int .i64 (p.line:Nat),.int .i64 (p.col:Nat),.int .i64 p.op] 33)).alloc (.cells #[.int .i64 0,.int .i64 0,.string ⟨#[]⟩,.bool false] 39)).alloc (.cells #[.int .i64 0,.int .i64 0,.int .i64 0,.int .i64 0,.int .i64 0] 33)).alloc (.cells #[.int .i64 0,.int .i64 0,.string ⟨#[]⟩,.bool false] 39)):=⟨((((Ho.new _ _ _ rfl).alloc _).alloc _).alloc _),((Ho.new _ _ _ (by simp)).alloc _).alloc _,(Ho.new _ _ _ (by simp)).alloc _,Ho.new _ _ _ (by simp),(((((Below.refl _ _).alloc (Nat.le_refl _) _).alloc (by simp) _).alloc (by simp <;> omega) _).alloc (by simp <;> omega) _)⟩
  generalize (((w.alloc (.cells #[.int .i64 (p.a:Nat),.int .i64 (p.er:Nat),.int .i64 (p.line:Nat),.int .i64 (p.col:Nat),.int .i64 p.op] 33)).alloc (.cells #[.int .i64 0,.int .i64 0,.string ⟨#[]⟩,.bool false] 39)).alloc (.cells #[.int .i64 0,.int .i64 0,.int .i64 0,.int .i64 0,.int .i64 0] 33)).alloc (.cells #[.int .i64 0,.int .i64 0,.string ⟨#[]⟩,.bool false] 39)=w0 at hVB ⊢
  have HV0:=Lib.hid hVB
  clear hVB
  obtain ⟨p0,p1,p2,p3,p4⟩:=pl5 HV0.out.pl
  have hpl:=HV0.out.pl.lt
  obtain ⟨n0,n1,n2,n3,_⟩:=vd_cells HV0.out.no
  obtain ⟨v0',v1',v2',v3',vf0,vf1,vf2,vf3⟩:=vd_cells HV0.out.va
  obtain ⟨q0',q1',q2',q3',q4'⟩:=pl5 HV0.out.qa
  obtain ⟨qf0,qf1,qf2,qf3,qf4⟩:=pl5f HV0.out.qa
  have hno:=HV0.out.no.lt
  have hva:=HV0.out.va.lt
  have hqa:=HV0.out.qa.lt
  go_wp2_with fail
  go_region
  all_goals (go_wp2_with fail)
  all_goals (try simp only [Exit.inBlock,Exit.then])
  (try simp only [Exit.inBlock,Exit.then])
  refine bodyPost_ret (v:=.tuple #[.agg #[.int .i64 0,.int .i64 0,.string ⟨#[]⟩,.bool false],.agg #[.int .i64 (p.a:Nat),.int .i64 (p.er:Nat),.int .i64 (p.line:Nat),.int .i64 (p.col:Nat),.int .i64 p.op],.bool false]) ?_ rfl ⟨by rw [HV.out]; rfl,?_⟩
  ·refine par_result3 rfl _ _ _ (a:=⟨w.heap.size + 1,0,none⟩) (b:=⟨w.heap.size + 2,0,none⟩) (by rfl) ?_ (by rfl) ?_ (by rfl)
   ·go_simp
   ·go_simp
  ·repeat' (first | (with_reducible exact HV0.out.below) | with_reducible refine Below.setCell ?_ (by simp <;> omega) _ | with_reducible refine Below.drew ?_ | with_reducible refine Below.alloc ?_ (by simp <;> omega) _)
 case pos =>
 have t2:decide (M.length ≤ p.a)=false:=decide_eq_false (by omega)
 have b2:p.a ≤ 1000000:=by omega
 obtain ⟨tb,off,rfl,htb,d0,d1,d2,d3⟩:=rtk_cells h hl
 have hXM:=hM.texts _ (List.mem_of_getElem? (tk_at hl))
 have HXV:Hid (valueP M p=if (tkAt M p.a).k=4 then (vStr (tkAt M p.a).t,skipP p,true) else if isP M p kwTrue=true ∨ isP M p kwFalse=true then (vBool ((tkAt M p.a).t == kwTrue),skipP p,true) else if isP M p [45]=true then numP M p (skipP p) true else numP M p p false):=Lib.hid (by unfold valueP; rw [if_pos he,tk_at hl])
 obtain ⟨x,hx⟩:∃ x,x=tkAt M p.a:=⟨_,rfl⟩
 have HXX:=Lib.hid hx
 rw [← hx] at d0 d1 d2 d3 HXV hXM
 clear hx
 have t3:p.a < M.length:=hl
 by_cases k4:x.k=4
 case pos =>
  have t4:((x.k:Int) == 4)=true:=by rw [k4]; rfl
  have HV:Hid (valueP M p=(vStr x.t,skipP p,true)):=Lib.hid (by rw [HXV.out,if_pos k4])
  have HSKp:=Lib.hid (fun w1=>HSK.out p w1 (by omega))
  clear he h hp k4 hl HXV HIS HST HNU HSK
  unfold plV at HSKp
  unfold plV
  go_enter Tryz.func111,Tryz.ntmps111
  go_upto_region 2 with fail
  have hVB:VB w p ((((w.alloc (.cells #[.int .i64 (p.a:Nat),.int .i64 (p.er:Nat),.int .i64 (p.line:Nat),.int .i64 (p.col:Nat),.int .i64 p.op] 33)).alloc (.cells #[.int .i64 0,.int .i64 0,.string ⟨#[]⟩,.bool false] 39)).alloc (.cells #[.int .i64 0,.int .i64 0,.int .i64 0,.int .i64 0,.int .i64 0] 33)).alloc (.cells #[.int .i64 0,.int .i64 0,.string ⟨#[]⟩,.bool false] 39)):=⟨((((Ho.new _ _ _ rfl).alloc _).alloc _).alloc _),((Ho.new _ _ _ (by simp)).alloc _).alloc _,(Ho.new _ _ _ (by simp)).alloc _,Ho.new _ _ _ (by simp),(((((Below.refl _ _).alloc (Nat.le_refl _) _).alloc (by simp) _).alloc (by simp <;> omega) _).alloc (by simp <;> omega) _)⟩
  generalize (((w.alloc (.cells #[.int .i64 (p.a:Nat),.int .i64 (p.er:Nat),.int .i64 (p.line:Nat),.int .i64 (p.col:Nat),.int .i64 p.op] 33)).alloc (.cells #[.int .i64 0,.int .i64 0,.string ⟨#[]⟩,.bool false] 39)).alloc (.cells #[.int .i64 0,.int .i64 0,.int .i64 0,.int .i64 0,.int .i64 0] 33)).alloc (.cells #[.int .i64 0,.int .i64 0,.string ⟨#[]⟩,.bool false] 39)=w0 at hVB ⊢
  have HV0:=Lib.hid hVB
  clear hVB
  obtain ⟨p0,p1,p2,p3,p4⟩:=pl5 HV0.out.pl
  have hpl:=HV0.out.pl.lt
  have e0:w0.cell? ⟨tb,off + p.a * 4,none⟩=some (.int .i64 (x.k:Nat)):=(HV0.out.below.cell (p:=⟨tb,_,none⟩) htb).trans d0
  have e1:w0.cell? ⟨tb,off + p.a * 4 + 1,none⟩=some (.string ⟨x.t.toArray⟩):=(HV0.out.below.cell (p:=⟨tb,_,none⟩) htb).trans d1
  have e2:w0.cell? ⟨tb,off + p.a * 4 + 2,none⟩=some (.int .i64 (x.line:Nat)):=(HV0.out.below.cell (p:=⟨tb,_,none⟩) htb).trans d2
  have e3:w0.cell? ⟨tb,off + p.a * 4 + 3,none⟩=some (.int .i64 (x.col:Nat)):=(HV0.out.below.cell (p:=⟨tb,_,none⟩) htb).trans d3
  have htb0:tb < w0.heap.size:=by have:=HV0.out.below.size; omega
  go_upto_region 5 with fail
  have hA:Below w0.heap.size w0 (w0.alloc (.cells #[.int .i64 (x.k:Nat),.string ⟨x.t.toArray⟩,.int .i64 (x.line:Nat),.int .i64 (x.col:Nat)] 37)):=(Below.refl _ _).alloc (Nat.le_refl _) _
  have hT1:Ho (w0.alloc (.cells #[.int .i64 (x.k:Nat),.string ⟨x.t.toArray⟩,.int .i64 (x.line:Nat),.int .i64 (x.col:Nat)] 37)) w0.heap.size #[.int .i64 (x.k:Nat),.string ⟨x.t.toArray⟩,.int .i64 (x.line:Nat),.int .i64 (x.col:Nat)] 37:=Ho.new _ _ _ rfl
  have hV1:=HV0.out.step hA
  generalize w0.alloc (.cells #[.int .i64 (x.k:Nat),.string ⟨x.t.toArray⟩,.int .i64 (x.line:Nat),.int .i64 (x.col:Nat)] 37)=w1 at hA hT1 hV1 ⊢
  have HT1:=Lib.hid hT1
  have HV1:=Lib.hid hV1
  clear hA hT1 hV1 e0 e1 e2 e3 p0 p1 p2 p3 p4 hpl
  obtain ⟨x0,x1,_,_⟩:=vd_cells HT1.out
  have hxl:=HT1.out.lt
  have HS:Hid (∀ W,VB w p W → Ho W w0.heap.size #[.int .i64 (x.k:Nat),.string ⟨x.t.toArray⟩,.int .i64 (x.line:Nat),.int .i64 (x.col:Nat)] 37 → (W.cell? ⟨w.heap.size,0,none⟩=some (.int .i64 (p.a:Nat)) ∧ W.cell? ⟨w.heap.size,1,none⟩=some (.int .i64 (p.er:Nat)) ∧ W.cell? ⟨w.heap.size,2,none⟩=some (.int .i64 (p.line:Nat)) ∧ W.cell? ⟨w.heap.size,3,none⟩=some (.int .i64 (p.col:Nat)) ∧ W.cell? ⟨w.heap.size,4,none⟩=some (.int .i64 p.op) ∧ W.cell? ⟨w0.heap.size,1,none⟩=some (.string ⟨x.t.toArray⟩))):=Lib.hid (fun W h1 h2=>⟨(pl5 h1.pl).1,(pl5 h1.pl).2.1,(pl5 h1.pl).2.2.1,(pl5 h1.pl).2.2.2.1,(pl5 h1.pl).2.2.2.2,(vd_cells h2).2.1⟩)
  go_wp2_with fail
  clear x0 x1 hxl
  have HVy:=HV1
  have HTy:=HT1
  refine wp_region_B (S:=(fun W=>W.cell? ⟨w.heap.size,0,none⟩=some (.int .i64 (p.a:Nat)) ∧ W.cell? ⟨w.heap.size,1,none⟩=some (.int .i64 (p.er:Nat)) ∧ W.cell? ⟨w.heap.size,2,none⟩=some (.int .i64 (p.line:Nat)) ∧ W.cell? ⟨w.heap.size,3,none⟩=some (.int .i64 (p.col:Nat)) ∧ W.cell? ⟨w.heap.size,4,none⟩=some (.int .i64 p.op) ∧ W.cell? ⟨w0.heap.size,1,none⟩=some (.string ⟨x.t.toArray⟩))) [5,6,7] (by kernel_rfl) (HS.out w1.drew ⟨HVy.out.pl,HVy.out.va,HVy.out.qa,HVy.out.no,HVy.out.below.drew⟩ HTy.out) (fun hH0=>?_)
  refine wpB_take (i:=0) (v:=.pointer (some ⟨w0.heap.size,1,none⟩)) [5,6,7] rfl (by kernel_rfl) (by kernel_rfl) (by kernel_rfl) (by kernel_rfl) (fun _ _ _ h=>h) (Or.inl ⟨by kernel_rfl,fun wS hSw=>by (try dsimp only at hSw); go_simp⟩) hH0 ?_
  refine wpB_take (i:=1) (v:=.string ⟨x.t.toArray⟩) [5,6,7] rfl (by kernel_rfl) (by kernel_rfl) (by kernel_rfl) (by kernel_rfl) (fun _ _ _ h=>h) (Or.inl ⟨by kernel_rfl,fun wS hSw=>by (try dsimp only at hSw); go_simp⟩) hH0 ?_
  refine wpB_take (i:=2) (v:=.agg #[.int .i64 2,.int .i64 0,.string ⟨x.t.toArray⟩,.bool false]) [5,6,7] rfl (by kernel_rfl) (by kernel_rfl) (by kernel_rfl) (by kernel_rfl) (fun _ _ _ h=>h) (Or.inl ⟨by kernel_rfl,fun wS hSw=>by (try dsimp only at hSw); go_simp⟩) hH0 ?_
  refine wpB_take (i:=3) (v:=.agg #[.int .i64 (p.a:Nat),.int .i64 (p.er:Nat),.int .i64 (p.line:Nat),.int .i64 (p.col:Nat),.int .i64 p.op]) [4,5,6,7] rfl (by kernel_rfl) (by kernel_rfl) (by kernel_rfl) (by kernel_rfl) (fun _ _ _ h=>h) (Or.inl ⟨by kernel_rfl,fun wS hSw=>by (try dsimp only at hSw); go_simp⟩) hH0 ?_
  refine wpB_step (i:=4) rfl (by kernel_rfl) (fun K hK=>?_)
  rw [if_pos (by kernel_rfl)]
  go_simp
  refine (HSKp.out _).mono ?_
  rintro e wz ⟨rfl,k1⟩
  have k2:Below w1.heap.size w1 wz:=((Below.refl w1.heap.size w1).drew).trans k1
  have HVz:=Lib.hid (HVy.out.step k2)
  have HTz:=Lib.hid (HTy.out.below k2)
  clear k1 k2
  refine hK.out _ _ (HS.out wz HVz.out HTz.out) (fun hH1=>?_)
  clear hK K
  obtain ⟨v0',v1',v2',v3',vf0,vf1,vf2,vf3⟩:=vd_cells HVz.out.va
  obtain ⟨q0',q1',q2',q3',q4'⟩:=pl5 HVz.out.qa
  obtain ⟨qf0,qf1,qf2,qf3,qf4⟩:=pl5f HVz.out.qa
  have hva:=HVz.out.va.lt
  have hqa:=HVz.out.qa.lt
  refine wpB_past (i:=5) rfl (by kernel_rfl) (by kernel_rfl) (fun K hK=>?_)
  rw [if_pos (by kernel_rfl)]
  go_simp
  refine hK.out _ _ ?_
  clear hK K
  refine wpB_past (i:=6) rfl (by kernel_rfl) (by kernel_rfl) (fun K hK=>?_)
  rw [if_pos (by kernel_rfl)]
  go_simp
  refine hK.out _ _ ?_
  clear hK K
  refine wpB_past (i:=7) rfl (by kernel_rfl) (by kernel_rfl) (fun K hK=>?_)
  rw [if_pos (by kernel_rfl)]
  go_simp
  refine hK.out _ _ ?_
  clear hK K
  refine wpB_done (by kernel_rfl) ?_ _
  go_simp
  go_wp2_with fail
  (try simp only [Exit.inBlock,Exit.then])
  refine bodyPost_ret (v:=.tuple #[.agg #[.int .i64 2,.int .i64 0,.string ⟨x.t.toArray⟩,.bool false],.agg #[.int .i64 ((skipP p).a:Nat),.int .i64 ((skipP p).er:Nat),.int .i64 ((skipP p).line:Nat),.int .i64 ((skipP p).col:Nat),.int .i64 (skipP p).op],.bool true]) ?_ rfl ⟨by rw [HV.out]; rfl,?_⟩
  ·refine par_result3 rfl _ _ _ (a:=⟨w.heap.size + 1,0,none⟩) (b:=⟨w.heap.size + 2,0,none⟩) (by rfl) ?_ (by rfl) ?_ (by rfl)
   ·go_simp
   ·go_simp
  ·repeat' (first | (with_reducible exact HVz.out.below) | with_reducible refine Below.setCell ?_ (by simp <;> omega) _ | with_reducible refine Below.drew ?_ | with_reducible refine Below.alloc ?_ (by simp <;> omega) _)
 case neg =>
 have t4:((x.k:Int) == 4)=false:=by rw [beq_eq_false_iff_ne]; omega
 have n1:(⟨#[116,114,117,101]⟩:ByteArray).toList=[116,114,117,101]:=by rw [sc_tl]
 have n2:(⟨#[48]⟩:ByteArray).toList=[48]:=by rw [sc_tl]
 have HIS:Hid (∀ (s:ByteArray) (r:Bool) (w1:World),isP M p s.data.toList=r → Below w.heap.size w w1 → Calls Tryz.prog 16 #[.slice (some ⟨tb,off,none⟩) M.length tc,plV p,.string s] w1 fun e w'=>e=.returned (.bool r) ∧ Below w1.heap.size w1 w'):=Lib.hid (fun s r w1 hr hb=>by
  have:=HIS.out s w1 hb p hp
  rw [hr] at this
  exact this)
 have HIP:Hid (∀ s,isP M p s=((x.k == 2 || x.k == 5) && x.t == s)):=Lib.hid (fun s=>by
  rw [isP_peek]; unfold peekC; rw [if_pos he,← HXX.out])
 by_cases hT:isP M p kwTrue=true
 case pos =>
  have HI1:Hid (∀ w1,Below w.heap.size w w1 → Calls Tryz.prog 16 #[.slice (some ⟨tb,off,none⟩) M.length tc,plV p,.string ⟨#[116,114,117,101]⟩] w1 fun e w'=>e=.returned (.bool true) ∧ Below w1.heap.size w1 w'):=Lib.hid (fun w1 hb=>HIS.out ⟨#[116,114,117,101]⟩ true w1 hT hb)
  have hxt:(x.t == [116,114,117,101])=true:=by
   have:=HIP.out kwTrue
   rw [hT] at this
   exact (Bool.and_eq_true _ _ ▸ this.symm).2
  have HV:Hid (valueP M p=(vBool true,skipP p,true)):=Lib.hid (by rw [HXV.out,if_neg k4,if_pos (.inl hT),show kwTrue=[116,114,117,101] from rfl,hxt])
  have HSKp:=Lib.hid (fun w1=>HSK.out p w1 (by omega))
  clear he h hp k4 hl HXV HIS HST HNU HSK HIP hT HXX
  unfold plV at HSKp HI1
  unfold plV
  go_enter Tryz.func111,Tryz.ntmps111
  go_upto_region 2 with fail
  have hVB:VB w p ((((w.alloc (.cells #[.int .i64 (p.a:Nat),.int .i64 (p.er:Nat),.int .i64 (p.line:Nat),.int .i64 (p.col:Nat),.int .i64 p.op] 33)).alloc (.cells #[.int .i64 0,.int .i64 0,.string ⟨#[]⟩,.bool false] 39)).alloc (.cells #[.int .i64 0,.int .i64 0,.int .i64 0,.int .i64 0,.int .i64 0] 33)).alloc (.cells #[.int .i64 0,.int .i64 0,.string ⟨#[]⟩,.bool false] 39)):=⟨((((Ho.new _ _ _ rfl).alloc _).alloc _).alloc _),((Ho.new _ _ _ (by simp)).alloc _).alloc _,(Ho.new _ _ _ (by simp)).alloc _,Ho.new _ _ _ (by simp),(((((Below.refl _ _).alloc (Nat.le_refl _) _).alloc (by simp) _).alloc (by simp <;> omega) _).alloc (by simp <;> omega) _)⟩
  generalize (((w.alloc (.cells #[.int .i64 (p.a:Nat),.int .i64 (p.er:Nat),.int .i64 (p.line:Nat),.int .i64 (p.col:Nat),.int .i64 p.op] 33)).alloc (.cells #[.int .i64 0,.int .i64 0,.string ⟨#[]⟩,.bool false] 39)).alloc (.cells #[.int .i64 0,.int .i64 0,.int .i64 0,.int .i64 0,.int .i64 0] 33)).alloc (.cells #[.int .i64 0,.int .i64 0,.string ⟨#[]⟩,.bool false] 39)=w0 at hVB ⊢
  have HV0:=Lib.hid hVB
  clear hVB
  obtain ⟨p0,p1,p2,p3,p4⟩:=pl5 HV0.out.pl
  have hpl:=HV0.out.pl.lt
  have e0:w0.cell? ⟨tb,off + p.a * 4,none⟩=some (.int .i64 (x.k:Nat)):=(HV0.out.below.cell (p:=⟨tb,_,none⟩) htb).trans d0
  have e1:w0.cell? ⟨tb,off + p.a * 4 + 1,none⟩=some (.string ⟨x.t.toArray⟩):=(HV0.out.below.cell (p:=⟨tb,_,none⟩) htb).trans d1
  have e2:w0.cell? ⟨tb,off + p.a * 4 + 2,none⟩=some (.int .i64 (x.line:Nat)):=(HV0.out.below.cell (p:=⟨tb,_,none⟩) htb).trans d2
  have e3:w0.cell? ⟨tb,off + p.a * 4 + 3,none⟩=some (.int .i64 (x.col:Nat)):=(HV0.out.below.cell (p:=⟨tb,_,none⟩) htb).trans d3
  have htb0:tb < w0.heap.size:=by have:=HV0.out.below.size; omega
  go_upto_region 5 with fail
  have hA:Below w0.heap.size w0 (w0.alloc (.cells #[.int .i64 (x.k:Nat),.string ⟨x.t.toArray⟩,.int .i64 (x.line:Nat),.int .i64 (x.col:Nat)] 37)):=(Below.refl _ _).alloc (Nat.le_refl _) _
  have hT1:Ho (w0.alloc (.cells #[.int .i64 (x.k:Nat),.string ⟨x.t.toArray⟩,.int .i64 (x.line:Nat),.int .i64 (x.col:Nat)] 37)) w0.heap.size #[.int .i64 (x.k:Nat),.string ⟨x.t.toArray⟩,.int .i64 (x.line:Nat),.int .i64 (x.col:Nat)] 37:=Ho.new _ _ _ rfl
  have hV1:=HV0.out.step hA
  generalize w0.alloc (.cells #[.int .i64 (x.k:Nat),.string ⟨x.t.toArray⟩,.int .i64 (x.line:Nat),.int .i64 (x.col:Nat)] 37)=w1 at hA hT1 hV1 ⊢
  have HT1:=Lib.hid hT1
  have HV1:=Lib.hid hV1
  clear hA hT1 hV1 e0 e1 e2 e3 p0 p1 p2 p3 p4 hpl
  obtain ⟨x0,x1,_,_⟩:=vd_cells HT1.out
  have hxl:=HT1.out.lt
  have HS:Hid (∀ W,VB w p W → Ho W w0.heap.size #[.int .i64 (x.k:Nat),.string ⟨x.t.toArray⟩,.int .i64 (x.line:Nat),.int .i64 (x.col:Nat)] 37 → (W.cell? ⟨w.heap.size,0,none⟩=some (.int .i64 (p.a:Nat)) ∧ W.cell? ⟨w.heap.size,1,none⟩=some (.int .i64 (p.er:Nat)) ∧ W.cell? ⟨w.heap.size,2,none⟩=some (.int .i64 (p.line:Nat)) ∧ W.cell? ⟨w.heap.size,3,none⟩=some (.int .i64 (p.col:Nat)) ∧ W.cell? ⟨w.heap.size,4,none⟩=some (.int .i64 p.op) ∧ W.cell? ⟨w0.heap.size,1,none⟩=some (.string ⟨x.t.toArray⟩))):=Lib.hid (fun W h1 h2=>⟨(pl5 h1.pl).1,(pl5 h1.pl).2.1,(pl5 h1.pl).2.2.1,(pl5 h1.pl).2.2.2.1,(pl5 h1.pl).2.2.2.2,(vd_cells h2).2.1⟩)
  obtain ⟨p0,p1,p2,p3,p4⟩:=pl5 HV1.out.pl
  have hpl:=HV1.out.pl.lt
  go_wp2_with fail
  clear x0 x1 hxl
  clear p0 p1 p2 p3 p4 hpl
  refine (HI1.out _ HV1.out.below).mono ?_
  rintro e w2 ⟨rfl,k1⟩
  have HVy:=Lib.hid (HV1.out.step k1)
  have HTy:=Lib.hid (HT1.out.below k1)
  clear k1
  obtain ⟨p0,p1,p2,p3,p4⟩:=pl5 HVy.out.pl
  have hpl:=HVy.out.pl.lt
  obtain ⟨x0,x1,_,_⟩:=vd_cells HTy.out
  have hxl:=HTy.out.lt
  go_wp2_with fail
  clear x0 x1 hxl
  clear p0 p1 p2 p3 p4 hpl
  refine wp_region_B (S:=(fun W=>W.cell? ⟨w.heap.size,0,none⟩=some (.int .i64 (p.a:Nat)) ∧ W.cell? ⟨w.heap.size,1,none⟩=some (.int .i64 (p.er:Nat)) ∧ W.cell? ⟨w.heap.size,2,none⟩=some (.int .i64 (p.line:Nat)) ∧ W.cell? ⟨w.heap.size,3,none⟩=some (.int .i64 (p.col:Nat)) ∧ W.cell? ⟨w.heap.size,4,none⟩=some (.int .i64 p.op) ∧ W.cell? ⟨w0.heap.size,1,none⟩=some (.string ⟨x.t.toArray⟩))) [6,7,8] (by kernel_rfl) (HS.out w2.drew ⟨HVy.out.pl,HVy.out.va,HVy.out.qa,HVy.out.no,HVy.out.below.drew⟩ HTy.out) (fun hH0=>?_)
  refine wpB_take (i:=0) (v:=.pointer (some ⟨w0.heap.size,1,none⟩)) [6,7,8] rfl (by kernel_rfl) (by kernel_rfl) (by kernel_rfl) (by kernel_rfl) (fun _ _ _ h=>h) (Or.inl ⟨by kernel_rfl,fun wS hSw=>by (try dsimp only at hSw); go_simp⟩) hH0 ?_
  refine wpB_take (i:=1) (v:=.string ⟨x.t.toArray⟩) [6,7,8] rfl (by kernel_rfl) (by kernel_rfl) (by kernel_rfl) (by kernel_rfl) (fun _ _ _ h=>h) (Or.inl ⟨by kernel_rfl,fun wS hSw=>by (try dsimp only at hSw); go_simp⟩) hH0 ?_
  refine wpB_take (i:=2) (v:=.bool true) [6,7,8] rfl (by kernel_rfl) (by kernel_rfl) (by kernel_rfl) (by kernel_rfl) (fun _ _ _ h=>h) (Or.inl ⟨by kernel_rfl,fun wS hSw=>by (try dsimp only at hSw); go_simp⟩) hH0 ?_
  refine wpB_take (i:=3) (v:=.agg #[.int .i64 3,.int .i64 0,.string ⟨#[]⟩,.bool true]) [6,7,8] rfl (by kernel_rfl) (by kernel_rfl) (by kernel_rfl) (by kernel_rfl) (fun _ _ _ h=>h) (Or.inl ⟨by kernel_rfl,fun wS hSw=>by (try dsimp only at hSw); go_simp⟩) hH0 ?_
  refine wpB_take (i:=4) (v:=.agg #[.int .i64 (p.a:Nat),.int .i64 (p.er:Nat),.int .i64 (p.line:Nat),.int .i64 (p.col:Nat),.int .i64 p.op]) [5,6,7,8] rfl (by kernel_rfl) (by kernel_rfl) (by kernel_rfl) (by kernel_rfl) (fun _ _ _ h=>h) (Or.inl ⟨by kernel_rfl,fun wS hSw=>by (try dsimp only at hSw); go_simp⟩) hH0 ?_
  refine wpB_step (i:=5) rfl (by kernel_rfl) (fun K hK=>?_)
  rw [if_pos (by kernel_rfl)]
  go_simp
  refine (HSKp.out _).mono ?_
  rintro e wz ⟨rfl,k1⟩
  have k2:Below w2.heap.size w2 wz:=((Below.refl w2.heap.size w2).drew).trans k1
  have HVz:=Lib.hid (HVy.out.step k2)
  have HTz:=Lib.hid (HTy.out.below k2)
  clear k1 k2
  refine hK.out _ _ (HS.out wz HVz.out HTz.out) (fun hH1=>?_)
  clear hK K
  obtain ⟨v0',v1',v2',v3',vf0,vf1,vf2,vf3⟩:=vd_cells HVz.out.va
  obtain ⟨q0',q1',q2',q3',q4'⟩:=pl5 HVz.out.qa
  obtain ⟨qf0,qf1,qf2,qf3,qf4⟩:=pl5f HVz.out.qa
  have hva:=HVz.out.va.lt
  have hqa:=HVz.out.qa.lt
  refine wpB_past (i:=6) rfl (by kernel_rfl) (by kernel_rfl) (fun K hK=>?_)
  rw [if_pos (by kernel_rfl)]
  go_simp
  refine hK.out _ _ ?_
  clear hK K
  refine wpB_past (i:=7) rfl (by kernel_rfl) (by kernel_rfl) (fun K hK=>?_)
  rw [if_pos (by kernel_rfl)]
  go_simp
  refine hK.out _ _ ?_
  clear hK K
  refine wpB_past (i:=8) rfl (by kernel_rfl) (by kernel_rfl) (fun K hK=>?_)
  rw [if_pos (by kernel_rfl)]
  go_simp
  refine hK.out _ _ ?_
  clear hK K
  refine wpB_done (by kernel_rfl) ?_ _
  go_simp
  go_wp2_with fail
  (try simp only [Exit.inBlock,Exit.then])
  refine bodyPost_ret (v:=.tuple #[.agg #[.int .i64 3,.int .i64 0,.string ⟨#[]⟩,.bool true],.agg #[.int .i64 ((skipP p).a:Nat),.int .i64 ((skipP p).er:Nat),.int .i64 ((skipP p).line:Nat),.int .i64 ((skipP p).col:Nat),.int .i64 (skipP p).op],.bool true]) ?_ rfl ⟨by rw [HV.out]; rfl,?_⟩
  ·refine par_result3 rfl _ _ _ (a:=⟨w.heap.size + 1,0,none⟩) (b:=⟨w.heap.size + 2,0,none⟩) (by rfl) ?_ (by rfl) ?_ (by rfl)
   ·go_simp
   ·go_simp
  ·repeat' (first | (with_reducible exact HVz.out.below) | with_reducible refine Below.setCell ?_ (by simp <;> omega) _ | with_reducible refine Below.drew ?_ | with_reducible refine Below.alloc ?_ (by simp <;> omega) _)
 case neg =>
 have hT:isP M p kwTrue=false:=by simpa using hT
 by_cases hF:isP M p kwFalse=true
 case pos =>
  have HI1:Hid (∀ w1,Below w.heap.size w w1 → Calls Tryz.prog 16 #[.slice (some ⟨tb,off,none⟩) M.length tc,plV p,.string ⟨#[116,114,117,101]⟩] w1 fun e w'=>e=.returned (.bool false) ∧ Below w1.heap.size w1 w'):=Lib.hid (fun w1 hb=>HIS.out ⟨#[116,114,117,101]⟩ false w1 hT hb)
  have HI2:Hid (∀ w1,Below w.heap.size w w1 → Calls Tryz.prog 16 #[.slice (some ⟨tb,off,none⟩) M.length tc,plV p,.string ⟨#[102,97,108,115,101]⟩] w1 fun e w'=>e=.returned (.bool true) ∧ Below w1.heap.size w1 w'):=Lib.hid (fun w1 hb=>HIS.out ⟨#[102,97,108,115,101]⟩ true w1 hF hb)
  have hxt:(x.t == [116,114,117,101])=false:=by
   have h1:=HIP.out kwFalse
   rw [hF] at h1
   have h2:x.t=kwFalse:=by
    have h3:=(Bool.and_eq_true _ _ ▸ h1.symm).2
    exact eq_of_beq h3
   rw [h2]; rfl
  have HV:Hid (valueP M p=(vBool false,skipP p,true)):=Lib.hid (by rw [HXV.out,if_neg k4,if_pos (.inr hF),show kwTrue=[116,114,117,101] from rfl,hxt])
  have HSKp:=Lib.hid (fun w1=>HSK.out p w1 (by omega))
  clear he h hp k4 hl HXV HIS HST HNU HSK HIP hT hF HXX
  unfold plV at HSKp HI1 HI2
  unfold plV
  go_enter Tryz.func111,Tryz.ntmps111
  go_upto_region 2 with fail
  have hVB:VB w p ((((w.alloc (.cells #[.int .i64 (p.a:Nat),.int .i64 (p.er:Nat),.int .i64 (p.line:Nat),.int .i64 (p.col:Nat),.int .i64 p.op] 33)).alloc (.cells #[.int .i64 0,.int .i64 0,.string ⟨#[]⟩,.bool false] 39)).alloc (.cells #[.int .i64 0,.int .i64 0,.int .i64 0,.int .i64 0,.int .i64 0] 33)).alloc (.cells #[.int .i64 0,.int .i64 0,.string ⟨#[]⟩,.bool false] 39)):=⟨((((Ho.new _ _ _ rfl).alloc _).alloc _).alloc _),((Ho.new _ _ _ (by simp)).alloc _).alloc _,(Ho.new _ _ _ (by simp)).alloc _,Ho.new _ _ _ (by simp),(((((Below.refl _ _).alloc (Nat.le_refl _) _).alloc (by simp) _).alloc (by simp <;> omega) _).alloc (by simp <;> omega) _)⟩
  generalize (((w.alloc (.cells #[.int .i64 (p.a:Nat),.int .i64 (p.er:Nat),.int .i64 (p.line:Nat),.int .i64 (p.col:Nat),.int .i64 p.op] 33)).alloc (.cells #[.int .i64 0,.int .i64 0,.string ⟨#[]⟩,.bool false] 39)).alloc (.cells #[.int .i64 0,.int .i64 0,.int .i64 0,.int .i64 0,.int .i64 0] 33)).alloc (.cells #[.int .i64 0,.int .i64 0,.string ⟨#[]⟩,.bool false] 39)=w0 at hVB ⊢
  have HV0:=Lib.hid hVB
  clear hVB
  obtain ⟨p0,p1,p2,p3,p4⟩:=pl5 HV0.out.pl
  have hpl:=HV0.out.pl.lt
  have e0:w0.cell? ⟨tb,off + p.a * 4,none⟩=some (.int .i64 (x.k:Nat)):=(HV0.out.below.cell (p:=⟨tb,_,none⟩) htb).trans d0
  have e1:w0.cell? ⟨tb,off + p.a * 4 + 1,none⟩=some (.string ⟨x.t.toArray⟩):=(HV0.out.below.cell (p:=⟨tb,_,none⟩) htb).trans d1
  have e2:w0.cell? ⟨tb,off + p.a * 4 + 2,none⟩=some (.int .i64 (x.line:Nat)):=(HV0.out.below.cell (p:=⟨tb,_,none⟩) htb).trans d2
  have e3:w0.cell? ⟨tb,off + p.a * 4 + 3,none⟩=some (.int .i64 (x.col:Nat)):=(HV0.out.below.cell (p:=⟨tb,_,none⟩) htb).trans d3
  have htb0:tb < w0.heap.size:=by have:=HV0.out.below.size; omega
  go_upto_region 5 with fail
  have hA:Below w0.heap.size w0 (w0.alloc (.cells #[.int .i64 (x.k:Nat),.string ⟨x.t.toArray⟩,.int .i64 (x.line:Nat),.int .i64 (x.col:Nat)] 37)):=(Below.refl _ _).alloc (Nat.le_refl _) _
  have hT1:Ho (w0.alloc (.cells #[.int .i64 (x.k:Nat),.string ⟨x.t.toArray⟩,.int .i64 (x.line:Nat),.int .i64 (x.col:Nat)] 37)) w0.heap.size #[.int .i64 (x.k:Nat),.string ⟨x.t.toArray⟩,.int .i64 (x.line:Nat),.int .i64 (x.col:Nat)] 37:=Ho.new _ _ _ rfl
  have hV1:=HV0.out.step hA
  generalize w0.alloc (.cells #[.int .i64 (x.k:Nat),.string ⟨x.t.toArray⟩,.int .i64 (x.line:Nat),.int .i64 (x.col:Nat)] 37)=w1 at hA hT1 hV1 ⊢
  have HT1:=Lib.hid hT1
  have HV1:=Lib.hid hV1
  clear hA hT1 hV1 e0 e1 e2 e3 p0 p1 p2 p3 p4 hpl
  obtain ⟨x0,x1,_,_⟩:=vd_cells HT1.out
  have hxl:=HT1.out.lt
  have HS:Hid (∀ W,VB w p W → Ho W w0.heap.size #[.int .i64 (x.k:Nat),.string ⟨x.t.toArray⟩,.int .i64 (x.line:Nat),.int .i64 (x.col:Nat)] 37 → (W.cell? ⟨w.heap.size,0,none⟩=some (.int .i64 (p.a:Nat)) ∧ W.cell? ⟨w.heap.size,1,none⟩=some (.int .i64 (p.er:Nat)) ∧ W.cell? ⟨w.heap.size,2,none⟩=some (.int .i64 (p.line:Nat)) ∧ W.cell? ⟨w.heap.size,3,none⟩=some (.int .i64 (p.col:Nat)) ∧ W.cell? ⟨w.heap.size,4,none⟩=some (.int .i64 p.op) ∧ W.cell? ⟨w0.heap.size,1,none⟩=some (.string ⟨x.t.toArray⟩))):=Lib.hid (fun W h1 h2=>⟨(pl5 h1.pl).1,(pl5 h1.pl).2.1,(pl5 h1.pl).2.2.1,(pl5 h1.pl).2.2.2.1,(pl5 h1.pl).2.2.2.2,(vd_cells h2).2.1⟩)
  obtain ⟨p0,p1,p2,p3,p4⟩:=pl5 HV1.out.pl
  have hpl:=HV1.out.pl.lt
  go_wp2_with fail
  clear x0 x1 hxl
  clear p0 p1 p2 p3 p4 hpl
  refine (HI1.out _ HV1.out.below).mono ?_
  rintro e w2 ⟨rfl,k1⟩
  have HV2:=Lib.hid (HV1.out.step k1)
  have HT2:=Lib.hid (HT1.out.below k1)
  clear k1
  obtain ⟨p0,p1,p2,p3,p4⟩:=pl5 HV2.out.pl
  have hpl:=HV2.out.pl.lt
  go_wp2_with fail
  clear p0 p1 p2 p3 p4 hpl
  refine (HI2.out _ HV2.out.below).mono ?_
  rintro e w3 ⟨rfl,k1⟩
  have HVy:=Lib.hid (HV2.out.step k1)
  have HTy:=Lib.hid (HT2.out.below k1)
  clear k1
  obtain ⟨p0,p1,p2,p3,p4⟩:=pl5 HVy.out.pl
  have hpl:=HVy.out.pl.lt
  obtain ⟨x0,x1,_,_⟩:=vd_cells HTy.out
  have hxl:=HTy.out.lt
  go_wp2_with fail
  clear x0 x1 hxl
  clear p0 p1 p2 p3 p4 hpl
  refine wp_region_B (S:=(fun W=>W.cell? ⟨w.heap.size,0,none⟩=some (.int .i64 (p.a:Nat)) ∧ W.cell? ⟨w.heap.size,1,none⟩=some (.int .i64 (p.er:Nat)) ∧ W.cell? ⟨w.heap.size,2,none⟩=some (.int .i64 (p.line:Nat)) ∧ W.cell? ⟨w.heap.size,3,none⟩=some (.int .i64 (p.col:Nat)) ∧ W.cell? ⟨w.heap.size,4,none⟩=some (.int .i64 p.op) ∧ W.cell? ⟨w0.heap.size,1,none⟩=some (.string ⟨x.t.toArray⟩))) [6,7,8] (by kernel_rfl) (HS.out w3.drew ⟨HVy.out.pl,HVy.out.va,HVy.out.qa,HVy.out.no,HVy.out.below.drew⟩ HTy.out) (fun hH0=>?_)
  refine wpB_take (i:=0) (v:=.pointer (some ⟨w0.heap.size,1,none⟩)) [6,7,8] rfl (by kernel_rfl) (by kernel_rfl) (by kernel_rfl) (by kernel_rfl) (fun _ _ _ h=>h) (Or.inl ⟨by kernel_rfl,fun wS hSw=>by (try dsimp only at hSw); go_simp⟩) hH0 ?_
  refine wpB_take (i:=1) (v:=.string ⟨x.t.toArray⟩) [6,7,8] rfl (by kernel_rfl) (by kernel_rfl) (by kernel_rfl) (by kernel_rfl) (fun _ _ _ h=>h) (Or.inl ⟨by kernel_rfl,fun wS hSw=>by (try dsimp only at hSw); go_simp⟩) hH0 ?_
  refine wpB_take (i:=2) (v:=.bool false) [6,7,8] rfl (by kernel_rfl) (by kernel_rfl) (by kernel_rfl) (by kernel_rfl) (fun _ _ _ h=>h) (Or.inl ⟨by kernel_rfl,fun wS hSw=>by (try dsimp only at hSw); go_simp⟩) hH0 ?_
  refine wpB_take (i:=3) (v:=.agg #[.int .i64 3,.int .i64 0,.string ⟨#[]⟩,.bool false]) [6,7,8] rfl (by kernel_rfl) (by kernel_rfl) (by kernel_rfl) (by kernel_rfl) (fun _ _ _ h=>h) (Or.inl ⟨by kernel_rfl,fun wS hSw=>by (try dsimp only at hSw); go_simp⟩) hH0 ?_
  refine wpB_take (i:=4) (v:=.agg #[.int .i64 (p.a:Nat),.int .i64 (p.er:Nat),.int .i64 (p.line:Nat),.int .i64 (p.col:Nat),.int .i64 p.op]) [5,6,7,8] rfl (by kernel_rfl) (by kernel_rfl) (by kernel_rfl) (by kernel_rfl) (fun _ _ _ h=>h) (Or.inl ⟨by kernel_rfl,fun wS hSw=>by (try dsimp only at hSw); go_simp⟩) hH0 ?_
  refine wpB_step (i:=5) rfl (by kernel_rfl) (fun K hK=>?_)
  rw [if_pos (by kernel_rfl)]
  go_simp
  refine (HSKp.out _).mono ?_
  rintro e wz ⟨rfl,k1⟩
  have k2:Below w3.heap.size w3 wz:=((Below.refl w3.heap.size w3).drew).trans k1
  have HVz:=Lib.hid (HVy.out.step k2)
  have HTz:=Lib.hid (HTy.out.below k2)
  clear k1 k2
  refine hK.out _ _ (HS.out wz HVz.out HTz.out) (fun hH1=>?_)
  clear hK K
  obtain ⟨v0',v1',v2',v3',vf0,vf1,vf2,vf3⟩:=vd_cells HVz.out.va
  obtain ⟨q0',q1',q2',q3',q4'⟩:=pl5 HVz.out.qa
  obtain ⟨qf0,qf1,qf2,qf3,qf4⟩:=pl5f HVz.out.qa
  have hva:=HVz.out.va.lt
  have hqa:=HVz.out.qa.lt
  refine wpB_past (i:=6) rfl (by kernel_rfl) (by kernel_rfl) (fun K hK=>?_)
  rw [if_pos (by kernel_rfl)]
  go_simp
  refine hK.out _ _ ?_
  clear hK K
  refine wpB_past (i:=7) rfl (by kernel_rfl) (by kernel_rfl) (fun K hK=>?_)
  rw [if_pos (by kernel_rfl)]
  go_simp
  refine hK.out _ _ ?_
  clear hK K
  refine wpB_past (i:=8) rfl (by kernel_rfl) (by kernel_rfl) (fun K hK=>?_)
  rw [if_pos (by kernel_rfl)]
  go_simp
  refine hK.out _ _ ?_
  clear hK K
  refine wpB_done (by kernel_rfl) ?_ _
  go_simp
  go_wp2_with fail
  (try simp only [Exit.inBlock,Exit.then])
  refine bodyPost_ret (v:=.tuple #[.agg #[.int .i64 3,.int .i64 0,.string ⟨#[]⟩,.bool false],.agg #[.int .i64 ((skipP p).a:Nat),.int .i64 ((skipP p).er:Nat),.int .i64 ((skipP p).line:Nat),.int .i64 ((skipP p).col:Nat),.int .i64 (skipP p).op],.bool true]) ?_ rfl ⟨by rw [HV.out]; rfl,?_⟩
  ·refine par_result3 rfl _ _ _ (a:=⟨w.heap.size + 1,0,none⟩) (b:=⟨w.heap.size + 2,0,none⟩) (by rfl) ?_ (by rfl) ?_ (by rfl)
   ·go_simp
   ·go_simp
  ·repeat' (first | (with_reducible exact HVz.out.below) | with_reducible refine Below.setCell ?_ (by simp <;> omega) _ | with_reducible refine Below.drew ?_ | with_reducible refine Below.alloc ?_ (by simp <;> omega) _)
 case neg =>
 have hF:isP M p kwFalse=false:=by simpa using hF
 have hTF:¬ (isP M p kwTrue=true ∨ isP M p kwFalse=true):=by rw [hT,hF]; simp
 have HI1:Hid (∀ w1,Below w.heap.size w w1 → Calls Tryz.prog 16 #[.slice (some ⟨tb,off,none⟩) M.length tc,plV p,.string ⟨#[116,114,117,101]⟩] w1 fun e w'=>e=.returned (.bool false) ∧ Below w1.heap.size w1 w'):=Lib.hid (fun w1 hb=>HIS.out ⟨#[116,114,117,101]⟩ false w1 hT hb)
 have HI2:Hid (∀ w1,Below w.heap.size w w1 → Calls Tryz.prog 16 #[.slice (some ⟨tb,off,none⟩) M.length tc,plV p,.string ⟨#[102,97,108,115,101]⟩] w1 fun e w'=>e=.returned (.bool false) ∧ Below w1.heap.size w1 w'):=Lib.hid (fun w1 hb=>HIS.out ⟨#[102,97,108,115,101]⟩ false w1 hF hb)
 by_cases hm:isP M p [45]=true
 case pos =>
  have HI3:Hid (∀ w1,Below w.heap.size w w1 → Calls Tryz.prog 16 #[.slice (some ⟨tb,off,none⟩) M.length tc,plV p,.string ⟨#[45]⟩] w1 fun e w'=>e=.returned (.bool true) ∧ Below w1.heap.size w1 w'):=Lib.hid (fun w1 hb=>HIS.out ⟨#[45]⟩ true w1 hm hb)
  have HSKp:=Lib.hid (fun w1=>HSK.out p w1 (by omega))
  obtain ⟨q,hq⟩:∃ q,q=skipP p:=⟨_,rfl⟩
  have hqa:q.a=p.a + 1:=by rw [hq]; rfl
  rw [← hq] at HSKp
  by_cases hl2:q.a < M.length
  case neg =>
   have t5:decide (M.length ≤ q.a)=true:=decide_eq_true (by omega)
   have HV:Hid (valueP M p=(v0,p,false)):=Lib.hid (by rw [HXV.out,if_neg k4,if_neg hTF,if_pos hm,← hq]; unfold numP; rw [List.getElem?_eq_none (by omega)])
   clear he h hp k4 hl HXV HIS HST HNU HSK HIP hT hF hTF HXX hm hqa hq hl2
   unfold plV at HSKp HI1 HI2 HI3
   unfold plV
   go_enter Tryz.func111,Tryz.ntmps111
   go_upto_region 2 with fail
   have hVB:VB w p ((((w.alloc (.cells #[.int .i64 (p.a:Nat),.int .i64 (p.er:Nat),.int .i64 (p.line:Nat),.int .i64 (p.col:Nat),.int .i64 p.op] 33)).alloc (.cells #[.int .i64 0,.int .i64 0,.string ⟨#[]⟩,.bool false] 39)).alloc (.cells #[.int .i64 0,.int .i64 0,.int .i64 0,.int .i64 0,.int .i64 0] 33)).alloc (.cells #[.int .i64 0,.int .i64 0,.string ⟨#[]⟩,.bool false] 39)):=⟨((((Ho.new _ _ _ rfl).alloc _).alloc _).alloc _),((Ho.new _ _ _ (by simp)).alloc _).alloc _,(Ho.new _ _ _ (by simp)).alloc _,Ho.new _ _ _ (by simp),(((((Below.refl _ _).alloc (Nat.le_refl _) _).alloc (by simp) _).alloc (by simp <;> omega) _).alloc (by simp <;> omega) _)⟩
   generalize (((w.alloc (.cells #[.int .i64 (p.a:Nat),.int .i64 (p.er:Nat),.int .i64 (p.line:Nat),.int .i64 (p.col:Nat),.int .i64 p.op] 33)).alloc (.cells #[.int .i64 0,.int .i64 0,.string ⟨#[]⟩,.bool false] 39)).alloc (.cells #[.int .i64 0,.int .i64 0,.int .i64 0,.int .i64 0,.int .i64 0] 33)).alloc (.cells #[.int .i64 0,.int .i64 0,.string ⟨#[]⟩,.bool false] 39)=w0 at hVB ⊢
   have HV0:=Lib.hid hVB
   clear hVB
   obtain ⟨p0,p1,p2,p3,p4⟩:=pl5 HV0.out.pl
   have hpl:=HV0.out.pl.lt
   have e0:w0.cell? ⟨tb,off + p.a * 4,none⟩=some (.int .i64 (x.k:Nat)):=(HV0.out.below.cell (p:=⟨tb,_,none⟩) htb).trans d0
   have e1:w0.cell? ⟨tb,off + p.a * 4 + 1,none⟩=some (.string ⟨x.t.toArray⟩):=(HV0.out.below.cell (p:=⟨tb,_,none⟩) htb).trans d1
   have e2:w0.cell? ⟨tb,off + p.a * 4 + 2,none⟩=some (.int .i64 (x.line:Nat)):=(HV0.out.below.cell (p:=⟨tb,_,none⟩) htb).trans d2
   have e3:w0.cell? ⟨tb,off + p.a * 4 + 3,none⟩=some (.int .i64 (x.col:Nat)):=(HV0.out.below.cell (p:=⟨tb,_,none⟩) htb).trans d3
   have htb0:tb < w0.heap.size:=by have:=HV0.out.below.size; omega
   go_upto_region 5 with fail
   have hA:Below w0.heap.size w0 (w0.alloc (.cells #[.int .i64 (x.k:Nat),.string ⟨x.t.toArray⟩,.int .i64 (x.line:Nat),.int .i64 (x.col:Nat)] 37)):=(Below.refl _ _).alloc (Nat.le_refl _) _
   have hT1:Ho (w0.alloc (.cells #[.int .i64 (x.k:Nat),.string ⟨x.t.toArray⟩,.int .i64 (x.line:Nat),.int .i64 (x.col:Nat)] 37)) w0.heap.size #[.int .i64 (x.k:Nat),.string ⟨x.t.toArray⟩,.int .i64 (x.line:Nat),.int .i64 (x.col:Nat)] 37:=Ho.new _ _ _ rfl
   have hV1:=HV0.out.step hA
   generalize w0.alloc (.cells #[.int .i64 (x.k:Nat),.string ⟨x.t.toArray⟩,.int .i64 (x.line:Nat),.int .i64 (x.col:Nat)] 37)=w1 at hA hT1 hV1 ⊢
   have HT1:=Lib.hid hT1
   have HV1:=Lib.hid hV1
   clear hA hT1 hV1 e0 e1 e2 e3 p0 p1 p2 p3 p4 hpl
   obtain ⟨x0,x1,_,_⟩:=vd_cells HT1.out
   have hxl:=HT1.out.lt
   obtain ⟨p0,p1,p2,p3,p4⟩:=pl5 HV1.out.pl
   have hpl:=HV1.out.pl.lt
   go_wp2_with fail
   clear x0 x1 hxl
   clear p0 p1 p2 p3 p4 hpl
   refine (HI1.out _ HV1.out.below).mono ?_
   rintro e w2 ⟨rfl,k1⟩
   have HV2:=Lib.hid (HV1.out.step k1)
   clear k1
   obtain ⟨p0,p1,p2,p3,p4⟩:=pl5 HV2.out.pl
   have hpl:=HV2.out.pl.lt
   go_wp2_with fail
   clear p0 p1 p2 p3 p4 hpl
   refine (HI2.out _ HV2.out.below).mono ?_
   rintro e w3 ⟨rfl,k1⟩
   have HV3:=Lib.hid (HV2.out.step k1)
   clear k1
   obtain ⟨p0,p1,p2,p3,p4⟩:=pl5 HV3.out.pl
   have hpl:=HV3.out.pl.lt
   go_upto_region 11 with fail
   have hA4:Below w3.heap.size w3 (w3.alloc (.cells #[.int .i64 (p.a:Nat),.int .i64 (p.er:Nat),.int .i64 (p.line:Nat),.int .i64 (p.col:Nat),.int .i64 p.op] 33)):=(Below.refl _ _).alloc (Nat.le_refl _) _
   have hQ4:Ho (w3.alloc (.cells #[.int .i64 (p.a:Nat),.int .i64 (p.er:Nat),.int .i64 (p.line:Nat),.int .i64 (p.col:Nat),.int .i64 p.op] 33)) w3.heap.size #[.int .i64 (p.a:Nat),.int .i64 (p.er:Nat),.int .i64 (p.line:Nat),.int .i64 (p.col:Nat),.int .i64 p.op] 33:=Ho.new _ _ _ rfl
   have hV4:=HV3.out.step hA4
   have hbq:w.heap.size + 3 < w3.heap.size:=HV3.out.no.lt
   generalize w3.alloc (.cells #[.int .i64 (p.a:Nat),.int .i64 (p.er:Nat),.int .i64 (p.line:Nat),.int .i64 (p.col:Nat),.int .i64 p.op] 33)=w4 at hA4 hQ4 hV4 ⊢
   have HQ4:=Lib.hid hQ4
   have HV4:=Lib.hid hV4
   clear hA4 hQ4 hV4
   clear p0 p1 p2 p3 p4 hpl
   obtain ⟨p0,p1,p2,p3,p4⟩:=pl5 HV4.out.pl
   have hpl:=HV4.out.pl.lt
   have hq4:=HQ4.out.lt
   go_wp2_with fail
   clear p0 p1 p2 p3 p4 hpl
   clear hq4
   refine (HI3.out _ HV4.out.below).mono ?_
   rintro e w5 ⟨rfl,k1⟩
   have HV5:=Lib.hid (HV4.out.step k1)
   have HQ5:=Lib.hid (HQ4.out.below k1)
   clear k1
   obtain ⟨p0,p1,p2,p3,p4⟩:=pl5 HV5.out.pl
   have hpl:=HV5.out.pl.lt
   have hq5:=HQ5.out.lt
   obtain ⟨f0,f1,f2,f3,f4⟩:=pl5f HQ5.out
   go_wp2_with fail
   clear hq5 f0 f1 f2 f3 f4
   clear p0 p1 p2 p3 p4 hpl
   refine (HSKp.out _).mono ?_
   rintro e w6 ⟨rfl,k1⟩
   have HV6:=Lib.hid (HV5.out.step k1)
   have HQ6:=Lib.hid (HQ5.out.below k1)
   clear k1
   have hq6:=HQ6.out.lt
   obtain ⟨u0,u1,u2,u3,u4⟩:=pl5 HQ6.out
   obtain ⟨f0,f1,f2,f3,f4⟩:=pl5f HQ6.out
   go_upto_region 14 with fail
   have hQ7:Ho (((((w6.setCell ⟨w3.heap.size,0,none⟩ (.int .i64 (q.a:Nat))).setCell ⟨w3.heap.size,1,none⟩ (.int .i64 (q.er:Nat))).setCell ⟨w3.heap.size,2,none⟩ (.int .i64 (q.line:Nat))).setCell ⟨w3.heap.size,3,none⟩ (.int .i64 (q.col:Nat))).setCell ⟨w3.heap.size,4,none⟩ (.int .i64 q.op)) w3.heap.size #[.int .i64 (q.a:Nat),.int .i64 (q.er:Nat),.int .i64 (q.line:Nat),.int .i64 (q.col:Nat),.int .i64 q.op] 33:=Ho.set (Ho.set (Ho.set (Ho.set (Ho.set HQ6.out rfl) rfl) rfl) rfl) rfl
   have hV7:VB w p (((((w6.setCell ⟨w3.heap.size,0,none⟩ (.int .i64 (q.a:Nat))).setCell ⟨w3.heap.size,1,none⟩ (.int .i64 (q.er:Nat))).setCell ⟨w3.heap.size,2,none⟩ (.int .i64 (q.line:Nat))).setCell ⟨w3.heap.size,3,none⟩ (.int .i64 (q.col:Nat))).setCell ⟨w3.heap.size,4,none⟩ (.int .i64 q.op)):=((((HV6.out.far hbq _ _).far hbq _ _).far hbq _ _).far hbq _ _).far hbq _ _
   generalize (((((w6.setCell ⟨w3.heap.size,0,none⟩ (.int .i64 (q.a:Nat))).setCell ⟨w3.heap.size,1,none⟩ (.int .i64 (q.er:Nat))).setCell ⟨w3.heap.size,2,none⟩ (.int .i64 (q.line:Nat))).setCell ⟨w3.heap.size,3,none⟩ (.int .i64 (q.col:Nat))).setCell ⟨w3.heap.size,4,none⟩ (.int .i64 q.op))=wq at hQ7 hV7 ⊢
   have HQz:=Lib.hid hQ7
   have HVz:=Lib.hid hV7
   clear hQ7 hV7 hq6 u0 u1 u2 u3 u4 f0 f1 f2 f3 f4
   obtain ⟨u0,u1,u2,u3,u4⟩:=pl5 HQz.out
   have hqz:=HQz.out.lt
   obtain ⟨p0,p1,p2,p3,p4⟩:=pl5 HVz.out.pl
   have hpl:=HVz.out.pl.lt
   obtain ⟨n0,n1,n2,n3,_⟩:=vd_cells HVz.out.no
   obtain ⟨v0',v1',v2',v3',vf0,vf1,vf2,vf3⟩:=vd_cells HVz.out.va
   obtain ⟨q0',q1',q2',q3',q4'⟩:=pl5 HVz.out.qa
   obtain ⟨qf0,qf1,qf2,qf3,qf4⟩:=pl5f HVz.out.qa
   have hno:=HVz.out.no.lt
   have hva:=HVz.out.va.lt
   have hqa:=HVz.out.qa.lt
   go_wp2_with fail
   go_region
   all_goals (go_wp2_with fail)
   all_goals (try simp only [Exit.inBlock,Exit.then])
   (try simp only [Exit.inBlock,Exit.then])
   refine bodyPost_ret (v:=.tuple #[.agg #[.int .i64 0,.int .i64 0,.string ⟨#[]⟩,.bool false],.agg #[.int .i64 (p.a:Nat),.int .i64 (p.er:Nat),.int .i64 (p.line:Nat),.int .i64 (p.col:Nat),.int .i64 p.op],.bool false]) ?_ rfl ⟨by rw [HV.out]; rfl,?_⟩
   ·refine par_result3 rfl _ _ _ (a:=⟨w.heap.size + 1,0,none⟩) (b:=⟨w.heap.size + 2,0,none⟩) (by rfl) ?_ (by rfl) ?_ (by rfl)
    ·go_simp
    ·go_simp
   ·repeat' (first | (with_reducible exact HVz.out.below) | with_reducible refine Below.setCell ?_ (by simp <;> omega) _ | with_reducible refine Below.drew ?_ | with_reducible refine Below.alloc ?_ (by simp <;> omega) _)
  case pos =>
  by_cases k3:(tkAt M q.a).k=3
  case neg =>
   have t5:decide (M.length ≤ q.a)=false:=decide_eq_false (by omega)
   have t6:q.a < M.length:=hl2
   have HYV:Hid (valueP M p=if (tkAt M q.a).k=3 then (if (tkAt M q.a).t=[48] then (vInt 0,skipP q,true) else if pe (signed true (tkAt M q.a).t)=0 then (vInt (pn (signed true (tkAt M q.a).t)),skipP q,true) else (v0,stopP M q 5,true)) else (v0,p,false)):=Lib.hid (by rw [HXV.out,if_neg k4,if_neg hTF,if_pos hm,← hq]; unfold numP; rw [tk_at hl2])
   have hYM:=hM.texts _ (List.mem_of_getElem? (tk_at hl2))
   obtain ⟨tb',off',e9,htb',g0,g1,_,_⟩:=rtk_cells h hl2
   cases e9
   obtain ⟨y,hy⟩:∃ y,y=tkAt M q.a:=⟨_,rfl⟩
   rw [← hy] at g0 g1 HYV hYM k3
   clear hy
   have t7:((y.k:Int) != 3)=true:=by rw [bne_iff_ne]; omega
   have HV:Hid (valueP M p=(v0,p,false)):=Lib.hid (by rw [HYV.out,if_neg (fun k=>k3 k)])
   clear he h hp k4 hl HXV HIS HST HNU HSK HIP hT hF hTF HXX hm hqa hq hl2 hYM k3 HYV
   unfold plV at HSKp HI1 HI2 HI3
   unfold plV
   go_enter Tryz.func111,Tryz.ntmps111
   go_upto_region 2 with fail
   have hVB:VB w p ((((w.alloc (.cells #[.int .i64 (p.a:Nat),.int .i64 (p.er:Nat),.int .i64 (p.line:Nat),.int .i64 (p.col:Nat),.int .i64 p.op] 33)).alloc (.cells #[.int .i64 0,.int .i64 0,.string ⟨#[]⟩,.bool false] 39)).alloc (.cells #[.int .i64 0,.int .i64 0,.int .i64 0,.int .i64 0,.int .i64 0] 33)).alloc (.cells #[.int .i64 0,.int .i64 0,.string ⟨#[]⟩,.bool false] 39)):=⟨((((Ho.new _ _ _ rfl).alloc _).alloc _).alloc _),((Ho.new _ _ _ (by simp)).alloc _).alloc _,(Ho.new _ _ _ (by simp)).alloc _,Ho.new _ _ _ (by simp),(((((Below.refl _ _).alloc (Nat.le_refl _) _).alloc (by simp) _).alloc (by simp <;> omega) _).alloc (by simp <;> omega) _)⟩
   generalize (((w.alloc (.cells #[.int .i64 (p.a:Nat),.int .i64 (p.er:Nat),.int .i64 (p.line:Nat),.int .i64 (p.col:Nat),.int .i64 p.op] 33)).alloc (.cells #[.int .i64 0,.int .i64 0,.string ⟨#[]⟩,.bool false] 39)).alloc (.cells #[.int .i64 0,.int .i64 0,.int .i64 0,.int .i64 0,.int .i64 0] 33)).alloc (.cells #[.int .i64 0,.int .i64 0,.string ⟨#[]⟩,.bool false] 39)=w0 at hVB ⊢
   have HV0:=Lib.hid hVB
   clear hVB
   obtain ⟨p0,p1,p2,p3,p4⟩:=pl5 HV0.out.pl
   have hpl:=HV0.out.pl.lt
   have e0:w0.cell? ⟨tb,off + p.a * 4,none⟩=some (.int .i64 (x.k:Nat)):=(HV0.out.below.cell (p:=⟨tb,_,none⟩) htb).trans d0
   have e1:w0.cell? ⟨tb,off + p.a * 4 + 1,none⟩=some (.string ⟨x.t.toArray⟩):=(HV0.out.below.cell (p:=⟨tb,_,none⟩) htb).trans d1
   have e2:w0.cell? ⟨tb,off + p.a * 4 + 2,none⟩=some (.int .i64 (x.line:Nat)):=(HV0.out.below.cell (p:=⟨tb,_,none⟩) htb).trans d2
   have e3:w0.cell? ⟨tb,off + p.a * 4 + 3,none⟩=some (.int .i64 (x.col:Nat)):=(HV0.out.below.cell (p:=⟨tb,_,none⟩) htb).trans d3
   have htb0:tb < w0.heap.size:=by have:=HV0.out.below.size; omega
   go_upto_region 5 with fail
   have hA:Below w0.heap.size w0 (w0.alloc (.cells #[.int .i64 (x.k:Nat),.string ⟨x.t.toArray⟩,.int .i64 (x.line:Nat),.int .i64 (x.col:Nat)] 37)):=(Below.refl _ _).alloc (Nat.le_refl _) _
   have hT1:Ho (w0.alloc (.cells #[.int .i64 (x.k:Nat),.string ⟨x.t.toArray⟩,.int .i64 (x.line:Nat),.int .i64 (x.col:Nat)] 37)) w0.heap.size #[.int .i64 (x.k:Nat),.string ⟨x.t.toArray⟩,.int .i64 (x.line:Nat),.int .i64 (x.col:Nat)] 37:=Ho.new _ _ _ rfl
   have hV1:=HV0.out.step hA
   generalize w0.alloc (.cells #[.int .i64 (x.k:Nat),.string ⟨x.t.toArray⟩,.int .i64 (x.line:Nat),.int .i64 (x.col:Nat)] 37)=w1 at hA hT1 hV1 ⊢
   have HT1:=Lib.hid hT1
   have HV1:=Lib.hid hV1
   clear hA hT1 hV1 e0 e1 e2 e3 p0 p1 p2 p3 p4 hpl
   obtain ⟨x0,x1,_,_⟩:=vd_cells HT1.out
   have hxl:=HT1.out.lt
   obtain ⟨p0,p1,p2,p3,p4⟩:=pl5 HV1.out.pl
   have hpl:=HV1.out.pl.lt
   go_wp2_with fail
   clear x0 x1 hxl
   clear p0 p1 p2 p3 p4 hpl
   refine (HI1.out _ HV1.out.below).mono ?_
   rintro e w2 ⟨rfl,k1⟩
   have HV2:=Lib.hid (HV1.out.step k1)
   clear k1
   obtain ⟨p0,p1,p2,p3,p4⟩:=pl5 HV2.out.pl
   have hpl:=HV2.out.pl.lt
   go_wp2_with fail
   clear p0 p1 p2 p3 p4 hpl
   refine (HI2.out _ HV2.out.below).mono ?_
   rintro e w3 ⟨rfl,k1⟩
   have HV3:=Lib.hid (HV2.out.step k1)
   clear k1
   obtain ⟨p0,p1,p2,p3,p4⟩:=pl5 HV3.out.pl
   have hpl:=HV3.out.pl.lt
   go_upto_region 11 with fail
   have hA4:Below w3.heap.size w3 (w3.alloc (.cells #[.int .i64 (p.a:Nat),.int .i64 (p.er:Nat),.int .i64 (p.line:Nat),.int .i64 (p.col:Nat),.int .i64 p.op] 33)):=(Below.refl _ _).alloc (Nat.le_refl _) _
   have hQ4:Ho (w3.alloc (.cells #[.int .i64 (p.a:Nat),.int .i64 (p.er:Nat),.int .i64 (p.line:Nat),.int .i64 (p.col:Nat),.int .i64 p.op] 33)) w3.heap.size #[.int .i64 (p.a:Nat),.int .i64 (p.er:Nat),.int .i64 (p.line:Nat),.int .i64 (p.col:Nat),.int .i64 p.op] 33:=Ho.new _ _ _ rfl
   have hV4:=HV3.out.step hA4
   have hbq:w.heap.size + 3 < w3.heap.size:=HV3.out.no.lt
   generalize w3.alloc (.cells #[.int .i64 (p.a:Nat),.int .i64 (p.er:Nat),.int .i64 (p.line:Nat),.int .i64 (p.col:Nat),.int .i64 p.op] 33)=w4 at hA4 hQ4 hV4 ⊢
   have HQ4:=Lib.hid hQ4
   have HV4:=Lib.hid hV4
   clear hA4 hQ4 hV4
   clear p0 p1 p2 p3 p4 hpl
   obtain ⟨p0,p1,p2,p3,p4⟩:=pl5 HV4.out.pl
   have hpl:=HV4.out.pl.lt
   have hq4:=HQ4.out.lt
   go_wp2_with fail
   clear p0 p1 p2 p3 p4 hpl
   clear hq4
   refine (HI3.out _ HV4.out.below).mono ?_
   rintro e w5 ⟨rfl,k1⟩
   have HV5:=Lib.hid (HV4.out.step k1)
   have HQ5:=Lib.hid (HQ4.out.below k1)
   clear k1
   obtain ⟨p0,p1,p2,p3,p4⟩:=pl5 HV5.out.pl
   have hpl:=HV5.out.pl.lt
   have hq5:=HQ5.out.lt
   obtain ⟨f0,f1,f2,f3,f4⟩:=pl5f HQ5.out
   go_wp2_with fail
   clear hq5 f0 f1 f2 f3 f4
   clear p0 p1 p2 p3 p4 hpl
   refine (HSKp.out _).mono ?_
   rintro e w6 ⟨rfl,k1⟩
   have HV6:=Lib.hid (HV5.out.step k1)
   have HQ6:=Lib.hid (HQ5.out.below k1)
   clear k1
   have hq6:=HQ6.out.lt
   obtain ⟨u0,u1,u2,u3,u4⟩:=pl5 HQ6.out
   obtain ⟨f0,f1,f2,f3,f4⟩:=pl5f HQ6.out
   go_upto_region 14 with fail
   have hQ7:Ho (((((w6.setCell ⟨w3.heap.size,0,none⟩ (.int .i64 (q.a:Nat))).setCell ⟨w3.heap.size,1,none⟩ (.int .i64 (q.er:Nat))).setCell ⟨w3.heap.size,2,none⟩ (.int .i64 (q.line:Nat))).setCell ⟨w3.heap.size,3,none⟩ (.int .i64 (q.col:Nat))).setCell ⟨w3.heap.size,4,none⟩ (.int .i64 q.op)) w3.heap.size #[.int .i64 (q.a:Nat),.int .i64 (q.er:Nat),.int .i64 (q.line:Nat),.int .i64 (q.col:Nat),.int .i64 q.op] 33:=Ho.set (Ho.set (Ho.set (Ho.set (Ho.set HQ6.out rfl) rfl) rfl) rfl) rfl
   have hV7:VB w p (((((w6.setCell ⟨w3.heap.size,0,none⟩ (.int .i64 (q.a:Nat))).setCell ⟨w3.heap.size,1,none⟩ (.int .i64 (q.er:Nat))).setCell ⟨w3.heap.size,2,none⟩ (.int .i64 (q.line:Nat))).setCell ⟨w3.heap.size,3,none⟩ (.int .i64 (q.col:Nat))).setCell ⟨w3.heap.size,4,none⟩ (.int .i64 q.op)):=((((HV6.out.far hbq _ _).far hbq _ _).far hbq _ _).far hbq _ _).far hbq _ _
   generalize (((((w6.setCell ⟨w3.heap.size,0,none⟩ (.int .i64 (q.a:Nat))).setCell ⟨w3.heap.size,1,none⟩ (.int .i64 (q.er:Nat))).setCell ⟨w3.heap.size,2,none⟩ (.int .i64 (q.line:Nat))).setCell ⟨w3.heap.size,3,none⟩ (.int .i64 (q.col:Nat))).setCell ⟨w3.heap.size,4,none⟩ (.int .i64 q.op))=wq at hQ7 hV7 ⊢
   have HQz:=Lib.hid hQ7
   have HVz:=Lib.hid hV7
   clear hQ7 hV7 hq6 u0 u1 u2 u3 u4 f0 f1 f2 f3 f4
   obtain ⟨u0,u1,u2,u3,u4⟩:=pl5 HQz.out
   have hqz:=HQz.out.lt
   have e0:wq.cell? ⟨tb,off + q.a * 4,none⟩=some (.int .i64 (y.k:Nat)):=(HVz.out.below.cell (p:=⟨tb,_,none⟩) htb).trans g0
   have e1:wq.cell? ⟨tb,off + q.a * 4 + 1,none⟩=some (.string ⟨y.t.toArray⟩):=(HVz.out.below.cell (p:=⟨tb,_,none⟩) htb).trans g1
   have htz:tb < wq.heap.size:=by have:=HVz.out.below.size; omega
   obtain ⟨p0,p1,p2,p3,p4⟩:=pl5 HVz.out.pl
   have hpl:=HVz.out.pl.lt
   obtain ⟨n0,n1,n2,n3,_⟩:=vd_cells HVz.out.no
   obtain ⟨v0',v1',v2',v3',vf0,vf1,vf2,vf3⟩:=vd_cells HVz.out.va
   obtain ⟨q0',q1',q2',q3',q4'⟩:=pl5 HVz.out.qa
   obtain ⟨qf0,qf1,qf2,qf3,qf4⟩:=pl5f HVz.out.qa
   have hno:=HVz.out.no.lt
   have hva:=HVz.out.va.lt
   have hqa:=HVz.out.qa.lt
   go_wp2_with fail
   go_region
   all_goals (go_wp2_with fail)
   all_goals (try simp only [Exit.inBlock,Exit.then])
   (try simp only [Exit.inBlock,Exit.then])
   refine bodyPost_ret (v:=.tuple #[.agg #[.int .i64 0,.int .i64 0,.string ⟨#[]⟩,.bool false],.agg #[.int .i64 (p.a:Nat),.int .i64 (p.er:Nat),.int .i64 (p.line:Nat),.int .i64 (p.col:Nat),.int .i64 p.op],.bool false]) ?_ rfl ⟨by rw [HV.out]; rfl,?_⟩
   ·refine par_result3 rfl _ _ _ (a:=⟨w.heap.size + 1,0,none⟩) (b:=⟨w.heap.size + 2,0,none⟩) (by rfl) ?_ (by rfl) ?_ (by rfl)
    ·go_simp
    ·go_simp
   ·repeat' (first | (with_reducible exact HVz.out.below) | with_reducible refine Below.setCell ?_ (by simp <;> omega) _ | with_reducible refine Below.drew ?_ | with_reducible refine Below.alloc ?_ (by simp <;> omega) _)
  case pos =>
  by_cases k8:(tkAt M q.a).t=[48]
  case pos =>
   have t5:decide (M.length ≤ q.a)=false:=decide_eq_false (by omega)
   have t6:q.a < M.length:=hl2
   have HYV:Hid (valueP M p=if (tkAt M q.a).k=3 then (if (tkAt M q.a).t=[48] then (vInt 0,skipP q,true) else if pe (signed true (tkAt M q.a).t)=0 then (vInt (pn (signed true (tkAt M q.a).t)),skipP q,true) else (v0,stopP M q 5,true)) else (v0,p,false)):=Lib.hid (by rw [HXV.out,if_neg k4,if_neg hTF,if_pos hm,← hq]; unfold numP; rw [tk_at hl2])
   have hYM:=hM.texts _ (List.mem_of_getElem? (tk_at hl2))
   obtain ⟨tb',off',e9,htb',g0,g1,_,_⟩:=rtk_cells h hl2
   cases e9
   obtain ⟨y,hy⟩:∃ y,y=tkAt M q.a:=⟨_,rfl⟩
   rw [← hy] at g0 g1 HYV hYM k3 k8
   clear hy
   have t7:((y.k:Int) != 3)=false:=by rw [k3]; rfl
   have t8:(y.t == [48])=true:=by rw [k8]; rfl
   have HV:Hid (valueP M p=(vInt 0,skipP q,true)):=Lib.hid (by rw [HYV.out,if_pos k3,if_pos k8])
   have HSKq:=Lib.hid (fun w1=>HSK.out q w1 (by omega))
   unfold plV at HSKq
   clear he h hp k4 hl HXV HIS HST HNU HSK HIP hT hF hTF HXX hm hqa hq hl2 hYM k3 HYV k8
   unfold plV at HSKp HI1 HI2 HI3
   unfold plV
   go_enter Tryz.func111,Tryz.ntmps111
   go_upto_region 2 with fail
   have hVB:VB w p ((((w.alloc (.cells #[.int .i64 (p.a:Nat),.int .i64 (p.er:Nat),.int .i64 (p.line:Nat),.int .i64 (p.col:Nat),.int .i64 p.op] 33)).alloc (.cells #[.int .i64 0,.int .i64 0,.string ⟨#[]⟩,.bool false] 39)).alloc (.cells #[.int .i64 0,.int .i64 0,.int .i64 0,.int .i64 0,.int .i64 0] 33)).alloc (.cells #[.int .i64 0,.int .i64 0,.string ⟨#[]⟩,.bool false] 39)):=⟨((((Ho.new _ _ _ rfl).alloc _).alloc _).alloc _),((Ho.new _ _ _ (by simp)).alloc _).alloc _,(Ho.new _ _ _ (by simp)).alloc _,Ho.new _ _ _ (by simp),(((((Below.refl _ _).alloc (Nat.le_refl _) _).alloc (by simp) _).alloc (by simp <;> omega) _).alloc (by simp <;> omega) _)⟩
   generalize (((w.alloc (.cells #[.int .i64 (p.a:Nat),.int .i64 (p.er:Nat),.int .i64 (p.line:Nat),.int .i64 (p.col:Nat),.int .i64 p.op] 33)).alloc (.cells #[.int .i64 0,.int .i64 0,.string ⟨#[]⟩,.bool false] 39)).alloc (.cells #[.int .i64 0,.int .i64 0,.int .i64 0,.int .i64 0,.int .i64 0] 33)).alloc (.cells #[.int .i64 0,.int .i64 0,.string ⟨#[]⟩,.bool false] 39)=w0 at hVB ⊢
   have HV0:=Lib.hid hVB
   clear hVB
   obtain ⟨p0,p1,p2,p3,p4⟩:=pl5 HV0.out.pl
   have hpl:=HV0.out.pl.lt
   have e0:w0.cell? ⟨tb,off + p.a * 4,none⟩=some (.int .i64 (x.k:Nat)):=(HV0.out.below.cell (p:=⟨tb,_,none⟩) htb).trans d0
   have e1:w0.cell? ⟨tb,off + p.a * 4 + 1,none⟩=some (.string ⟨x.t.toArray⟩):=(HV0.out.below.cell (p:=⟨tb,_,none⟩) htb).trans d1
   have e2:w0.cell? ⟨tb,off + p.a * 4 + 2,none⟩=some (.int .i64 (x.line:Nat)):=(HV0.out.below.cell (p:=⟨tb,_,none⟩) htb).trans d2
   have e3:w0.cell? ⟨tb,off + p.a * 4 + 3,none⟩=some (.int .i64 (x.col:Nat)):=(HV0.out.below.cell (p:=⟨tb,_,none⟩) htb).trans d3
   have htb0:tb < w0.heap.size:=by have:=HV0.out.below.size; omega
   go_upto_region 5 with fail
   have hA:Below w0.heap.size w0 (w0.alloc (.cells #[.int .i64 (x.k:Nat),.string ⟨x.t.toArray⟩,.int .i64 (x.line:Nat),.int .i64 (x.col:Nat)] 37)):=(Below.refl _ _).alloc (Nat.le_refl _) _
   have hT1:Ho (w0.alloc (.cells #[.int .i64 (x.k:Nat),.string ⟨x.t.toArray⟩,.int .i64 (x.line:Nat),.int .i64 (x.col:Nat)] 37)) w0.heap.size #[.int .i64 (x.k:Nat),.string ⟨x.t.toArray⟩,.int .i64 (x.line:Nat),.int .i64 (x.col:Nat)] 37:=Ho.new _ _ _ rfl
   have hV1:=HV0.out.step hA
   generalize w0.alloc (.cells #[.int .i64 (x.k:Nat),.string ⟨x.t.toArray⟩,.int .i64 (x.line:Nat),.int .i64 (x.col:Nat)] 37)=w1 at hA hT1 hV1 ⊢
   have HT1:=Lib.hid hT1
   have HV1:=Lib.hid hV1
   clear hA hT1 hV1 e0 e1 e2 e3 p0 p1 p2 p3 p4 hpl
   obtain ⟨x0,x1,_,_⟩:=vd_cells HT1.out
   have hxl:=HT1.out.lt
   obtain ⟨p0,p1,p2,p3,p4⟩:=pl5 HV1.out.pl
   have hpl:=HV1.out.pl.lt
   go_wp2_with fail
   clear x0 x1 hxl
   clear p0 p1 p2 p3 p4 hpl
   refine (HI1.out _ HV1.out.below).mono ?_
   rintro e w2 ⟨rfl,k1⟩
   have HV2:=Lib.hid (HV1.out.step k1)
   clear k1
   obtain ⟨p0,p1,p2,p3,p4⟩:=pl5 HV2.out.pl
   have hpl:=HV2.out.pl.lt
   go_wp2_with fail
   clear p0 p1 p2 p3 p4 hpl
   refine (HI2.out _ HV2.out.below).mono ?_
   rintro e w3 ⟨rfl,k1⟩
   have HV3:=Lib.hid (HV2.out.step k1)
   clear k1
   obtain ⟨p0,p1,p2,p3,p4⟩:=pl5 HV3.out.pl
   have hpl:=HV3.out.pl.lt
   go_upto_region 11 with fail
   have hA4:Below w3.heap.size w3 (w3.alloc (.cells #[.int .i64 (p.a:Nat),.int .i64 (p.er:Nat),.int .i64 (p.line:Nat),.int .i64 (p.col:Nat),.int .i64 p.op] 33)):=(Below.refl _ _).alloc (Nat.le_refl _) _
   have hQ4:Ho (w3.alloc (.cells #[.int .i64 (p.a:Nat),.int .i64 (p.er:Nat),.int .i64 (p.line:Nat),.int .i64 (p.col:Nat),.int .i64 p.op] 33)) w3.heap.size #[.int .i64 (p.a:Nat),.int .i64 (p.er:Nat),.int .i64 (p.line:Nat),.int .i64 (p.col:Nat),.int .i64 p.op] 33:=Ho.new _ _ _ rfl
   have hV4:=HV3.out.step hA4
   have hbq:w.heap.size + 3 < w3.heap.size:=HV3.out.no.lt
   generalize w3.alloc (.cells #[.int .i64 (p.a:Nat),.int .i64 (p.er:Nat),.int .i64 (p.line:Nat),.int .i64 (p.col:Nat),.int .i64 p.op] 33)=w4 at hA4 hQ4 hV4 ⊢
   have HQ4:=Lib.hid hQ4
   have HV4:=Lib.hid hV4
   clear hA4 hQ4 hV4
   clear p0 p1 p2 p3 p4 hpl
   obtain ⟨p0,p1,p2,p3,p4⟩:=pl5 HV4.out.pl
   have hpl:=HV4.out.pl.lt
   have hq4:=HQ4.out.lt
   go_wp2_with fail
   clear p0 p1 p2 p3 p4 hpl
   clear hq4
   refine (HI3.out _ HV4.out.below).mono ?_
   rintro e w5 ⟨rfl,k1⟩
   have HV5:=Lib.hid (HV4.out.step k1)
   have HQ5:=Lib.hid (HQ4.out.below k1)
   clear k1
   obtain ⟨p0,p1,p2,p3,p4⟩:=pl5 HV5.out.pl
   have hpl:=HV5.out.pl.lt
   have hq5:=HQ5.out.lt
   obtain ⟨f0,f1,f2,f3,f4⟩:=pl5f HQ5.out
   go_wp2_with fail
   clear hq5 f0 f1 f2 f3 f4
   clear p0 p1 p2 p3 p4 hpl
   refine (HSKp.out _).mono ?_
   rintro e w6 ⟨rfl,k1⟩
   have HV6:=Lib.hid (HV5.out.step k1)
   have HQ6:=Lib.hid (HQ5.out.below k1)
   clear k1
   have hq6:=HQ6.out.lt
   obtain ⟨u0,u1,u2,u3,u4⟩:=pl5 HQ6.out
   obtain ⟨f0,f1,f2,f3,f4⟩:=pl5f HQ6.out
   go_upto_region 14 with fail
   have hQ7:Ho (((((w6.setCell ⟨w3.heap.size,0,none⟩ (.int .i64 (q.a:Nat))).setCell ⟨w3.heap.size,1,none⟩ (.int .i64 (q.er:Nat))).setCell ⟨w3.heap.size,2,none⟩ (.int .i64 (q.line:Nat))).setCell ⟨w3.heap.size,3,none⟩ (.int .i64 (q.col:Nat))).setCell ⟨w3.heap.size,4,none⟩ (.int .i64 q.op)) w3.heap.size #[.int .i64 (q.a:Nat),.int .i64 (q.er:Nat),.int .i64 (q.line:Nat),.int .i64 (q.col:Nat),.int .i64 q.op] 33:=Ho.set (Ho.set (Ho.set (Ho.set (Ho.set HQ6.out rfl) rfl) rfl) rfl) rfl
   have hV7:VB w p (((((w6.setCell ⟨w3.heap.size,0,none⟩ (.int .i64 (q.a:Nat))).setCell ⟨w3.heap.size,1,none⟩ (.int .i64 (q.er:Nat))).setCell ⟨w3.heap.size,2,none⟩ (.int .i64 (q.line:Nat))).setCell ⟨w3.heap.size,3,none⟩ (.int .i64 (q.col:Nat))).setCell ⟨w3.heap.size,4,none⟩ (.int .i64 q.op)):=((((HV6.out.far hbq _ _).far hbq _ _).far hbq _ _).far hbq _ _).far hbq _ _
   generalize (((((w6.setCell ⟨w3.heap.size,0,none⟩ (.int .i64 (q.a:Nat))).setCell ⟨w3.heap.size,1,none⟩ (.int .i64 (q.er:Nat))).setCell ⟨w3.heap.size,2,none⟩ (.int .i64 (q.line:Nat))).setCell ⟨w3.heap.size,3,none⟩ (.int .i64 (q.col:Nat))).setCell ⟨w3.heap.size,4,none⟩ (.int .i64 q.op))=wq at hQ7 hV7 ⊢
   have HQz:=Lib.hid hQ7
   have HVz:=Lib.hid hV7
   clear hQ7 hV7 hq6 u0 u1 u2 u3 u4 f0 f1 f2 f3 f4
   obtain ⟨u0,u1,u2,u3,u4⟩:=pl5 HQz.out
   have hqz:=HQz.out.lt
   have e0:wq.cell? ⟨tb,off + q.a * 4,none⟩=some (.int .i64 (y.k:Nat)):=(HVz.out.below.cell (p:=⟨tb,_,none⟩) htb).trans g0
   have e1:wq.cell? ⟨tb,off + q.a * 4 + 1,none⟩=some (.string ⟨y.t.toArray⟩):=(HVz.out.below.cell (p:=⟨tb,_,none⟩) htb).trans g1
   have htz:tb < wq.heap.size:=by have:=HVz.out.below.size; omega
   go_wp2_with fail
   refine (HSKq.out _).mono ?_
   rintro e wy ⟨rfl,k1⟩
   have HVy:=Lib.hid (HVz.out.step k1)
   clear k1 e0 e1
   obtain ⟨v0',v1',v2',v3',vf0,vf1,vf2,vf3⟩:=vd_cells HVy.out.va
   obtain ⟨q0',q1',q2',q3',q4'⟩:=pl5 HVy.out.qa
   obtain ⟨qf0,qf1,qf2,qf3,qf4⟩:=pl5f HVy.out.qa
   have hva:=HVy.out.va.lt
   have hqa:=HVy.out.qa.lt
   go_wp2_with fail
   (try simp only [Exit.inBlock,Exit.then])
   refine bodyPost_ret (v:=.tuple #[.agg #[.int .i64 1,.int .i64 0,.string ⟨#[]⟩,.bool false],.agg #[.int .i64 ((skipP q).a:Nat),.int .i64 ((skipP q).er:Nat),.int .i64 ((skipP q).line:Nat),.int .i64 ((skipP q).col:Nat),.int .i64 (skipP q).op],.bool true]) ?_ rfl ⟨by rw [HV.out]; rfl,?_⟩
   ·refine par_result3 rfl _ _ _ (a:=⟨w.heap.size + 1,0,none⟩) (b:=⟨w.heap.size + 2,0,none⟩) (by rfl) ?_ (by rfl) ?_ (by rfl)
    ·go_simp
    ·go_simp
   ·repeat' (first | (with_reducible exact HVy.out.below) | with_reducible refine Below.setCell ?_ (by simp <;> omega) _ | with_reducible refine Below.drew ?_ | with_reducible refine Below.alloc ?_ (by simp <;> omega) _)
  case neg =>
  by_cases k9:pe (signed true (tkAt M q.a).t)=0
  case pos =>
   have t5:decide (M.length ≤ q.a)=false:=decide_eq_false (by omega)
   have t6:q.a < M.length:=hl2
   have HYV:Hid (valueP M p=if (tkAt M q.a).k=3 then (if (tkAt M q.a).t=[48] then (vInt 0,skipP q,true) else if pe (signed true (tkAt M q.a).t)=0 then (vInt (pn (signed true (tkAt M q.a).t)),skipP q,true) else (v0,stopP M q 5,true)) else (v0,p,false)):=Lib.hid (by rw [HXV.out,if_neg k4,if_neg hTF,if_pos hm,← hq]; unfold numP; rw [tk_at hl2])
   have hYM:=hM.texts _ (List.mem_of_getElem? (tk_at hl2))
   obtain ⟨tb',off',e9,htb',g0,g1,_,_⟩:=rtk_cells h hl2
   cases e9
   obtain ⟨y,hy⟩:∃ y,y=tkAt M q.a:=⟨_,rfl⟩
   rw [← hy] at g0 g1 HYV hYM k3 k8 k9
   clear hy
   have t7:((y.k:Int) != 3)=false:=by rw [k3]; rfl
   have t8:(y.t == [48])=false:=by rw [beq_eq_false_iff_ne]; exact k8
   obtain ⟨nv,hnv⟩:∃ nv,nv=pn (signed true y.t):=⟨_,rfl⟩
   obtain ⟨ne,hne⟩:∃ ne,ne=pe (signed true y.t):=⟨_,rfl⟩
   obtain ⟨U,hU⟩:∃ U,U=(⟨#[45]⟩ ++ ⟨y.t.toArray⟩:ByteArray):=⟨_,rfl⟩
   have hyz:(⟨y.t.toArray⟩:ByteArray).size=y.t.length:=by show y.t.toArray.size=_; simp
   have hc:∀ w,(Op.stringOp .add ⟨#[45]⟩ ⟨y.t.toArray⟩).run Tryz.prog w=.ok (.string U) w:=fun w=>by rw [hU]; exact run_string_add_sum w _ _ (by rw [hyz]; show 1 + _ ≤ _; omega)
   have hUl:U.data.toList=signed true y.t:=by rw [hU]; simp [signed,ByteArray.data_append]
   have HNX:Hid (∀ (w1:World),Calls Tryz.prog 128 #[.string U] w1 fun e w'=>e=.returned (.tuple #[.int .i64 nv,.int .i64 ne]) ∧ w1=w'):=Lib.hid (fun w1=>by
    have hz:U.size ≤ 9223372036854775807:=by
     have h1:U.size=U.data.toList.length:=by rw [Array.length_toList]; rfl
     rw [h1,hUl]
     unfold signed
     simp
     omega
    have:=HNU.out U w1 hz
    rw [hUl,← hnv,← hne] at this
    exact this)
   clear hU hyz hUl
   rw [← hnv,← hne] at HYV
   rw [← hne] at k9
   have t9:(ne != 0)=false:=by rw [k9]; rfl
   have HV:Hid (valueP M p=(vInt nv,skipP q,true)):=Lib.hid (by rw [HYV.out,if_pos k3,if_neg k8,if_pos k9])
   have HSKq:=Lib.hid (fun w1=>HSK.out q w1 (by omega))
   unfold plV at HSKq
   clear hne hnv
   clear he h hp k4 hl HXV HIS HST HNU HSK HIP hT hF hTF HXX hm hqa hq hl2 hYM k3 HYV k8 k9
   unfold plV at HSKp HI1 HI2 HI3
   unfold plV
   go_enter Tryz.func111,Tryz.ntmps111
   go_upto_region 2 with fail
   have hVB:VB w p ((((w.alloc (.cells #[.int .i64 (p.a:Nat),.int .i64 (p.er:Nat),.int .i64 (p.line:Nat),.int .i64 (p.col:Nat),.int .i64 p.op] 33)).alloc (.cells #[.int .i64 0,.int .i64 0,.string ⟨#[]⟩,.bool false] 39)).alloc (.cells #[.int .i64 0,.int .i64 0,.int .i64 0,.int .i64 0,.int .i64 0] 33)).alloc (.cells #[.int .i64 0,.int .i64 0,.string ⟨#[]⟩,.bool false] 39)):=⟨((((Ho.new _ _ _ rfl).alloc _).alloc _).alloc _),((Ho.new _ _ _ (by simp)).alloc _).alloc _,(Ho.new _ _ _ (by simp)).alloc _,Ho.new _ _ _ (by simp),(((((Below.refl _ _).alloc (Nat.le_refl _) _).alloc (by simp) _).alloc (by simp <;> omega) _).alloc (by simp <;> omega) _)⟩
   generalize (((w.alloc (.cells #[.int .i64 (p.a:Nat),.int .i64 (p.er:Nat),.int .i64 (p.line:Nat),.int .i64 (p.col:Nat),.int .i64 p.op] 33)).alloc (.cells #[.int .i64 0,.int .i64 0,.string ⟨#[]⟩,.bool false] 39)).alloc (.cells #[.int .i64 0,.int .i64 0,.int .i64 0,.int .i64 0,.int .i64 0] 33)).alloc (.cells #[.int .i64 0,.int .i64 0,.string ⟨#[]⟩,.bool false] 39)=w0 at hVB ⊢
   have HV0:=Lib.hid hVB
   clear hVB
   obtain ⟨p0,p1,p2,p3,p4⟩:=pl5 HV0.out.pl
   have hpl:=HV0.out.pl.lt
   have e0:w0.cell? ⟨tb,off + p.a * 4,none⟩=some (.int .i64 (x.k:Nat)):=(HV0.out.below.cell (p:=⟨tb,_,none⟩) htb).trans d0
   have e1:w0.cell? ⟨tb,off + p.a * 4 + 1,none⟩=some (.string ⟨x.t.toArray⟩):=(HV0.out.below.cell (p:=⟨tb,_,none⟩) htb).trans d1
   have e2:w0.cell? ⟨tb,off + p.a * 4 + 2,none⟩=some (.int .i64 (x.line:Nat)):=(HV0.out.below.cell (p:=⟨tb,_,none⟩) htb).trans d2
   have e3:w0.cell? ⟨tb,off + p.a * 4 + 3,none⟩=some (.int .i64 (x.col:Nat)):=(HV0.out.below.cell (p:=⟨tb,_,none⟩) htb).trans d3
   have htb0:tb < w0.heap.size:=by have:=HV0.out.below.size; omega
   go_upto_region 5 with fail
   have hA:Below w0.heap.size w0 (w0.alloc (.cells #[.int .i64 (x.k:Nat),.string ⟨x.t.toArray⟩,.int .i64 (x.line:Nat),.int .i64 (x.col:Nat)] 37)):=(Below.refl _ _).alloc (Nat.le_refl _) _
   have hT1:Ho (w0.alloc (.cells #[.int .i64 (x.k:Nat),.string ⟨x.t.toArray⟩,.int .i64 (x.line:Nat),.int .i64 (x.col:Nat)] 37)) w0.heap.size #[.int .i64 (x.k:Nat),.string ⟨x.t.toArray⟩,.int .i64 (x.line:Nat),.int .i64 (x.col:Nat)] 37:=Ho.new _ _ _ rfl
   have hV1:=HV0.out.step hA
   generalize w0.alloc (.cells #[.int .i64 (x.k:Nat),.string ⟨x.t.toArray⟩,.int .i64 (x.line:Nat),.int .i64 (x.col:Nat)] 37)=w1 at hA hT1 hV1 ⊢
   have HT1:=Lib.hid hT1
   have HV1:=Lib.hid hV1
   clear hA hT1 hV1 e0 e1 e2 e3 p0 p1 p2 p3 p4 hpl
   obtain ⟨x0,x1,_,_⟩:=vd_cells HT1.out
   have hxl:=HT1.out.lt
   obtain ⟨p0,p1,p2,p3,p4⟩:=pl5 HV1.out.pl
   have hpl:=HV1.out.pl.lt
   go_wp2_with fail
   clear x0 x1 hxl
   clear p0 p1 p2 p3 p4 hpl
   refine (HI1.out _ HV1.out.below).mono ?_
   rintro e w2 ⟨rfl,k1⟩
   have HV2:=Lib.hid (HV1.out.step k1)
   clear k1
   obtain ⟨p0,p1,p2,p3,p4⟩:=pl5 HV2.out.pl
   have hpl:=HV2.out.pl.lt
   go_wp2_with fail
   clear p0 p1 p2 p3 p4 hpl
   refine (HI2.out _ HV2.out.below).mono ?_
   rintro e w3 ⟨rfl,k1⟩
   have HV3:=Lib.hid (HV2.out.step k1)
   clear k1
   obtain ⟨p0,p1,p2,p3,p4⟩:=pl5 HV3.out.pl
   have hpl:=HV3.out.pl.lt
   go_upto_region 11 with fail
   have hA4:Below w3.heap.size w3 (w3.alloc (.cells #[.int .i64 (p.a:Nat),.int .i64 (p.er:Nat),.int .i64 (p.line:Nat),.int .i64 (p.col:Nat),.int .i64 p.op] 33)):=(Below.refl _ _).alloc (Nat.le_refl _) _
   have hQ4:Ho (w3.alloc (.cells #[.int .i64 (p.a:Nat),.int .i64 (p.er:Nat),.int .i64 (p.line:Nat),.int .i64 (p.col:Nat),.int .i64 p.op] 33)) w3.heap.size #[.int .i64 (p.a:Nat),.int .i64 (p.er:Nat),.int .i64 (p.line:Nat),.int .i64 (p.col:Nat),.int .i64 p.op] 33:=Ho.new _ _ _ rfl
   have hV4:=HV3.out.step hA4
   have hbq:w.heap.size + 3 < w3.heap.size:=HV3.out.no.lt
   generalize w3.alloc (.cells #[.int .i64 (p.a:Nat),.int .i64 (p.er:Nat),.int .i64 (p.line:Nat),.int .i64 (p.col:Nat),.int .i64 p.op] 33)=w4 at hA4 hQ4 hV4 ⊢
   have HQ4:=Lib.hid hQ4
   have HV4:=Lib.hid hV4
   clear hA4 hQ4 hV4
   clear p0 p1 p2 p3 p4 hpl
   obtain ⟨p0,p1,p2,p3,p4⟩:=pl5 HV4.out.pl
   have hpl:=HV4.out.pl.lt
   have hq4:=HQ4.out.lt
   go_wp2_with fail
   clear p0 p1 p2 p3 p4 hpl
   clear hq4
   refine (HI3.out _ HV4.out.below).mono ?_
   rintro e w5 ⟨rfl,k1⟩
   have HV5:=Lib.hid (HV4.out.step k1)
   have HQ5:=Lib.hid (HQ4.out.below k1)
   clear k1
   obtain ⟨p0,p1,p2,p3,p4⟩:=pl5 HV5.out.pl
   have hpl:=HV5.out.pl.lt
   have hq5:=HQ5.out.lt
   obtain ⟨f0,f1,f2,f3,f4⟩:=pl5f HQ5.out
   go_wp2_with fail
   clear hq5 f0 f1 f2 f3 f4
   clear p0 p1 p2 p3 p4 hpl
   refine (HSKp.out _).mono ?_
   rintro e w6 ⟨rfl,k1⟩
   have HV6:=Lib.hid (HV5.out.step k1)
   have HQ6:=Lib.hid (HQ5.out.below k1)
   clear k1
   have hq6:=HQ6.out.lt
   obtain ⟨u0,u1,u2,u3,u4⟩:=pl5 HQ6.out
   obtain ⟨f0,f1,f2,f3,f4⟩:=pl5f HQ6.out
   go_upto_region 14 with fail
   have hQ7:Ho (((((w6.setCell ⟨w3.heap.size,0,none⟩ (.int .i64 (q.a:Nat))).setCell ⟨w3.heap.size,1,none⟩ (.int .i64 (q.er:Nat))).setCell ⟨w3.heap.size,2,none⟩ (.int .i64 (q.line:Nat))).setCell ⟨w3.heap.size,3,none⟩ (.int .i64 (q.col:Nat))).setCell ⟨w3.heap.size,4,none⟩ (.int .i64 q.op)) w3.heap.size #[.int .i64 (q.a:Nat),.int .i64 (q.er:Nat),.int .i64 (q.line:Nat),.int .i64 (q.col:Nat),.int .i64 q.op] 33:=Ho.set (Ho.set (Ho.set (Ho.set (Ho.set HQ6.out rfl) rfl) rfl) rfl) rfl
   have hV7:VB w p (((((w6.setCell ⟨w3.heap.size,0,none⟩ (.int .i64 (q.a:Nat))).setCell ⟨w3.heap.size,1,none⟩ (.int .i64 (q.er:Nat))).setCell ⟨w3.heap.size,2,none⟩ (.int .i64 (q.line:Nat))).setCell ⟨w3.heap.size,3,none⟩ (.int .i64 (q.col:Nat))).setCell ⟨w3.heap.size,4,none⟩ (.int .i64 q.op)):=((((HV6.out.far hbq _ _).far hbq _ _).far hbq _ _).far hbq _ _).far hbq _ _
   generalize (((((w6.setCell ⟨w3.heap.size,0,none⟩ (.int .i64 (q.a:Nat))).setCell ⟨w3.heap.size,1,none⟩ (.int .i64 (q.er:Nat))).setCell ⟨w3.heap.size,2,none⟩ (.int .i64 (q.line:Nat))).setCell ⟨w3.heap.size,3,none⟩ (.int .i64 (q.col:Nat))).setCell ⟨w3.heap.size,4,none⟩ (.int .i64 q.op))=wq at hQ7 hV7 ⊢
   have HQz:=Lib.hid hQ7
   have HVz:=Lib.hid hV7
   clear hQ7 hV7 hq6 u0 u1 u2 u3 u4 f0 f1 f2 f3 f4
   obtain ⟨u0,u1,u2,u3,u4⟩:=pl5 HQz.out
   have hqz:=HQz.out.lt
   have e0:wq.cell? ⟨tb,off + q.a * 4,none⟩=some (.int .i64 (y.k:Nat)):=(HVz.out.below.cell (p:=⟨tb,_,none⟩) htb).trans g0
   have e1:wq.cell? ⟨tb,off + q.a * 4 + 1,none⟩=some (.string ⟨y.t.toArray⟩):=(HVz.out.below.cell (p:=⟨tb,_,none⟩) htb).trans g1
   have htz:tb < wq.heap.size:=by have:=HVz.out.below.size; omega
   go_wp2_with fail
   refine (HNX.out _).mono ?_
   rintro e wn ⟨rfl,rfl⟩
   go_wp2_with fail
   refine (HSKq.out _).mono ?_
   rintro e wy ⟨rfl,k1⟩
   have HVy:=Lib.hid (HVz.out.step k1)
   clear k1 e0 e1
   obtain ⟨v0',v1',v2',v3',vf0,vf1,vf2,vf3⟩:=vd_cells HVy.out.va
   obtain ⟨q0',q1',q2',q3',q4'⟩:=pl5 HVy.out.qa
   obtain ⟨qf0,qf1,qf2,qf3,qf4⟩:=pl5f HVy.out.qa
   have hva:=HVy.out.va.lt
   have hqa:=HVy.out.qa.lt
   go_wp2_with fail
   (try simp only [Exit.inBlock,Exit.then])
   refine bodyPost_ret (v:=.tuple #[.agg #[.int .i64 1,.int .i64 nv,.string ⟨#[]⟩,.bool false],.agg #[.int .i64 ((skipP q).a:Nat),.int .i64 ((skipP q).er:Nat),.int .i64 ((skipP q).line:Nat),.int .i64 ((skipP q).col:Nat),.int .i64 (skipP q).op],.bool true]) ?_ rfl ⟨by rw [HV.out]; rfl,?_⟩
   ·refine par_result3 rfl _ _ _ (a:=⟨w.heap.size + 1,0,none⟩) (b:=⟨w.heap.size + 2,0,none⟩) (by rfl) ?_ (by rfl) ?_ (by rfl)
    ·go_simp
    ·go_simp
   ·repeat' (first | (with_reducible exact HVy.out.below) | with_reducible refine Below.setCell ?_ (by simp <;> omega) _ | with_reducible refine Below.drew ?_ | with_reducible refine Below.alloc ?_ (by simp <;> omega) _)
  case neg =>
   have t5:decide (M.length ≤ q.a)=false:=decide_eq_false (by omega)
   have t6:q.a < M.length:=hl2
   have HYV:Hid (valueP M p=if (tkAt M q.a).k=3 then (if (tkAt M q.a).t=[48] then (vInt 0,skipP q,true) else if pe (signed true (tkAt M q.a).t)=0 then (vInt (pn (signed true (tkAt M q.a).t)),skipP q,true) else (v0,stopP M q 5,true)) else (v0,p,false)):=Lib.hid (by rw [HXV.out,if_neg k4,if_neg hTF,if_pos hm,← hq]; unfold numP; rw [tk_at hl2])
   have hYM:=hM.texts _ (List.mem_of_getElem? (tk_at hl2))
   obtain ⟨tb',off',e9,htb',g0,g1,_,_⟩:=rtk_cells h hl2
   cases e9
   obtain ⟨y,hy⟩:∃ y,y=tkAt M q.a:=⟨_,rfl⟩
   rw [← hy] at g0 g1 HYV hYM k3 k8 k9
   clear hy
   have t7:((y.k:Int) != 3)=false:=by rw [k3]; rfl
   have t8:(y.t == [48])=false:=by rw [beq_eq_false_iff_ne]; exact k8
   obtain ⟨nv,hnv⟩:∃ nv,nv=pn (signed true y.t):=⟨_,rfl⟩
   obtain ⟨ne,hne⟩:∃ ne,ne=pe (signed true y.t):=⟨_,rfl⟩
   obtain ⟨U,hU⟩:∃ U,U=(⟨#[45]⟩ ++ ⟨y.t.toArray⟩:ByteArray):=⟨_,rfl⟩
   have hyz:(⟨y.t.toArray⟩:ByteArray).size=y.t.length:=by show y.t.toArray.size=_; simp
   have hc:∀ w,(Op.stringOp .add ⟨#[45]⟩ ⟨y.t.toArray⟩).run Tryz.prog w=.ok (.string U) w:=fun w=>by rw [hU]; exact run_string_add_sum w _ _ (by rw [hyz]; show 1 + _ ≤ _; omega)
   have hUl:U.data.toList=signed true y.t:=by rw [hU]; simp [signed,ByteArray.data_append]
   have HNX:Hid (∀ (w1:World),Calls Tryz.prog 128 #[.string U] w1 fun e w'=>e=.returned (.tuple #[.int .i64 nv,.int .i64 ne]) ∧ w1=w'):=Lib.hid (fun w1=>by
    have hz:U.size ≤ 9223372036854775807:=by
     have h1:U.size=U.data.toList.length:=by rw [Array.length_toList]; rfl
     rw [h1,hUl]
     unfold signed
     simp
     omega
    have:=HNU.out U w1 hz
    rw [hUl,← hnv,← hne] at this
    exact this)
   clear hU hyz hUl
   rw [← hnv,← hne] at HYV
   rw [← hne] at k9
   have t9:(ne != 0)=true:=by rw [bne_iff_ne]; exact k9
   obtain ⟨z,hz⟩:∃ z,z=stopP M q 5:=⟨_,rfl⟩
   have HV:Hid (valueP M p=(v0,z,true)):=Lib.hid (by rw [HYV.out,if_pos k3,if_neg k8,if_neg k9,hz])
   have HSTq:Hid (∀ w1,Below w.heap.size w w1 → Calls Tryz.prog 68 #[.slice (some ⟨tb,off,none⟩) M.length tc,plV q,.int .i64 5] w1 fun e w'=>e=.returned (plV z) ∧ Below w1.heap.size w1 w'):=Lib.hid (fun w1 hb=>by
    have:=HST.out w1 hb q (by omega)
    rw [← hz] at this
    exact this)
   unfold plV at HSTq
   clear hne hnv hz
   clear he h hp k4 hl HXV HIS HST HNU HSK HIP hT hF hTF HXX hm hqa hq hl2 hYM k3 HYV k8 k9
   unfold plV at HSKp HI1 HI2 HI3
   unfold plV
   go_enter Tryz.func111,Tryz.ntmps111
   go_upto_region 2 with fail
   have hVB:VB w p ((((w.alloc (.cells #[.int .i64 (p.a:Nat),.int .i64 (p.er:Nat),.int .i64 (p.line:Nat),.int .i64 (p.col:Nat),.int .i64 p.op] 33)).alloc (.cells #[.int .i64 0,.int .i64 0,.string ⟨#[]⟩,.bool false] 39)).alloc (.cells #[.int .i64 0,.int .i64 0,.int .i64 0,.int .i64 0,.int .i64 0] 33)).alloc (.cells #[.int .i64 0,.int .i64 0,.string ⟨#[]⟩,.bool false] 39)):=⟨((((Ho.new _ _ _ rfl).alloc _).alloc _).alloc _),((Ho.new _ _ _ (by simp)).alloc _).alloc _,(Ho.new _ _ _ (by simp)).alloc _,Ho.new _ _ _ (by simp),(((((Below.refl _ _).alloc (Nat.le_refl _) _).alloc (by simp) _).alloc (by simp <;> omega) _).alloc (by simp <;> omega) _)⟩
   generalize (((w.alloc (.cells #[.int .i64 (p.a:Nat),.int .i64 (p.er:Nat),.int .i64 (p.line:Nat),.int .i64 (p.col:Nat),.int .i64 p.op] 33)).alloc (.cells #[.int .i64 0,.int .i64 0,.string ⟨#[]⟩,.bool false] 39)).alloc (.cells #[.int .i64 0,.int .i64 0,.int .i64 0,.int .i64 0,.int .i64 0] 33)).alloc (.cells #[.int .i64 0,.int .i64 0,.string ⟨#[]⟩,.bool false] 39)=w0 at hVB ⊢
   have HV0:=Lib.hid hVB
   clear hVB
   obtain ⟨p0,p1,p2,p3,p4⟩:=pl5 HV0.out.pl
   have hpl:=HV0.out.pl.lt
   have e0:w0.cell? ⟨tb,off + p.a * 4,none⟩=some (.int .i64 (x.k:Nat)):=(HV0.out.below.cell (p:=⟨tb,_,none⟩) htb).trans d0
   have e1:w0.cell? ⟨tb,off + p.a * 4 + 1,none⟩=some (.string ⟨x.t.toArray⟩):=(HV0.out.below.cell (p:=⟨tb,_,none⟩) htb).trans d1
   have e2:w0.cell? ⟨tb,off + p.a * 4 + 2,none⟩=some (.int .i64 (x.line:Nat)):=(HV0.out.below.cell (p:=⟨tb,_,none⟩) htb).trans d2
   have e3:w0.cell? ⟨tb,off + p.a * 4 + 3,none⟩=some (.int .i64 (x.col:Nat)):=(HV0.out.below.cell (p:=⟨tb,_,none⟩) htb).trans d3
   have htb0:tb < w0.heap.size:=by have:=HV0.out.below.size; omega
   go_upto_region 5 with fail
   have hA:Below w0.heap.size w0 (w0.alloc (.cells #[.int .i64 (x.k:Nat),.string ⟨x.t.toArray⟩,.int .i64 (x.line:Nat),.int .i64 (x.col:Nat)] 37)):=(Below.refl _ _).alloc (Nat.le_refl _) _
   have hT1:Ho (w0.alloc (.cells #[.int .i64 (x.k:Nat),.string ⟨x.t.toArray⟩,.int .i64 (x.line:Nat),.int .i64 (x.col:Nat)] 37)) w0.heap.size #[.int .i64 (x.k:Nat),.string ⟨x.t.toArray⟩,.int .i64 (x.line:Nat),.int .i64 (x.col:Nat)] 37:=Ho.new _ _ _ rfl
   have hV1:=HV0.out.step hA
   generalize w0.alloc (.cells #[.int .i64 (x.k:Nat),.string ⟨x.t.toArray⟩,.int .i64 (x.line:Nat),.int .i64 (x.col:Nat)] 37)=w1 at hA hT1 hV1 ⊢
   have HT1:=Lib.hid hT1
   have HV1:=Lib.hid hV1
   clear hA hT1 hV1 e0 e1 e2 e3 p0 p1 p2 p3 p4 hpl
   obtain ⟨x0,x1,_,_⟩:=vd_cells HT1.out
   have hxl:=HT1.out.lt
   obtain ⟨p0,p1,p2,p3,p4⟩:=pl5 HV1.out.pl
   have hpl:=HV1.out.pl.lt
   go_wp2_with fail
   clear x0 x1 hxl
   clear p0 p1 p2 p3 p4 hpl
   refine (HI1.out _ HV1.out.below).mono ?_
   rintro e w2 ⟨rfl,k1⟩
   have HV2:=Lib.hid (HV1.out.step k1)
   clear k1
   obtain ⟨p0,p1,p2,p3,p4⟩:=pl5 HV2.out.pl
   have hpl:=HV2.out.pl.lt
   go_wp2_with fail
   clear p0 p1 p2 p3 p4 hpl
   refine (HI2.out _ HV2.out.below).mono ?_
   rintro e w3 ⟨rfl,k1⟩
   have HV3:=Lib.hid (HV2.out.step k1)
   clear k1
   obtain ⟨p0,p1,p2,p3,p4⟩:=pl5 HV3.out.pl
   have hpl:=HV3.out.pl.lt
   go_upto_region 11 with fail
   have hA4:Below w3.heap.size w3 (w3.alloc (.cells #[.int .i64 (p.a:Nat),.int .i64 (p.er:Nat),.int .i64 (p.line:Nat),.int .i64 (p.col:Nat),.int .i64 p.op] 33)):=(Below.refl _ _).alloc (Nat.le_refl _) _
   have hQ4:Ho (w3.alloc (.cells #[.int .i64 (p.a:Nat),.int .i64 (p.er:Nat),.int .i64 (p.line:Nat),.int .i64 (p.col:Nat),.int .i64 p.op] 33)) w3.heap.size #[.int .i64 (p.a:Nat),.int .i64 (p.er:Nat),.int .i64 (p.line:Nat),.int .i64 (p.col:Nat),.int .i64 p.op] 33:=Ho.new _ _ _ rfl
   have hV4:=HV3.out.step hA4
   have hbq:w.heap.size + 3 < w3.heap.size:=HV3.out.no.lt
   generalize w3.alloc (.cells #[.int .i64 (p.a:Nat),.int .i64 (p.er:Nat),.int .i64 (p.line:Nat),.int .i64 (p.col:Nat),.int .i64 p.op] 33)=w4 at hA4 hQ4 hV4 ⊢
   have HQ4:=Lib.hid hQ4
   have HV4:=Lib.hid hV4
   clear hA4 hQ4 hV4
   clear p0 p1 p2 p3 p4 hpl
   obtain ⟨p0,p1,p2,p3,p4⟩:=pl5 HV4.out.pl
   have hpl:=HV4.out.pl.lt
   have hq4:=HQ4.out.lt
   go_wp2_with fail
   clear p0 p1 p2 p3 p4 hpl
   clear hq4
   refine (HI3.out _ HV4.out.below).mono ?_
   rintro e w5 ⟨rfl,k1⟩
   have HV5:=Lib.hid (HV4.out.step k1)
   have HQ5:=Lib.hid (HQ4.out.below k1)
   clear k1
   obtain ⟨p0,p1,p2,p3,p4⟩:=pl5 HV5.out.pl
   have hpl:=HV5.out.pl.lt
   have hq5:=HQ5.out.lt
   obtain ⟨f0,f1,f2,f3,f4⟩:=pl5f HQ5.out
   go_wp2_with fail
   clear hq5 f0 f1 f2 f3 f4
   clear p0 p1 p2 p3 p4 hpl
   refine (HSKp.out _).mono ?_
   rintro e w6 ⟨rfl,k1⟩
   have HV6:=Lib.hid (HV5.out.step k1)
   have HQ6:=Lib.hid (HQ5.out.below k1)
   clear k1
   have hq6:=HQ6.out.lt
   obtain ⟨u0,u1,u2,u3,u4⟩:=pl5 HQ6.out
   obtain ⟨f0,f1,f2,f3,f4⟩:=pl5f HQ6.out
   go_upto_region 14 with fail
   have hQ7:Ho (((((w6.setCell ⟨w3.heap.size,0,none⟩ (.int .i64 (q.a:Nat))).setCell ⟨w3.heap.size,1,none⟩ (.int .i64 (q.er:Nat))).setCell ⟨w3.heap.size,2,none⟩ (.int .i64 (q.line:Nat))).setCell ⟨w3.heap.size,3,none⟩ (.int .i64 (q.col:Nat))).setCell ⟨w3.heap.size,4,none⟩ (.int .i64 q.op)) w3.heap.size #[.int .i64 (q.a:Nat),.int .i64 (q.er:Nat),.int .i64 (q.line:Nat),.int .i64 (q.col:Nat),.int .i64 q.op] 33:=Ho.set (Ho.set (Ho.set (Ho.set (Ho.set HQ6.out rfl) rfl) rfl) rfl) rfl
   have hV7:VB w p (((((w6.setCell ⟨w3.heap.size,0,none⟩ (.int .i64 (q.a:Nat))).setCell ⟨w3.heap.size,1,none⟩ (.int .i64 (q.er:Nat))).setCell ⟨w3.heap.size,2,none⟩ (.int .i64 (q.line:Nat))).setCell ⟨w3.heap.size,3,none⟩ (.int .i64 (q.col:Nat))).setCell ⟨w3.heap.size,4,none⟩ (.int .i64 q.op)):=((((HV6.out.far hbq _ _).far hbq _ _).far hbq _ _).far hbq _ _).far hbq _ _
   generalize (((((w6.setCell ⟨w3.heap.size,0,none⟩ (.int .i64 (q.a:Nat))).setCell ⟨w3.heap.size,1,none⟩ (.int .i64 (q.er:Nat))).setCell ⟨w3.heap.size,2,none⟩ (.int .i64 (q.line:Nat))).setCell ⟨w3.heap.size,3,none⟩ (.int .i64 (q.col:Nat))).setCell ⟨w3.heap.size,4,none⟩ (.int .i64 q.op))=wq at hQ7 hV7 ⊢
   have HQz:=Lib.hid hQ7
   have HVz:=Lib.hid hV7
   clear hQ7 hV7 hq6 u0 u1 u2 u3 u4 f0 f1 f2 f3 f4
   obtain ⟨u0,u1,u2,u3,u4⟩:=pl5 HQz.out
   have hqz:=HQz.out.lt
   have e0:wq.cell? ⟨tb,off + q.a * 4,none⟩=some (.int .i64 (y.k:Nat)):=(HVz.out.below.cell (p:=⟨tb,_,none⟩) htb).trans g0
   have e1:wq.cell? ⟨tb,off + q.a * 4 + 1,none⟩=some (.string ⟨y.t.toArray⟩):=(HVz.out.below.cell (p:=⟨tb,_,none⟩) htb).trans g1
   have htz:tb < wq.heap.size:=by have:=HVz.out.below.size; omega
   go_wp2_with fail
   refine (HNX.out _).mono ?_
   rintro e wn ⟨rfl,rfl⟩
   have HS5:Hid (∀ U,VB w p U → Ho U w3.heap.size #[.int .i64 (q.a:Nat),.int .i64 (q.er:Nat),.int .i64 (q.line:Nat),.int .i64 (q.col:Nat),.int .i64 q.op] 33 → (U.cell? ⟨w.heap.size + 3,0,none⟩=some (.int .i64 0) ∧ U.cell? ⟨w.heap.size + 3,1,none⟩=some (.int .i64 0) ∧ U.cell? ⟨w.heap.size + 3,2,none⟩=some (.string ⟨#[]⟩) ∧ U.cell? ⟨w.heap.size + 3,3,none⟩=some (.bool false) ∧ U.cell? ⟨w3.heap.size,0,none⟩=some (.int .i64 (q.a:Nat)) ∧ U.cell? ⟨w3.heap.size,1,none⟩=some (.int .i64 (q.er:Nat)) ∧ U.cell? ⟨w3.heap.size,2,none⟩=some (.int .i64 (q.line:Nat)) ∧ U.cell? ⟨w3.heap.size,3,none⟩=some (.int .i64 (q.col:Nat)) ∧ U.cell? ⟨w3.heap.size,4,none⟩=some (.int .i64 q.op))):=Lib.hid (fun U h1 h2=>⟨(vd_cells h1.no).1,(vd_cells h1.no).2.1,(vd_cells h1.no).2.2.1,(vd_cells h1.no).2.2.2.1,(pl5 h2).1,(pl5 h2).2.1,(pl5 h2).2.2.1,(pl5 h2).2.2.2.1,(pl5 h2).2.2.2.2⟩)
   go_wp2_with fail
   clear u0 u1 u2 u3 u4 hqz e0 e1
   refine wp_region_B (S:=(fun U=>U.cell? ⟨w.heap.size + 3,0,none⟩=some (.int .i64 0) ∧ U.cell? ⟨w.heap.size + 3,1,none⟩=some (.int .i64 0) ∧ U.cell? ⟨w.heap.size + 3,2,none⟩=some (.string ⟨#[]⟩) ∧ U.cell? ⟨w.heap.size + 3,3,none⟩=some (.bool false) ∧ U.cell? ⟨w3.heap.size,0,none⟩=some (.int .i64 (q.a:Nat)) ∧ U.cell? ⟨w3.heap.size,1,none⟩=some (.int .i64 (q.er:Nat)) ∧ U.cell? ⟨w3.heap.size,2,none⟩=some (.int .i64 (q.line:Nat)) ∧ U.cell? ⟨w3.heap.size,3,none⟩=some (.int .i64 (q.col:Nat)) ∧ U.cell? ⟨w3.heap.size,4,none⟩=some (.int .i64 q.op))) [4,5,6] (by kernel_rfl) (HS5.out wq.drew ⟨HVz.out.pl,HVz.out.va,HVz.out.qa,HVz.out.no,HVz.out.below.drew⟩ HQz.out) (fun hH0=>?_)
   refine wpB_take (i:=0) (v:=.agg #[.int .i64 0,.int .i64 0,.string ⟨#[]⟩,.bool false]) [4,5,6] rfl (by kernel_rfl) (by kernel_rfl) (by kernel_rfl) (by kernel_rfl) (fun _ _ _ h=>h) (Or.inl ⟨by kernel_rfl,fun wS hSw=>by (try dsimp only at hSw); go_simp⟩) hH0 ?_
   refine wpB_take (i:=1) (v:=.slice (some ⟨tb,off,none⟩) M.length tc) [3,4,5,6] rfl (by kernel_rfl) (by kernel_rfl) (by kernel_rfl) (by kernel_rfl) (fun _ _ _ h=>h) (Or.inl ⟨by kernel_rfl,fun wS hSw=>by (try dsimp only at hSw); go_simp⟩) hH0 ?_
   refine wpB_take (i:=2) (v:=.agg #[.int .i64 (q.a:Nat),.int .i64 (q.er:Nat),.int .i64 (q.line:Nat),.int .i64 (q.col:Nat),.int .i64 q.op]) [3,4,5,6] rfl (by kernel_rfl) (by kernel_rfl) (by kernel_rfl) (by kernel_rfl) (fun _ _ _ h=>h) (Or.inl ⟨by kernel_rfl,fun wS hSw=>by (try dsimp only at hSw); go_simp⟩) hH0 ?_
   refine wpB_step (i:=3) rfl (by kernel_rfl) (fun K hK=>?_)
   rw [if_pos (by kernel_rfl)]
   go_simp
   refine (HSTq.out _ HVz.out.below.drew).mono ?_
   rintro e wy ⟨rfl,k1⟩
   have k2:Below wq.heap.size wq wy:=((Below.refl wq.heap.size wq).drew).trans k1
   have HVy:=Lib.hid (HVz.out.step k2)
   have HQy:=Lib.hid (HQz.out.below k2)
   clear k1 k2
   refine hK.out _ _ (HS5.out wy HVy.out HQy.out) (fun hH1=>?_)
   clear hK K
   obtain ⟨v0',v1',v2',v3',vf0,vf1,vf2,vf3⟩:=vd_cells HVy.out.va
   obtain ⟨q0',q1',q2',q3',q4'⟩:=pl5 HVy.out.qa
   obtain ⟨qf0,qf1,qf2,qf3,qf4⟩:=pl5f HVy.out.qa
   have hva:=HVy.out.va.lt
   have hqa:=HVy.out.qa.lt
   refine wpB_past (i:=4) rfl (by kernel_rfl) (by kernel_rfl) (fun K hK=>?_)
   rw [if_pos (by kernel_rfl)]
   go_simp
   refine hK.out _ _ ?_
   clear hK K
   refine wpB_past (i:=5) rfl (by kernel_rfl) (by kernel_rfl) (fun K hK=>?_)
   rw [if_pos (by kernel_rfl)]
   go_simp
   refine hK.out _ _ ?_
   clear hK K
   refine wpB_past (i:=6) rfl (by kernel_rfl) (by kernel_rfl) (fun K hK=>?_)
   rw [if_pos (by kernel_rfl)]
   go_simp
   refine hK.out _ _ ?_
   clear hK K
   refine wpB_done (by kernel_rfl) ?_ _
   go_simp
   go_wp2_with fail
   (try simp only [Exit.inBlock,Exit.then])
   refine bodyPost_ret (v:=.tuple #[.agg #[.int .i64 0,.int .i64 0,.string ⟨#[]⟩,.bool false],.agg #[.int .i64 (z.a:Nat),.int .i64 (z.er:Nat),.int .i64 (z.line:Nat),.int .i64 (z.col:Nat),.int .i64 z.op],.bool true]) ?_ rfl ⟨by rw [HV.out]; rfl,?_⟩
   ·refine par_result3 rfl _ _ _ (a:=⟨w.heap.size + 1,0,none⟩) (b:=⟨w.heap.size + 2,0,none⟩) (by rfl) ?_ (by rfl) ?_ (by rfl)
    ·go_simp
    ·go_simp
   ·repeat' (first | (with_reducible exact HVy.out.below) | with_reducible refine Below.setCell ?_ (by simp <;> omega) _ | with_reducible refine Below.drew ?_ | with_reducible refine Below.alloc ?_ (by simp <;> omega) _)
 case neg =>
 have hm:isP M p [45]=false:=by simpa using hm
 have HI3:Hid (∀ w1,Below w.heap.size w w1 → Calls Tryz.prog 16 #[.slice (some ⟨tb,off,none⟩) M.length tc,plV p,.string ⟨#[45]⟩] w1 fun e w'=>e=.returned (.bool false) ∧ Below w1.heap.size w1 w'):=Lib.hid (fun w1 hb=>HIS.out ⟨#[45]⟩ false w1 hm hb)
 have hl2:=hl
 by_cases k3:(tkAt M p.a).k=3
 case neg =>
  have t5:decide (M.length ≤ p.a)=false:=decide_eq_false (by omega)
  have t6:p.a < M.length:=hl2
  have HYV:Hid (valueP M p=if (tkAt M p.a).k=3 then (if (tkAt M p.a).t=[48] then (vInt 0,skipP p,true) else if pe (signed false (tkAt M p.a).t)=0 then (vInt (pn (signed false (tkAt M p.a).t)),skipP p,true) else (v0,stopP M p 5,true)) else (v0,p,false)):=Lib.hid (by rw [HXV.out,if_neg k4,if_neg hTF,if_neg (by rw [hm]; decide)]; unfold numP; rw [tk_at hl2])
  have hYM:=hM.texts _ (List.mem_of_getElem? (tk_at hl2))
  obtain ⟨tb',off',e9,htb',g0,g1,_,_⟩:=rtk_cells h hl2
  cases e9
  obtain ⟨y,hy⟩:∃ y,y=tkAt M p.a:=⟨_,rfl⟩
  rw [← hy] at g0 g1 HYV hYM k3
  clear hy
  have t7:((y.k:Int) != 3)=true:=by rw [bne_iff_ne]; omega
  have HV:Hid (valueP M p=(v0,p,false)):=Lib.hid (by rw [HYV.out,if_neg (fun k=>k3 k)])
  clear he h hp k4 hl HXV HIS HST HNU HSK HIP hT hF hTF HXX hm hl2 hYM k3 HYV
  unfold plV at HI1 HI2 HI3
  unfold plV
  go_enter Tryz.func111,Tryz.ntmps111
  go_upto_region 2 with fail
  have hVB:VB w p ((((w.alloc (.cells #[.int .i64 (p.a:Nat),.int .i64 (p.er:Nat),.int .i64 (p.line:Nat),.int .i64 (p.col:Nat),.int .i64 p.op] 33)).alloc (.cells #[.int .i64 0,.int .i64 0,.string ⟨#[]⟩,.bool false] 39)).alloc (.cells #[.int .i64 0,.int .i64 0,.int .i64 0,.int .i64 0,.int .i64 0] 33)).alloc (.cells #[.int .i64 0,.int .i64 0,.string ⟨#[]⟩,.bool false] 39)):=⟨((((Ho.new _ _ _ rfl).alloc _).alloc _).alloc _),((Ho.new _ _ _ (by simp)).alloc _).alloc _,(Ho.new _ _ _ (by simp)).alloc _,Ho.new _ _ _ (by simp),(((((Below.refl _ _).alloc (Nat.le_refl _) _).alloc (by simp) _).alloc (by simp <;> omega) _).alloc (by simp <;> omega) _)⟩
  generalize (((w.alloc (.cells #[.int .i64 (p.a:Nat),.int .i64 (p.er:Nat),.int .i64 (p.line:Nat),.int .i64 (p.col:Nat),.int .i64 p.op] 33)).alloc (.cells #[.int .i64 0,.int .i64 0,.string ⟨#[]⟩,.bool false] 39)).alloc (.cells #[.int .i64 0,.int .i64 0,.int .i64 0,.int .i64 0,.int .i64 0] 33)).alloc (.cells #[.int .i64 0,.int .i64 0,.string ⟨#[]⟩,.bool false] 39)=w0 at hVB ⊢
  have HV0:=Lib.hid hVB
  clear hVB
  obtain ⟨p0,p1,p2,p3,p4⟩:=pl5 HV0.out.pl
  have hpl:=HV0.out.pl.lt
  have e0:w0.cell? ⟨tb,off + p.a * 4,none⟩=some (.int .i64 (x.k:Nat)):=(HV0.out.below.cell (p:=⟨tb,_,none⟩) htb).trans d0
  have e1:w0.cell? ⟨tb,off + p.a * 4 + 1,none⟩=some (.string ⟨x.t.toArray⟩):=(HV0.out.below.cell (p:=⟨tb,_,none⟩) htb).trans d1
  have e2:w0.cell? ⟨tb,off + p.a * 4 + 2,none⟩=some (.int .i64 (x.line:Nat)):=(HV0.out.below.cell (p:=⟨tb,_,none⟩) htb).trans d2
  have e3:w0.cell? ⟨tb,off + p.a * 4 + 3,none⟩=some (.int .i64 (x.col:Nat)):=(HV0.out.below.cell (p:=⟨tb,_,none⟩) htb).trans d3
  have htb0:tb < w0.heap.size:=by have:=HV0.out.below.size; omega
  go_upto_region 5 with fail
  have hA:Below w0.heap.size w0 (w0.alloc (.cells #[.int .i64 (x.k:Nat),.string ⟨x.t.toArray⟩,.int .i64 (x.line:Nat),.int .i64 (x.col:Nat)] 37)):=(Below.refl _ _).alloc (Nat.le_refl _) _
  have hT1:Ho (w0.alloc (.cells #[.int .i64 (x.k:Nat),.string ⟨x.t.toArray⟩,.int .i64 (x.line:Nat),.int .i64 (x.col:Nat)] 37)) w0.heap.size #[.int .i64 (x.k:Nat),.string ⟨x.t.toArray⟩,.int .i64 (x.line:Nat),.int .i64 (x.col:Nat)] 37:=Ho.new _ _ _ rfl
  have hV1:=HV0.out.step hA
  generalize w0.alloc (.cells #[.int .i64 (x.k:Nat),.string ⟨x.t.toArray⟩,.int .i64 (x.line:Nat),.int .i64 (x.col:Nat)] 37)=w1 at hA hT1 hV1 ⊢
  have HT1:=Lib.hid hT1
  have HV1:=Lib.hid hV1
  clear hA hT1 hV1 e0 e1 e2 e3 p0 p1 p2 p3 p4 hpl
  obtain ⟨x0,x1,_,_⟩:=vd_cells HT1.out
  have hxl:=HT1.out.lt
  obtain ⟨p0,p1,p2,p3,p4⟩:=pl5 HV1.out.pl
  have hpl:=HV1.out.pl.lt
  go_wp2_with fail
  clear x0 x1 hxl
  clear p0 p1 p2 p3 p4 hpl
  refine (HI1.out _ HV1.out.below).mono ?_
  rintro e w2 ⟨rfl,k1⟩
  have HV2:=Lib.hid (HV1.out.step k1)
  clear k1
  obtain ⟨p0,p1,p2,p3,p4⟩:=pl5 HV2.out.pl
  have hpl:=HV2.out.pl.lt
  go_wp2_with fail
  clear p0 p1 p2 p3 p4 hpl
  refine (HI2.out _ HV2.out.below).mono ?_
  rintro e w3 ⟨rfl,k1⟩
  have HV3:=Lib.hid (HV2.out.step k1)
  clear k1
  obtain ⟨p0,p1,p2,p3,p4⟩:=pl5 HV3.out.pl
  have hpl:=HV3.out.pl.lt
  go_upto_region 11 with fail
  have hA4:Below w3.heap.size w3 (w3.alloc (.cells #[.int .i64 (p.a:Nat),.int .i64 (p.er:Nat),.int .i64 (p.line:Nat),.int .i64 (p.col:Nat),.int .i64 p.op] 33)):=(Below.refl _ _).alloc (Nat.le_refl _) _
  have hQ4:Ho (w3.alloc (.cells #[.int .i64 (p.a:Nat),.int .i64 (p.er:Nat),.int .i64 (p.line:Nat),.int .i64 (p.col:Nat),.int .i64 p.op] 33)) w3.heap.size #[.int .i64 (p.a:Nat),.int .i64 (p.er:Nat),.int .i64 (p.line:Nat),.int .i64 (p.col:Nat),.int .i64 p.op] 33:=Ho.new _ _ _ rfl
  have hV4:=HV3.out.step hA4
  have hbq:w.heap.size + 3 < w3.heap.size:=HV3.out.no.lt
  generalize w3.alloc (.cells #[.int .i64 (p.a:Nat),.int .i64 (p.er:Nat),.int .i64 (p.line:Nat),.int .i64 (p.col:Nat),.int .i64 p.op] 33)=w4 at hA4 hQ4 hV4 ⊢
  have HQ4:=Lib.hid hQ4
  have HV4:=Lib.hid hV4
  clear hA4 hQ4 hV4
  clear p0 p1 p2 p3 p4 hpl
  obtain ⟨p0,p1,p2,p3,p4⟩:=pl5 HV4.out.pl
  have hpl:=HV4.out.pl.lt
  have hq4:=HQ4.out.lt
  go_wp2_with fail
  clear p0 p1 p2 p3 p4 hpl
  clear hq4
  refine (HI3.out _ HV4.out.below).mono ?_
  rintro e w5 ⟨rfl,k1⟩
  have HV5:=Lib.hid (HV4.out.step k1)
  have HQ5:=Lib.hid (HQ4.out.below k1)
  clear k1
  have HQz:=HQ5
  have HVz:=HV5
  obtain ⟨u0,u1,u2,u3,u4⟩:=pl5 HQz.out
  have hqz:=HQz.out.lt
  have e0:w5.cell? ⟨tb,off + p.a * 4,none⟩=some (.int .i64 (y.k:Nat)):=(HVz.out.below.cell (p:=⟨tb,_,none⟩) htb).trans g0
  have e1:w5.cell? ⟨tb,off + p.a * 4 + 1,none⟩=some (.string ⟨y.t.toArray⟩):=(HVz.out.below.cell (p:=⟨tb,_,none⟩) htb).trans g1
  have htz:tb < w5.heap.size:=by have:=HVz.out.below.size; omega
  obtain ⟨p0,p1,p2,p3,p4⟩:=pl5 HVz.out.pl
  have hpl:=HVz.out.pl.lt
  obtain ⟨n0,n1,n2,n3,_⟩:=vd_cells HVz.out.no
  obtain ⟨v0',v1',v2',v3',vf0,vf1,vf2,vf3⟩:=vd_cells HVz.out.va
  obtain ⟨q0',q1',q2',q3',q4'⟩:=pl5 HVz.out.qa
  obtain ⟨qf0,qf1,qf2,qf3,qf4⟩:=pl5f HVz.out.qa
  have hno:=HVz.out.no.lt
  have hva:=HVz.out.va.lt
  have hqa:=HVz.out.qa.lt
  go_wp2_with fail
  go_region
  all_goals (go_wp2_with fail)
  all_goals (try simp only [Exit.inBlock,Exit.then])
  (try simp only [Exit.inBlock,Exit.then])
  refine bodyPost_ret (v:=.tuple #[.agg #[.int .i64 0,.int .i64 0,.string ⟨#[]⟩,.bool false],.agg #[.int .i64 (p.a:Nat),.int .i64 (p.er:Nat),.int .i64 (p.line:Nat),.int .i64 (p.col:Nat),.int .i64 p.op],.bool false]) ?_ rfl ⟨by rw [HV.out]; rfl,?_⟩
  ·refine par_result3 rfl _ _ _ (a:=⟨w.heap.size + 1,0,none⟩) (b:=⟨w.heap.size + 2,0,none⟩) (by rfl) ?_ (by rfl) ?_ (by rfl)
   ·go_simp
   ·go_simp
  ·repeat' (first | (with_reducible exact HVz.out.below) | with_reducible refine Below.setCell ?_ (by simp <;> omega) _ | with_reducible refine Below.drew ?_ | with_reducible refine Below.alloc ?_ (by simp <;> omega) _)
 case pos =>
 by_cases k8:(tkAt M p.a).t=[48]
 case pos =>
  have t5:decide (M.length ≤ p.a)=false:=decide_eq_false (by omega)
  have t6:p.a < M.length:=hl2
  have HYV:Hid (valueP M p=if (tkAt M p.a).k=3 then (if (tkAt M p.a).t=[48] then (vInt 0,skipP p,true) else if pe (signed false (tkAt M p.a).t)=0 then (vInt (pn (signed false (tkAt M p.a).t)),skipP p,true) else (v0,stopP M p 5,true)) else (v0,p,false)):=Lib.hid (by rw [HXV.out,if_neg k4,if_neg hTF,if_neg (by rw [hm]; decide)]; unfold numP; rw [tk_at hl2])
  have hYM:=hM.texts _ (List.mem_of_getElem? (tk_at hl2))
  obtain ⟨tb',off',e9,htb',g0,g1,_,_⟩:=rtk_cells h hl2
  cases e9
  obtain ⟨y,hy⟩:∃ y,y=tkAt M p.a:=⟨_,rfl⟩
  rw [← hy] at g0 g1 HYV hYM k3 k8
  clear hy
  have t7:((y.k:Int) != 3)=false:=by rw [k3]; rfl
  have t8:(y.t == [48])=true:=by rw [k8]; rfl
  have HV:Hid (valueP M p=(vInt 0,skipP p,true)):=Lib.hid (by rw [HYV.out,if_pos k3,if_pos k8])
  have HSKq:=Lib.hid (fun w1=>HSK.out p w1 (by omega))
  unfold plV at HSKq
  clear he h hp k4 hl HXV HIS HST HNU HSK HIP hT hF hTF HXX hm hl2 hYM k3 HYV k8
  unfold plV at HI1 HI2 HI3
  unfold plV
  go_enter Tryz.func111,Tryz.ntmps111
  go_upto_region 2 with fail
  have hVB:VB w p ((((w.alloc (.cells #[.int .i64 (p.a:Nat),.int .i64 (p.er:Nat),.int .i64 (p.line:Nat),.int .i64 (p.col:Nat),.int .i64 p.op] 33)).alloc (.cells #[.int .i64 0,.int .i64 0,.string ⟨#[]⟩,.bool false] 39)).alloc (.cells #[.int .i64 0,.int .i64 0,.int .i64 0,.int .i64 0,.int .i64 0] 33)).alloc (.cells #[.int .i64 0,.int .i64 0,.string ⟨#[]⟩,.bool false] 39)):=⟨((((Ho.new _ _ _ rfl).alloc _).alloc _).alloc _),((Ho.new _ _ _ (by simp)).alloc _).alloc _,(Ho.new _ _ _ (by simp)).alloc _,Ho.new _ _ _ (by simp),(((((Below.refl _ _).alloc (Nat.le_refl _) _).alloc (by simp) _).alloc (by simp <;> omega) _).alloc (by simp <;> omega) _)⟩
  generalize (((w.alloc (.cells #[.int .i64 (p.a:Nat),.int .i64 (p.er:Nat),.int .i64 (p.line:Nat),.int .i64 (p.col:Nat),.int .i64 p.op] 33)).alloc (.cells #[.int .i64 0,.int .i64 0,.string ⟨#[]⟩,.bool false] 39)).alloc (.cells #[.int .i64 0,.int .i64 0,.int .i64 0,.int .i64 0,.int .i64 0] 33)).alloc (.cells #[.int .i64 0,.int .i64 0,.string ⟨#[]⟩,.bool false] 39)=w0 at hVB ⊢
  have HV0:=Lib.hid hVB
  clear hVB
  obtain ⟨p0,p1,p2,p3,p4⟩:=pl5 HV0.out.pl
  have hpl:=HV0.out.pl.lt
  have e0:w0.cell? ⟨tb,off + p.a * 4,none⟩=some (.int .i64 (x.k:Nat)):=(HV0.out.below.cell (p:=⟨tb,_,none⟩) htb).trans d0
  have e1:w0.cell? ⟨tb,off + p.a * 4 + 1,none⟩=some (.string ⟨x.t.toArray⟩):=(HV0.out.below.cell (p:=⟨tb,_,none⟩) htb).trans d1
  have e2:w0.cell? ⟨tb,off + p.a * 4 + 2,none⟩=some (.int .i64 (x.line:Nat)):=(HV0.out.below.cell (p:=⟨tb,_,none⟩) htb).trans d2
  have e3:w0.cell? ⟨tb,off + p.a * 4 + 3,none⟩=some (.int .i64 (x.col:Nat)):=(HV0.out.below.cell (p:=⟨tb,_,none⟩) htb).trans d3
  have htb0:tb < w0.heap.size:=by have:=HV0.out.below.size; omega
  go_upto_region 5 with fail
  have hA:Below w0.heap.size w0 (w0.alloc (.cells #[.int .i64 (x.k:Nat),.string ⟨x.t.toArray⟩,.int .i64 (x.line:Nat),.int .i64 (x.col:Nat)] 37)):=(Below.refl _ _).alloc (Nat.le_refl _) _
  have hT1:Ho (w0.alloc (.cells #[.int .i64 (x.k:Nat),.string ⟨x.t.toArray⟩,.int .i64 (x.line:Nat),.int .i64 (x.col:Nat)] 37)) w0.heap.size #[.int .i64 (x.k:Nat),.string ⟨x.t.toArray⟩,.int .i64 (x.line:Nat),.int .i64 (x.col:Nat)] 37:=Ho.new _ _ _ rfl
  have hV1:=HV0.out.step hA
  generalize w0.alloc (.cells #[.int .i64 (x.k:Nat),.string ⟨x.t.toArray⟩,.int .i64 (x.line:Nat),.int .i64 (x.col:Nat)] 37)=w1 at hA hT1 hV1 ⊢
  have HT1:=Lib.hid hT1
  have HV1:=Lib.hid hV1
  clear hA hT1 hV1 e0 e1 e2 e3 p0 p1 p2 p3 p4 hpl
  obtain ⟨x0,x1,_,_⟩:=vd_cells HT1.out
  have hxl:=HT1.out.lt
  obtain ⟨p0,p1,p2,p3,p4⟩:=pl5 HV1.out.pl
  have hpl:=HV1.out.pl.lt
  go_wp2_with fail
  clear x0 x1 hxl
  clear p0 p1 p2 p3 p4 hpl
  refine (HI1.out _ HV1.out.below).mono ?_
  rintro e w2 ⟨rfl,k1⟩
  have HV2:=Lib.hid (HV1.out.step k1)
  clear k1
  obtain ⟨p0,p1,p2,p3,p4⟩:=pl5 HV2.out.pl
  have hpl:=HV2.out.pl.lt
  go_wp2_with fail
  clear p0 p1 p2 p3 p4 hpl
  refine (HI2.out _ HV2.out.below).mono ?_
  rintro e w3 ⟨rfl,k1⟩
  have HV3:=Lib.hid (HV2.out.step k1)
  clear k1
  obtain ⟨p0,p1,p2,p3,p4⟩:=pl5 HV3.out.pl
  have hpl:=HV3.out.pl.lt
  go_upto_region 11 with fail
  have hA4:Below w3.heap.size w3 (w3.alloc (.cells #[.int .i64 (p.a:Nat),.int .i64 (p.er:Nat),.int .i64 (p.line:Nat),.int .i64 (p.col:Nat),.int .i64 p.op] 33)):=(Below.refl _ _).alloc (Nat.le_refl _) _
  have hQ4:Ho (w3.alloc (.cells #[.int .i64 (p.a:Nat),.int .i64 (p.er:Nat),.int .i64 (p.line:Nat),.int .i64 (p.col:Nat),.int .i64 p.op] 33)) w3.heap.size #[.int .i64 (p.a:Nat),.int .i64 (p.er:Nat),.int .i64 (p.line:Nat),.int .i64 (p.col:Nat),.int .i64 p.op] 33:=Ho.new _ _ _ rfl
  have hV4:=HV3.out.step hA4
  have hbq:w.heap.size + 3 < w3.heap.size:=HV3.out.no.lt
  generalize w3.alloc (.cells #[.int .i64 (p.a:Nat),.int .i64 (p.er:Nat),.int .i64 (p.line:Nat),.int .i64 (p.col:Nat),.int .i64 p.op] 33)=w4 at hA4 hQ4 hV4 ⊢
  have HQ4:=Lib.hid hQ4
  have HV4:=Lib.hid hV4
  clear hA4 hQ4 hV4
  clear p0 p1 p2 p3 p4 hpl
  obtain ⟨p0,p1,p2,p3,p4⟩:=pl5 HV4.out.pl
  have hpl:=HV4.out.pl.lt
  have hq4:=HQ4.out.lt
  go_wp2_with fail
  clear p0 p1 p2 p3 p4 hpl
  clear hq4
  refine (HI3.out _ HV4.out.below).mono ?_
  rintro e w5 ⟨rfl,k1⟩
  have HV5:=Lib.hid (HV4.out.step k1)
  have HQ5:=Lib.hid (HQ4.out.below k1)
  clear k1
  have HQz:=HQ5
  have HVz:=HV5
  obtain ⟨u0,u1,u2,u3,u4⟩:=pl5 HQz.out
  have hqz:=HQz.out.lt
  have e0:w5.cell? ⟨tb,off + p.a * 4,none⟩=some (.int .i64 (y.k:Nat)):=(HVz.out.below.cell (p:=⟨tb,_,none⟩) htb).trans g0
  have e1:w5.cell? ⟨tb,off + p.a * 4 + 1,none⟩=some (.string ⟨y.t.toArray⟩):=(HVz.out.below.cell (p:=⟨tb,_,none⟩) htb).trans g1
  have htz:tb < w5.heap.size:=by have:=HVz.out.below.size; omega
  go_wp2_with fail
  refine (HSKq.out _).mono ?_
  rintro e wy ⟨rfl,k1⟩
  have HVy:=Lib.hid (HVz.out.step k1)
  clear k1 e0 e1
  obtain ⟨v0',v1',v2',v3',vf0,vf1,vf2,vf3⟩:=vd_cells HVy.out.va
  obtain ⟨q0',q1',q2',q3',q4'⟩:=pl5 HVy.out.qa
  obtain ⟨qf0,qf1,qf2,qf3,qf4⟩:=pl5f HVy.out.qa
  have hva:=HVy.out.va.lt
  have hqa:=HVy.out.qa.lt
  go_wp2_with fail
  (try simp only [Exit.inBlock,Exit.then])
  refine bodyPost_ret (v:=.tuple #[.agg #[.int .i64 1,.int .i64 0,.string ⟨#[]⟩,.bool false],.agg #[.int .i64 ((skipP p).a:Nat),.int .i64 ((skipP p).er:Nat),.int .i64 ((skipP p).line:Nat),.int .i64 ((skipP p).col:Nat),.int .i64 (skipP p).op],.bool true]) ?_ rfl ⟨by rw [HV.out]; rfl,?_⟩
  ·refine par_result3 rfl _ _ _ (a:=⟨w.heap.size + 1,0,none⟩) (b:=⟨w.heap.size + 2,0,none⟩) (by rfl) ?_ (by rfl) ?_ (by rfl)
   ·go_simp
   ·go_simp
  ·repeat' (first | (with_reducible exact HVy.out.below) | with_reducible refine Below.setCell ?_ (by simp <;> omega) _ | with_reducible refine Below.drew ?_ | with_reducible refine Below.alloc ?_ (by simp <;> omega) _)
 case neg =>
 by_cases k9:pe (signed false (tkAt M p.a).t)=0
 case pos =>
  have t5:decide (M.length ≤ p.a)=false:=decide_eq_false (by omega)
  have t6:p.a < M.length:=hl2
  have HYV:Hid (valueP M p=if (tkAt M p.a).k=3 then (if (tkAt M p.a).t=[48] then (vInt 0,skipP p,true) else if pe (signed false (tkAt M p.a).t)=0 then (vInt (pn (signed false (tkAt M p.a).t)),skipP p,true) else (v0,stopP M p 5,true)) else (v0,p,false)):=Lib.hid (by rw [HXV.out,if_neg k4,if_neg hTF,if_neg (by rw [hm]; decide)]; unfold numP; rw [tk_at hl2])
  have hYM:=hM.texts _ (List.mem_of_getElem? (tk_at hl2))
  obtain ⟨tb',off',e9,htb',g0,g1,_,_⟩:=rtk_cells h hl2
  cases e9
  obtain ⟨y,hy⟩:∃ y,y=tkAt M p.a:=⟨_,rfl⟩
  rw [← hy] at g0 g1 HYV hYM k3 k8 k9
  clear hy
  have t7:((y.k:Int) != 3)=false:=by rw [k3]; rfl
  have t8:(y.t == [48])=false:=by rw [beq_eq_false_iff_ne]; exact k8
  obtain ⟨nv,hnv⟩:∃ nv,nv=pn (signed false y.t):=⟨_,rfl⟩
  obtain ⟨ne,hne⟩:∃ ne,ne=pe (signed false y.t):=⟨_,rfl⟩
  obtain ⟨U,hU⟩:∃ U,U=(⟨#[]⟩ ++ ⟨y.t.toArray⟩:ByteArray):=⟨_,rfl⟩
  have hyz:(⟨y.t.toArray⟩:ByteArray).size=y.t.length:=by show y.t.toArray.size=_; simp
  have hc:∀ w,(Op.stringOp .add ⟨#[]⟩ ⟨y.t.toArray⟩).run Tryz.prog w=.ok (.string U) w:=fun w=>by rw [hU]; exact run_string_add_sum w _ _ (by rw [hyz]; show 0 + _ ≤ _; omega)
  have hUl:U.data.toList=signed false y.t:=by rw [hU]; simp [signed,ByteArray.data_append]
  have HNX:Hid (∀ (w1:World),Calls Tryz.prog 128 #[.string U] w1 fun e w'=>e=.returned (.tuple #[.int .i64 nv,.int .i64 ne]) ∧ w1=w'):=Lib.hid (fun w1=>by
   have hz:U.size ≤ 9223372036854775807:=by
    have h1:U.size=U.data.toList.length:=by rw [Array.length_toList]; rfl
    rw [h1,hUl]
    unfold signed
    simp
    omega
   have:=HNU.out U w1 hz
   rw [hUl,← hnv,← hne] at this
   exact this)
  clear hU hyz hUl
  rw [← hnv,← hne] at HYV
  rw [← hne] at k9
  have t9:(ne != 0)=false:=by rw [k9]; rfl
  have HV:Hid (valueP M p=(vInt nv,skipP p,true)):=Lib.hid (by rw [HYV.out,if_pos k3,if_neg k8,if_pos k9])
  have HSKq:=Lib.hid (fun w1=>HSK.out p w1 (by omega))
  unfold plV at HSKq
  clear hne hnv
  clear he h hp k4 hl HXV HIS HST HNU HSK HIP hT hF hTF HXX hm hl2 hYM k3 HYV k8 k9
  unfold plV at HI1 HI2 HI3
  unfold plV
  go_enter Tryz.func111,Tryz.ntmps111
  go_upto_region 2 with fail
  have hVB:VB w p ((((w.alloc (.cells #[.int .i64 (p.a:Nat),.int .i64 (p.er:Nat),.int .i64 (p.line:Nat),.int .i64 (p.col:Nat),.int .i64 p.op] 33)).alloc (.cells #[.int .i64 0,.int .i64 0,.string ⟨#[]⟩,.bool false] 39)).alloc (.cells #[.int .i64 0,.int .i64 0,.int .i64 0,.int .i64 0,.int .i64 0] 33)).alloc (.cells #[.int .i64 0,.int .i64 0,.string ⟨#[]⟩,.bool false] 39)):=⟨((((Ho.new _ _ _ rfl).alloc _).alloc _).alloc _),((Ho.new _ _ _ (by simp)).alloc _).alloc _,(Ho.new _ _ _ (by simp)).alloc _,Ho.new _ _ _ (by simp),(((((Below.refl _ _).alloc (Nat.le_refl _) _).alloc (by simp) _).alloc (by simp <;> omega) _).alloc (by simp <;> omega) _)⟩
  generalize (((w.alloc (.cells #[.int .i64 (p.a:Nat),.int .i64 (p.er:Nat),.int .i64 (p.line:Nat),.int .i64 (p.col:Nat),.int .i64 p.op] 33)).alloc (.cells #[.int .i64 0,.int .i64 0,.string ⟨#[]⟩,.bool false] 39)).alloc (.cells #[.int .i64 0,.int .i64 0,.int .i64 0,.int .i64 0,.int .i64 0] 33)).alloc (.cells #[.int .i64 0,.int .i64 0,.string ⟨#[]⟩,.bool false] 39)=w0 at hVB ⊢
  have HV0:=Lib.hid hVB
  clear hVB
  obtain ⟨p0,p1,p2,p3,p4⟩:=pl5 HV0.out.pl
  have hpl:=HV0.out.pl.lt
  have e0:w0.cell? ⟨tb,off + p.a * 4,none⟩=some (.int .i64 (x.k:Nat)):=(HV0.out.below.cell (p:=⟨tb,_,none⟩) htb).trans d0
  have e1:w0.cell? ⟨tb,off + p.a * 4 + 1,none⟩=some (.string ⟨x.t.toArray⟩):=(HV0.out.below.cell (p:=⟨tb,_,none⟩) htb).trans d1
  have e2:w0.cell? ⟨tb,off + p.a * 4 + 2,none⟩=some (.int .i64 (x.line:Nat)):=(HV0.out.below.cell (p:=⟨tb,_,none⟩) htb).trans d2
  have e3:w0.cell? ⟨tb,off + p.a * 4 + 3,none⟩=some (.int .i64 (x.col:Nat)):=(HV0.out.below.cell (p:=⟨tb,_,none⟩) htb).trans d3
  have htb0:tb < w0.heap.size:=by have:=HV0.out.below.size; omega
  go_upto_region 5 with fail
  have hA:Below w0.heap.size w0 (w0.alloc (.cells #[.int .i64 (x.k:Nat),.string ⟨x.t.toArray⟩,.int .i64 (x.line:Nat),.int .i64 (x.col:Nat)] 37)):=(Below.refl _ _).alloc (Nat.le_refl _) _
  have hT1:Ho (w0.alloc (.cells #[.int .i64 (x.k:Nat),.string ⟨x.t.toArray⟩,.int .i64 (x.line:Nat),.int .i64 (x.col:Nat)] 37)) w0.heap.size #[.int .i64 (x.k:Nat),.string ⟨x.t.toArray⟩,.int .i64 (x.line:Nat),.int .i64 (x.col:Nat)] 37:=Ho.new _ _ _ rfl
  have hV1:=HV0.out.step hA
  generalize w0.alloc (.cells #[.int .i64 (x.k:Nat),.string ⟨x.t.toArray⟩,.int .i64 (x.line:Nat),.int .i64 (x.col:Nat)] 37)=w1 at hA hT1 hV1 ⊢
  have HT1:=Lib.hid hT1
  have HV1:=Lib.hid hV1
  clear hA hT1 hV1 e0 e1 e2 e3 p0 p1 p2 p3 p4 hpl
  obtain ⟨x0,x1,_,_⟩:=vd_cells HT1.out
  have hxl:=HT1.out.lt
  obtain ⟨p0,p1,p2,p3,p4⟩:=pl5 HV1.out.pl
  have hpl:=HV1.out.pl.lt
  go_wp2_with fail
  clear x0 x1 hxl
  clear p0 p1 p2 p3 p4 hpl
  refine (HI1.out _ HV1.out.below).mono ?_
  rintro e w2 ⟨rfl,k1⟩
  have HV2:=Lib.hid (HV1.out.step k1)
  clear k1
  obtain ⟨p0,p1,p2,p3,p4⟩:=pl5 HV2.out.pl
  have hpl:=HV2.out.pl.lt
  go_wp2_with fail
  clear p0 p1 p2 p3 p4 hpl
  refine (HI2.out _ HV2.out.below).mono ?_
  rintro e w3 ⟨rfl,k1⟩
  have HV3:=Lib.hid (HV2.out.step k1)
  clear k1
  obtain ⟨p0,p1,p2,p3,p4⟩:=pl5 HV3.out.pl
  have hpl:=HV3.out.pl.lt
  go_upto_region 11 with fail
  have hA4:Below w3.heap.size w3 (w3.alloc (.cells #[.int .i64 (p.a:Nat),.int .i64 (p.er:Nat),.int .i64 (p.line:Nat),.int .i64 (p.col:Nat),.int .i64 p.op] 33)):=(Below.refl _ _).alloc (Nat.le_refl _) _
  have hQ4:Ho (w3.alloc (.cells #[.int .i64 (p.a:Nat),.int .i64 (p.er:Nat),.int .i64 (p.line:Nat),.int .i64 (p.col:Nat),.int .i64 p.op] 33)) w3.heap.size #[.int .i64 (p.a:Nat),.int .i64 (p.er:Nat),.int .i64 (p.line:Nat),.int .i64 (p.col:Nat),.int .i64 p.op] 33:=Ho.new _ _ _ rfl
  have hV4:=HV3.out.step hA4
  have hbq:w.heap.size + 3 < w3.heap.size:=HV3.out.no.lt
  generalize w3.alloc (.cells #[.int .i64 (p.a:Nat),.int .i64 (p.er:Nat),.int .i64 (p.line:Nat),.int .i64 (p.col:Nat),.int .i64 p.op] 33)=w4 at hA4 hQ4 hV4 ⊢
  have HQ4:=Lib.hid hQ4
  have HV4:=Lib.hid hV4
  clear hA4 hQ4 hV4
  clear p0 p1 p2 p3 p4 hpl
  obtain ⟨p0,p1,p2,p3,p4⟩:=pl5 HV4.out.pl
  have hpl:=HV4.out.pl.lt
  have hq4:=HQ4.out.lt
  go_wp2_with fail
  clear p0 p1 p2 p3 p4 hpl
  clear hq4
  refine (HI3.out _ HV4.out.below).mono ?_
  rintro e w5 ⟨rfl,k1⟩
  have HV5:=Lib.hid (HV4.out.step k1)
  have HQ5:=Lib.hid (HQ4.out.below k1)
  clear k1
  have HQz:=HQ5
  have HVz:=HV5
  obtain ⟨u0,u1,u2,u3,u4⟩:=pl5 HQz.out
  have hqz:=HQz.out.lt
  have e0:w5.cell? ⟨tb,off + p.a * 4,none⟩=some (.int .i64 (y.k:Nat)):=(HVz.out.below.cell (p:=⟨tb,_,none⟩) htb).trans g0
  have e1:w5.cell? ⟨tb,off + p.a * 4 + 1,none⟩=some (.string ⟨y.t.toArray⟩):=(HVz.out.below.cell (p:=⟨tb,_,none⟩) htb).trans g1
  have htz:tb < w5.heap.size:=by have:=HVz.out.below.size; omega
  go_wp2_with fail
  refine (HNX.out _).mono ?_
  rintro e wn ⟨rfl,rfl⟩
  go_wp2_with fail
  refine (HSKq.out _).mono ?_
  rintro e wy ⟨rfl,k1⟩
  have HVy:=Lib.hid (HVz.out.step k1)
  clear k1 e0 e1
  obtain ⟨v0',v1',v2',v3',vf0,vf1,vf2,vf3⟩:=vd_cells HVy.out.va
  obtain ⟨q0',q1',q2',q3',q4'⟩:=pl5 HVy.out.qa
  obtain ⟨qf0,qf1,qf2,qf3,qf4⟩:=pl5f HVy.out.qa
  have hva:=HVy.out.va.lt
  have hqa:=HVy.out.qa.lt
  go_wp2_with fail
  (try simp only [Exit.inBlock,Exit.then])
  refine bodyPost_ret (v:=.tuple #[.agg #[.int .i64 1,.int .i64 nv,.string ⟨#[]⟩,.bool false],.agg #[.int .i64 ((skipP p).a:Nat),.int .i64 ((skipP p).er:Nat),.int .i64 ((skipP p).line:Nat),.int .i64 ((skipP p).col:Nat),.int .i64 (skipP p).op],.bool true]) ?_ rfl ⟨by rw [HV.out]; rfl,?_⟩
  ·refine par_result3 rfl _ _ _ (a:=⟨w.heap.size + 1,0,none⟩) (b:=⟨w.heap.size + 2,0,none⟩) (by rfl) ?_ (by rfl) ?_ (by rfl)
   ·go_simp
   ·go_simp
  ·repeat' (first | (with_reducible exact HVy.out.below) | with_reducible refine Below.setCell ?_ (by simp <;> omega) _ | with_reducible refine Below.drew ?_ | with_reducible refine Below.alloc ?_ (by simp <;> omega) _)
 case neg =>
 have t5:decide (M.length ≤ p.a)=false:=decide_eq_false (by omega)
 have t6:p.a < M.length:=hl2
 have HYV:Hid (valueP M p=if (tkAt M p.a).k=3 then (if (tkAt M p.a).t=[48] then (vInt 0,skipP p,true) else if pe (signed false (tkAt M p.a).t)=0 then (vInt (pn (signed false (tkAt M p.a).t)),skipP p,true) else (v0,stopP M p 5,true)) else (v0,p,false)):=Lib.hid (by rw [HXV.out,if_neg k4,if_neg hTF,if_neg (by rw [hm]; decide)]; unfold numP; rw [tk_at hl2])
 have hYM:=hM.texts _ (List.mem_of_getElem? (tk_at hl2))
 obtain ⟨tb',off',e9,htb',g0,g1,_,_⟩:=rtk_cells h hl2
 cases e9
 obtain ⟨y,hy⟩:∃ y,y=tkAt M p.a:=⟨_,rfl⟩
 rw [← hy] at g0 g1 HYV hYM k3 k8 k9
 clear hy
 have t7:((y.k:Int) != 3)=false:=by rw [k3]; rfl
 have t8:(y.t == [48])=false:=by rw [beq_eq_false_iff_ne]; exact k8
 obtain ⟨nv,hnv⟩:∃ nv,nv=pn (signed false y.t):=⟨_,rfl⟩
 obtain ⟨ne,hne⟩:∃ ne,ne=pe (signed false y.t):=⟨_,rfl⟩
 obtain ⟨U,hU⟩:∃ U,U=(⟨#[]⟩ ++ ⟨y.t.toArray⟩:ByteArray):=⟨_,rfl⟩
 have hyz:(⟨y.t.toArray⟩:ByteArray).size=y.t.length:=by show y.t.toArray.size=_; simp
 have hc:∀ w,(Op.stringOp .add ⟨#[]⟩ ⟨y.t.toArray⟩).run Tryz.prog w=.ok (.string U) w:=fun w=>by rw [hU]; exact run_string_add_sum w _ _ (by rw [hyz]; show 0 + _ ≤ _; omega)
 have hUl:U.data.toList=signed false y.t:=by rw [hU]; simp [signed,ByteArray.data_append]
 have HNX:Hid (∀ (w1:World),Calls Tryz.prog 128 #[.string U] w1 fun e w'=>e=.returned (.tuple #[.int .i64 nv,.int .i64 ne]) ∧ w1=w'):=Lib.hid (fun w1=>by
  have hz:U.size ≤ 9223372036854775807:=by
   have h1:U.size=U.data.toList.length:=by rw [Array.length_toList]; rfl
   rw [h1,hUl]
   unfold signed
   simp
   omega
  have:=HNU.out U w1 hz
  rw [hUl,← hnv,← hne] at this
  exact this)
 clear hU hyz hUl
 rw [← hnv,← hne] at HYV
 rw [← hne] at k9
 have t9:(ne != 0)=true:=by rw [bne_iff_ne]; exact k9
 obtain ⟨z,hz⟩:∃ z,z=stopP M p 5:=⟨_,rfl⟩
 have HV:Hid (valueP M p=(v0,z,true)):=Lib.hid (by rw [HYV.out,if_pos k3,if_neg k8,if_neg k9,hz])
 have HSTq:Hid (∀ w1,Below w.heap.size w w1 → Calls Tryz.prog 68 #[.slice (some ⟨tb,off,none⟩) M.length tc,plV p,.int .i64 5] w1 fun e w'=>e=.returned (plV z) ∧ Below w1.heap.size w1 w'):=Lib.hid (fun w1 hb=>by
  have:=HST.out w1 hb p (by omega)
  rw [← hz] at this
  exact this)
 unfold plV at HSTq
 clear hne hnv hz
 clear he h hp k4 hl HXV HIS HST HNU HSK HIP hT hF hTF HXX hm hl2 hYM k3 HYV k8 k9
 unfold plV at HI1 HI2 HI3
 unfold plV
 go_enter Tryz.func111,Tryz.ntmps111
 go_upto_region 2 with fail
 have hVB:VB w p ((((w.alloc (.cells #[.int .i64 (p.a:Nat),.int .i64 (p.er:Nat),.int .i64 (p.line:Nat),.int .i64 (p.col:Nat),.int .i64 p.op] 33)).alloc (.cells #[.int .i64 0,.int .i64 0,.string ⟨#[]⟩,.bool false] 39)).alloc (.cells #[.int .i64 0,.int .i64 0,.int .i64 0,.int .i64 0,.int .i64 0] 33)).alloc (.cells #[.int .i64 0,.int .i64 0,.string ⟨#[]⟩,.bool false] 39)):=⟨((((Ho.new _ _ _ rfl).alloc _).alloc _).alloc _),((Ho.new _ _ _ (by simp)).alloc _).alloc _,(Ho.new _ _ _ (by simp)).alloc _,Ho.new _ _ _ (by simp),(((((Below.refl _ _).alloc (Nat.le_refl _) _).alloc (by simp) _).alloc (by simp <;> omega) _).alloc (by simp <;> omega) _)⟩
 generalize (((w.alloc (.cells #[.int .i64 (p.a:Nat),.int .i64 (p.er:Nat),.int .i64 (p.line:Nat),.int .i64 (p.col:Nat),.int .i64 p.op] 33)).alloc (.cells #[.int .i64 0,.int .i64 0,.string ⟨#[]⟩,.bool false] 39)).alloc (.cells #[.int .i64 0,.int .i64 0,.int .i64 0,.int .i64 0,.int .i64 0] 33)).alloc (.cells #[.int .i64 0,.int .i64 0,.string ⟨#[]⟩,.bool false] 39)=w0 at hVB ⊢
 have HV0:=Lib.hid hVB
 clear hVB
 obtain ⟨p0,p1,p2,p3,p4⟩:=pl5 HV0.out.pl
 have hpl:=HV0.out.pl.lt
 have e0:w0.cell? ⟨tb,off + p.a * 4,none⟩=some (.int .i64 (x.k:Nat)):=(HV0.out.below.cell (p:=⟨tb,_,none⟩) htb).trans d0
 have e1:w0.cell? ⟨tb,off + p.a * 4 + 1,none⟩=some (.string ⟨x.t.toArray⟩):=(HV0.out.below.cell (p:=⟨tb,_,none⟩) htb).trans d1
 have e2:w0.cell? ⟨tb,off + p.a * 4 + 2,none⟩=some (.int .i64 (x.line:Nat)):=(HV0.out.below.cell (p:=⟨tb,_,none⟩) htb).trans d2
 have e3:w0.cell? ⟨tb,off + p.a * 4 + 3,none⟩=some (.int .i64 (x.col:Nat)):=(HV0.out.below.cell (p:=⟨tb,_,none⟩) htb).trans d3
 have htb0:tb < w0.heap.size:=by have:=HV0.out.below.size; omega
 go_upto_region 5 with fail
 have hA:Below w0.heap.size w0 (w0.alloc (.cells #[.int .i64 (x.k:Nat),.string ⟨x.t.toArray⟩,.int .i64 (x.line:Nat),.int .i64 (x.col:Nat)] 37)):=(Below.refl _ _).alloc (Nat.le_refl _) _
 have hT1:Ho (w0.alloc (.cells #[.int .i64 (x.k:Nat),.string ⟨x.t.toArray⟩,.int .i64 (x.line:Nat),.int .i64 (x.col:Nat)] 37)) w0.heap.size #[.int .i64 (x.k:Nat),.string ⟨x.t.toArray⟩,.int .i64 (x.line:Nat),.int .i64 (x.col:Nat)] 37:=Ho.new _ _ _ rfl
 have hV1:=HV0.out.step hA
 generalize w0.alloc (.cells #[.int .i64 (x.k:Nat),.string ⟨x.t.toArray⟩,.int .i64 (x.line:Nat),.int .i64 (x.col:Nat)] 37)=w1 at hA hT1 hV1 ⊢
 have HT1:=Lib.hid hT1
 have HV1:=Lib.hid hV1
 clear hA hT1 hV1 e0 e1 e2 e3 p0 p1 p2 p3 p4 hpl
 obtain ⟨x0,x1,_,_⟩:=vd_cells HT1.out
 have hxl:=HT1.out.lt
 obtain ⟨p0,p1,p2,p3,p4⟩:=pl5 HV1.out.pl
 have hpl:=HV1.out.pl.lt
 go_wp2_with fail
 clear x0 x1 hxl
 clear p0 p1 p2 p3 p4 hpl
 refine (HI1.out _ HV1.out.below).mono ?_
 rintro e w2 ⟨rfl,k1⟩
 have HV2:=Lib.hid (HV1.out.step k1)
 clear k1
 obtain ⟨p0,p1,p2,p3,p4⟩:=pl5 HV2.out.pl
 have hpl:=HV2.out.pl.lt
 go_wp2_with fail
 clear p0 p1 p2 p3 p4 hpl
 refine (HI2.out _ HV2.out.below).mono ?_
 rintro e w3 ⟨rfl,k1⟩
 have HV3:=Lib.hid (HV2.out.step k1)
 clear k1
 obtain ⟨p0,p1,p2,p3,p4⟩:=pl5 HV3.out.pl
 have hpl:=HV3.out.pl.lt
 go_upto_region 11 with fail
 have hA4:Below w3.heap.size w3 (w3.alloc (.cells #[.int .i64 (p.a:Nat),.int .i64 (p.er:Nat),.int .i64 (p.line:Nat),.int .i64 (p.col:Nat),.int .i64 p.op] 33)):=(Below.refl _ _).alloc (Nat.le_refl _) _
 have hQ4:Ho (w3.alloc (.cells #[.int .i64 (p.a:Nat),.int .i64 (p.er:Nat),.int .i64 (p.line:Nat),.int .i64 (p.col:Nat),.int .i64 p.op] 33)) w3.heap.size #[.int .i64 (p.a:Nat),.int .i64 (p.er:Nat),.int .i64 (p.line:Nat),.int .i64 (p.col:Nat),.int .i64 p.op] 33:=Ho.new _ _ _ rfl
 have hV4:=HV3.out.step hA4
 have hbq:w.heap.size + 3 < w3.heap.size:=HV3.out.no.lt
 generalize w3.alloc (.cells #[.int .i64 (p.a:Nat),.int .i64 (p.er:Nat),.int .i64 (p.line:Nat),.int .i64 (p.col:Nat),.int .i64 p.op] 33)=w4 at hA4 hQ4 hV4 ⊢
 have HQ4:=Lib.hid hQ4
 have HV4:=Lib.hid hV4
 clear hA4 hQ4 hV4
 clear p0 p1 p2 p3 p4 hpl
 obtain ⟨p0,p1,p2,p3,p4⟩:=pl5 HV4.out.pl
 have hpl:=HV4.out.pl.lt
 have hq4:=HQ4.out.lt
 go_wp2_with fail
 clear p0 p1 p2 p3 p4 hpl
 clear hq4
 refine (HI3.out _ HV4.out.below).mono ?_
 rintro e w5 ⟨rfl,k1⟩
 have HV5:=Lib.hid (HV4.out.step k1)
 have HQ5:=Lib.hid (HQ4.out.below k1)
 clear k1
 have HQz:=HQ5
 have HVz:=HV5
 obtain ⟨u0,u1,u2,u3,u4⟩:=pl5 HQz.out
 have hqz:=HQz.out.lt
 have e0:w5.cell? ⟨tb,off + p.a * 4,none⟩=some (.int .i64 (y.k:Nat)):=(HVz.out.below.cell (p:=⟨tb,_,none⟩) htb).trans g0
 have e1:w5.cell? ⟨tb,off + p.a * 4 + 1,none⟩=some (.string ⟨y.t.toArray⟩):=(HVz.out.below.cell (p:=⟨tb,_,none⟩) htb).trans g1
 have htz:tb < w5.heap.size:=by have:=HVz.out.below.size; omega
 go_wp2_with fail
 refine (HNX.out _).mono ?_
 rintro e wn ⟨rfl,rfl⟩
 have HS5:Hid (∀ U,VB w p U → Ho U w3.heap.size #[.int .i64 (p.a:Nat),.int .i64 (p.er:Nat),.int .i64 (p.line:Nat),.int .i64 (p.col:Nat),.int .i64 p.op] 33 → (U.cell? ⟨w.heap.size + 3,0,none⟩=some (.int .i64 0) ∧ U.cell? ⟨w.heap.size + 3,1,none⟩=some (.int .i64 0) ∧ U.cell? ⟨w.heap.size + 3,2,none⟩=some (.string ⟨#[]⟩) ∧ U.cell? ⟨w.heap.size + 3,3,none⟩=some (.bool false) ∧ U.cell? ⟨w3.heap.size,0,none⟩=some (.int .i64 (p.a:Nat)) ∧ U.cell? ⟨w3.heap.size,1,none⟩=some (.int .i64 (p.er:Nat)) ∧ U.cell? ⟨w3.heap.size,2,none⟩=some (.int .i64 (p.line:Nat)) ∧ U.cell? ⟨w3.heap.size,3,none⟩=some (.int .i64 (p.col:Nat)) ∧ U.cell? ⟨w3.heap.size,4,none⟩=some (.int .i64 p.op))):=Lib.hid (fun U h1 h2=>⟨(vd_cells h1.no).1,(vd_cells h1.no).2.1,(vd_cells h1.no).2.2.1,(vd_cells h1.no).2.2.2.1,(pl5 h2).1,(pl5 h2).2.1,(pl5 h2).2.2.1,(pl5 h2).2.2.2.1,(pl5 h2).2.2.2.2⟩)
 go_wp2_with fail
 clear u0 u1 u2 u3 u4 hqz e0 e1
 refine wp_region_B (S:=(fun U=>U.cell? ⟨w.heap.size + 3,0,none⟩=some (.int .i64 0) ∧ U.cell? ⟨w.heap.size + 3,1,none⟩=some (.int .i64 0) ∧ U.cell? ⟨w.heap.size + 3,2,none⟩=some (.string ⟨#[]⟩) ∧ U.cell? ⟨w.heap.size + 3,3,none⟩=some (.bool false) ∧ U.cell? ⟨w3.heap.size,0,none⟩=some (.int .i64 (p.a:Nat)) ∧ U.cell? ⟨w3.heap.size,1,none⟩=some (.int .i64 (p.er:Nat)) ∧ U.cell? ⟨w3.heap.size,2,none⟩=some (.int .i64 (p.line:Nat)) ∧ U.cell? ⟨w3.heap.size,3,none⟩=some (.int .i64 (p.col:Nat)) ∧ U.cell? ⟨w3.heap.size,4,none⟩=some (.int .i64 p.op))) [4,5,6] (by kernel_rfl) (HS5.out w5.drew ⟨HVz.out.pl,HVz.out.va,HVz.out.qa,HVz.out.no,HVz.out.below.drew⟩ HQz.out) (fun hH0=>?_)
 refine wpB_take (i:=0) (v:=.agg #[.int .i64 0,.int .i64 0,.string ⟨#[]⟩,.bool false]) [4,5,6] rfl (by kernel_rfl) (by kernel_rfl) (by kernel_rfl) (by kernel_rfl) (fun _ _ _ h=>h) (Or.inl ⟨by kernel_rfl,fun wS hSw=>by (try dsimp only at hSw); go_simp⟩) hH0 ?_
 refine wpB_take (i:=1) (v:=.slice (some ⟨tb,off,none⟩) M.length tc) [3,4,5,6] rfl (by kernel_rfl) (by kernel_rfl) (by kernel_rfl) (by kernel_rfl) (fun _ _ _ h=>h) (Or.inl ⟨by kernel_rfl,fun wS hSw=>by (try dsimp only at hSw); go_simp⟩) hH0 ?_
 refine wpB_take (i:=2) (v:=.agg #[.int .i64 (p.a:Nat),.int .i64 (p.er:Nat),.int .i64 (p.line:Nat),.int .i64 (p.col:Nat),.int .i64 p.op]) [3,4,5,6] rfl (by kernel_rfl) (by kernel_rfl) (by kernel_rfl) (by kernel_rfl) (fun _ _ _ h=>h) (Or.inl ⟨by kernel_rfl,fun wS hSw=>by (try dsimp only at hSw); go_simp⟩) hH0 ?_
 refine wpB_step (i:=3) rfl (by kernel_rfl) (fun K hK=>?_)
 rw [if_pos (by kernel_rfl)]
 go_simp
 refine (HSTq.out _ HVz.out.below.drew).mono ?_
 rintro e wy ⟨rfl,k1⟩
 have k2:Below w5.heap.size w5 wy:=((Below.refl w5.heap.size w5).drew).trans k1
 have HVy:=Lib.hid (HVz.out.step k2)
 have HQy:=Lib.hid (HQz.out.below k2)
 clear k1 k2
 refine hK.out _ _ (HS5.out wy HVy.out HQy.out) (fun hH1=>?_)
 clear hK K
 obtain ⟨v0',v1',v2',v3',vf0,vf1,vf2,vf3⟩:=vd_cells HVy.out.va
 obtain ⟨q0',q1',q2',q3',q4'⟩:=pl5 HVy.out.qa
 obtain ⟨qf0,qf1,qf2,qf3,qf4⟩:=pl5f HVy.out.qa
 have hva:=HVy.out.va.lt
 have hqa:=HVy.out.qa.lt
 refine wpB_past (i:=4) rfl (by kernel_rfl) (by kernel_rfl) (fun K hK=>?_)
 rw [if_pos (by kernel_rfl)]
 go_simp
 refine hK.out _ _ ?_
 clear hK K
 refine wpB_past (i:=5) rfl (by kernel_rfl) (by kernel_rfl) (fun K hK=>?_)
 rw [if_pos (by kernel_rfl)]
 go_simp
 refine hK.out _ _ ?_
 clear hK K
 refine wpB_past (i:=6) rfl (by kernel_rfl) (by kernel_rfl) (fun K hK=>?_)
 rw [if_pos (by kernel_rfl)]
 go_simp
 refine hK.out _ _ ?_
 clear hK K
 refine wpB_done (by kernel_rfl) ?_ _
 go_simp
 go_wp2_with fail
 (try simp only [Exit.inBlock,Exit.then])
 refine bodyPost_ret (v:=.tuple #[.agg #[.int .i64 0,.int .i64 0,.string ⟨#[]⟩,.bool false],.agg #[.int .i64 (z.a:Nat),.int .i64 (z.er:Nat),.int .i64 (z.line:Nat),.int .i64 (z.col:Nat),.int .i64 z.op],.bool true]) ?_ rfl ⟨by rw [HV.out]; rfl,?_⟩
 ·refine par_result3 rfl _ _ _ (a:=⟨w.heap.size + 1,0,none⟩) (b:=⟨w.heap.size + 2,0,none⟩) (by rfl) ?_ (by rfl) ?_ (by rfl)
  ·go_simp
  ·go_simp
 ·repeat' (first | (with_reducible exact HVy.out.below) | with_reducible refine Below.setCell ?_ (by simp <;> omega) _ | with_reducible refine Below.drew ?_ | with_reducible refine Below.alloc ?_ (by simp <;> omega) _)
end Go.Proofs.YtmknmmbfaljkbaaGreatDoor
