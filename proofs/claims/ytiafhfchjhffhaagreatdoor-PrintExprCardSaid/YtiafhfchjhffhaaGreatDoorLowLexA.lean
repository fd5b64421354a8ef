/- paclaim: LexAllF LexFrame -/
import Derived.Test.YtiafhfchjhffhaaGreatDoorLowLex3
import Derived.Test.YtiafhfchjhffhaaGreatDoorLowAs
import Derived.Test.YtiafhfchjhffhaaGreatDoorLowLex2
import Derived.Test.YtiafhfchjhffhaaGreatDoorLowQuo
import Derived.HandedShaped
import Derived.Shelf.Vars
import Derived.Lay
import Derived.LaidHandle
namespace Go.Proofs.YtiafhfchjhffhaaGreatDoor
open Go.RowKit
set_option linter.unusedVariables false
theorem la_nil (t:Value) (w:World) :
  Calls Tryz.prog 113 #[.nilIface,t] w fun e w'=>e=.returned (.bool false) ∧ w'=w:=by
 go_enter Tryz.func113,Tryz.ntmps113
 go_wp2
 go_ret
 exact ⟨rfl,rfl⟩
theorem la_hits (e:Nat) (t:Nat) (w:World) (hg:ErrT w) (ht:w.heap[t]? = some (.cells #[.pointer none] 222 (0,0))) :
  Calls Tryz.prog 113 #[.iface 222 (.pointer (some ⟨e,0,none⟩)),.iface 223 (.pointer (some ⟨t,0,none⟩))] w fun ev w'=>ev=.returned (.bool true) ∧ w'.heap[t]? = some (.cells #[.pointer (some ⟨e,0,none⟩)] 222 (0,0)) ∧ w.grownBy w' (some t):=by
 have hc:w.cell? ⟨t,0,none⟩=some (.pointer none):=by rw [cell_of_row w t 0 _ _ _ ht]; rfl
 have hl:t < w.heap.size:=(Array.getElem?_eq_some_iff.1 ht).1
 refine (la_hit ⟨e,0,none⟩ ⟨t,0,none⟩ (.pointer none) w hg hc (frozen_of_row w t 0 _ _ ht)).mono ?_
 rintro ev w' ⟨rfl,rfl⟩
 refine ⟨rfl,?_,?_⟩
 ·refine (heap_setCell_same _ t 0 #[.pointer none] _ _ ?_).trans rfl
  rw [heap_alloc_old _ _ (by simp; omega),heap_alloc_old _ _ (by simp; omega),heap_alloc_old _ _ (by simp; omega),heap_alloc_old _ _ hl]
  exact ht
 ·exact cs_gtrans (cs_gtrans (cs_gtrans (cs_gtrans (World.grownBy_alloc _ _ _) (World.grownBy_alloc _ _ _)) (World.grownBy_alloc _ _ _)) (World.grownBy_alloc _ _ _)) cs_set
theorem lr_hits (N:Nat) (d:Int) (t:Nat) (w:World) (hN:w.cell? ⟨N,2,none⟩=some (.iface 44 (.int .i64 d))) (hg:ErrT w) (ht:w.heap[t]? = some (.cells #[.int .i64 0] 44 (0,0))) :
  Calls Tryz.prog 113 #[.iface 222 (.pointer (some ⟨N,0,none⟩)),.iface 224 (.pointer (some ⟨t,0,none⟩))] w fun ev w'=>ev=.returned (.bool true) ∧ w'.heap[t]? = some (.cells #[.int .i64 d] 44 (0,0)) ∧ w.grownBy w' (some t):=by
 have hc:w.cell? ⟨t,0,none⟩=some (.int .i64 0):=by rw [cell_of_row w t 0 _ _ _ ht]; rfl
 have hl:t < w.heap.size:=(Array.getElem?_eq_some_iff.1 ht).1
 refine (lr_hit N d ⟨t,0,none⟩ (.int .i64 0) w hN hg hc (frozen_of_row w t 0 _ _ ht)).mono ?_
 rintro ev w' ⟨rfl,rfl⟩
 refine ⟨rfl,?_,?_⟩
 ·refine (heap_setCell_same _ t 0 #[.int .i64 0] _ _ ?_).trans rfl
  rw [heap_alloc_old _ _ (by simp; omega),heap_alloc_old _ _ (by simp; omega),heap_alloc_old _ _ (by simp; omega),heap_alloc_old _ _ hl]
  exact ht
 ·exact cs_gtrans (cs_gtrans (cs_gtrans (cs_gtrans (World.grownBy_alloc _ _ _) (World.grownBy_alloc _ _ _)) (World.grownBy_alloc _ _ _)) (World.grownBy_alloc _ _ _)) cs_set
def LexPost (x:Except (Nat × Nat × Nat) (List Tk)) (w:World) (e:Ending) (w':World):Prop :=
 (match x with
 | .ok M=>∃ a cap,e=.returned (.tuple #[.slice a M.length cap,failV 0 0 0]) ∧ TkIn w' 183 a M.length M
 | .error (er,l,c)=>er ≠ 0 ∧ e=.returned (.tuple #[.slice none 0 0,failV er l c])) ∧ Below w.heap.size w w'
theorem lex_ok {x:Except (Nat × Nat × Nat) (List Tk)} {M:List Tk} {w w':World} {e:Ending} (hx:x=.ok M) (h:∃ a cap,e=.returned (.tuple #[.slice a M.length cap,failV 0 0 0]) ∧ TkIn w' 183 a M.length M) (hb:Below w.heap.size w w'):LexPost x w e w':=by
 subst hx; exact ⟨h,hb⟩
theorem lex_no {x:Except (Nat × Nat × Nat) (List Tk)} {er l c:Nat} {w w':World} {e:Ending} (hx:x=.error (er,l,c)) (h0:er ≠ 0) (h:e=.returned (.tuple #[.slice none 0 0,failV er l c])) (hb:Below w.heap.size w w'):LexPost x w e w':=by
 subst hx; exact ⟨⟨h0,h⟩,hb⟩
structure FlBox (N:Nat) (w W:World):Prop where
 below:Below N w W
 fl:W.heap[N]? = some (.cells #[.int .i64 0,.int .i64 0,.int .i64 0] 46 (0,0))
theorem FlBox.new (w:World):FlBox w.heap.size w (w.alloc (.cells #[.int .i64 0,.int .i64 0,.int .i64 0] 46)) :=
 ⟨(Below.refl _ _).alloc (Nat.le_refl _) _,heap_alloc_new _ _⟩
theorem FlBox.lt {N:Nat} {w W:World} (h:FlBox N w W):N < W.heap.size:=(Array.getElem?_eq_some_iff.1 h.fl).1
theorem FlBox.step {N:Nat} {w W W':World} (h:FlBox N w W) (k:Below W.heap.size W W'):FlBox N w W':=by
 have:=h.lt
 exact ⟨h.below.trans (k.mono (by omega)),(k.block _ h.lt).trans h.fl⟩
theorem FlBox.grown {N r:Nat} {w W W':World} (h:FlBox N w W) (k:W.grownBy W' (some r)) (hr:N < r):FlBox N w W':=by
 have:=h.lt
 exact ⟨h.below.grown k (by omega) (fun j hj=>by cases hj; omega),(k.block _ h.lt (fun e=>by cases e; omega)).trans h.fl⟩
theorem FlBox.cells {N:Nat} {w W:World} (h:FlBox N w W):(W.cell? ⟨N,0,none⟩=some (.int .i64 0) ∧ W.cell? ⟨N,1,none⟩=some (.int .i64 0) ∧ W.cell? ⟨N,2,none⟩=some (.int .i64 0)) ∧ W.frozen? ⟨N,0,none⟩=false ∧ W.frozen? ⟨N,1,none⟩=false ∧ W.frozen? ⟨N,2,none⟩=false :=
 ⟨⟨by rw [cell_of_row W _ 0 _ _ _ h.fl]; rfl,by rw [cell_of_row W _ 1 _ _ _ h.fl]; rfl,by rw [cell_of_row W _ 2 _ _ _ h.fl]; rfl⟩,frozen_of_row W _ 0 _ _ h.fl,frozen_of_row W _ 1 _ _ h.fl,frozen_of_row W _ 2 _ _ h.fl⟩
set_option maxHeartbeats 4000000 in
set_option maxRecDepth 100000 in
theorem lexAll_calls (s:ByteArray) (w:World) (hs:s.size ≤ 4294967296) (hT:LexT w) (het:ErrT w) :
  Calls Tryz.prog 111 #[.string s] w (LexPost (tokL s.data.toList) w):=by
 have hO:=FlBox.new w
 have HR:=read_calls s _ hs (hT.below hO.below)
 have HO:=Lib.hid hO
 cases hx:tokL s.data.toList with
 | ok M =>
  rw [hx] at HR
  have HR:=Lib.hid HR
  have HNi:=Lib.hid (fun t w1=>la_nil t w1)
  clear hs hT het hO hx
  go_enter Tryz.func111,Tryz.ntmps111
  go_wp2_with fail
  refine HR.out.mono ?_
  rintro e w2 ⟨⟨a,cap,rfl,hv⟩,k2⟩
  have hO2:=HO.out.step k2
  have HO2:=Lib.hid hO2
  have HVs:=Lib.hid hv
  have hsz:=hO2.lt
  have hsz1:w.heap.size ≤ w2.heap.size:=by omega
  have hsz2:w.heap.size < w2.heap.size + 1:=by omega
  have hsz3:w.heap.size < w2.heap.size + 1 + 1:=by omega
  obtain ⟨⟨c0,c1,c2⟩,f0,f1,f2⟩:=hO2.cells
  clear k2 hO2 hv HR HO
  go_wp2_with fail
  refine (HNi.out _ _).mono ?_
  rintro e w3 ⟨rfl,hw3⟩
  subst hw3
  go_wp2_with fail
  (try simp only [Exit.inBlock,Exit.then])
  refine bodyPost_ret (v:=.tuple #[.slice a M.length cap,failV 0 0 0]) ?_ rfl ?_
  ·refine cs_result2 rfl _ _ _ (a:=⟨w.heap.size,0,none⟩) (by rfl) (by rfl) ?_
   unfold failV; go_simp
  ·have hk:=(((((Kp.refl (fun k=>k=w.heap.size) w2).set (g:=w.heap.size) (o:=0) rfl (.int .i64 0)).set (g:=w.heap.size) (o:=1) rfl (.int .i64 0)).set (g:=w.heap.size) (o:=2) rfl (.int .i64 0)).alloc (.cells #[.pointer none] 222)).alloc (.cells #[.int .i64 0] 44)
   exact lex_ok rfl ⟨a,cap,rfl,HVs.out.kept (fun g hg=>hk.block g hg.lt (fun e=>by subst e; exact hg.ne (show CBlk w2 w.heap.size 46 from ⟨_,_,HO2.out.fl⟩) (by decide) rfl))⟩ (hk.to_below HO2.out.below (by omega) (by rintro k rfl; exact Nat.le_refl _))
 | error e0 =>
  obtain ⟨er,el,ec⟩:=e0
  rw [hx] at HR
  have HR:=Lib.hid HR
  have HT:=Lib.hid (fun w1 (hb:Below w.heap.size w w1)=>het.below hb)
  clear hs hT het hO hx
  go_enter Tryz.func111,Tryz.ntmps111
  go_wp2_with fail
  refine HR.out.mono ?_
  rintro e w2 ⟨⟨hne,ge,rfl,hge,hgc⟩,k2⟩
  have HNe:=Lib.hid hne
  unfold PErr at hgc
  have hO2:=HO.out.step k2
  have hsz:=hO2.lt
  have hgel:ge < w2.heap.size:=(Array.getElem?_eq_some_iff.1 hgc).1
  have hb3:=((Below.refl w2.heap.size w2).alloc (Nat.le_refl _) (.cells #[.pointer none] 222)).alloc (by simp) (.cells #[.int .i64 0] 44)
  have hO3:=hO2.step hb3
  have hge3:=(hb3.block ge hgel).trans hgc
  obtain ⟨M,hM⟩:∃ M,M=w2.heap.size:=⟨_,rfl⟩
  have hp3:((w2.alloc (.cells #[.pointer none] 222)).alloc (.cells #[.int .i64 0] 44)).heap[M]? = some (.cells #[.pointer none] 222 (0,0)):=by
   rw [heap_alloc_old _ _ (by simp; omega),hM]
   exact heap_alloc_new _ _
  have hi3:((w2.alloc (.cells #[.pointer none] 222)).alloc (.cells #[.int .i64 0] 44)).heap[M + 1]? = some (.cells #[.int .i64 0] 44 (0,0)):=by
   have:=heap_alloc_new (w2.alloc (.cells #[.pointer none] 222)) (.cells #[.int .i64 0] 44)
   rw [World.size_alloc,← hM] at this
   exact this
  have HO3:=Lib.hid hO3
  have HGe3:=Lib.hid hge3
  have HP3:=Lib.hid hp3
  have HI3:=Lib.hid hi3
  have HMs:=Lib.hid (show w.heap.size < M ∧ ge < M ∧ w.heap.size < ge by rw [hM]; simp at hge; omega)
  clear k2 hO2 hb3 hO3 hge3 hp3 hi3 hgc hge hgel hsz HR HO hne
  go_wp2_with fail
  rw [← hM]
  obtain ⟨W3,hW3⟩:∃ W3,(w2.alloc (.cells #[.pointer none] 222)).alloc (.cells #[.int .i64 0] 44)=W3:=⟨_,rfl⟩
  rw [hW3] at HO3 HGe3 HP3 HI3 ⊢
  clear hW3 hM
  refine (la_hits ge M W3 (HT.out _ HO3.out.below) HP3.out).mono ?_
  rintro e w4 ⟨rfl,hT4,hg4⟩
  have hO4:=HO3.out.grown hg4 (by have:=HMs.out; omega)
  have hge4:=(hg4.block ge (Array.getElem?_eq_some_iff.1 HGe3.out).1 (by have:=HMs.out; intro k; cases k; omega)).trans HGe3.out
  have hi4:=(hg4.block (M + 1) (Array.getElem?_eq_some_iff.1 HI3.out).1 (by intro k; cases k)).trans HI3.out
  have x0:w4.cell? ⟨M,0,none⟩=some (.pointer (some ⟨ge,0,none⟩)):=by rw [cell_of_row w4 _ 0 _ _ _ hT4]; rfl
  have HO4:=Lib.hid hO4
  have HGe4:=Lib.hid hge4
  have HI4:=Lib.hid hi4
  have HT4:=Lib.hid hT4
  clear hO4 hge4 hi4 hT4 hg4
  go_wp2_with fail
  refine (lr_hits ge er (M + 1) w4 (by rw [cell_of_row w4 _ 2 _ _ _ HGe4.out]; rfl) (HT.out _ HO4.out.below) HI4.out).mono ?_
  rintro e w5 ⟨rfl,hi5,hg5⟩
  have hO5:=HO4.out.grown hg5 (by have:=HMs.out; omega)
  have hge5:=(hg5.block ge (Array.getElem?_eq_some_iff.1 HGe4.out).1 (by have:=HMs.out; intro k; cases k; omega)).trans HGe4.out
  have hT5:=(hg5.block M (Array.getElem?_eq_some_iff.1 HT4.out).1 (by intro k; cases k)).trans HT4.out
  obtain ⟨⟨c0,c1,c2⟩,f0,f1,f2⟩:=hO5.cells
  have y0:w5.cell? ⟨M,0,none⟩=some (.pointer (some ⟨ge,0,none⟩)):=by rw [cell_of_row w5 _ 0 _ _ _ hT5]; rfl
  have y1:w5.cell? ⟨M + 1,0,none⟩=some (.int .i64 (er:Nat)):=by rw [cell_of_row w5 _ 0 _ _ _ hi5]; rfl
  have y2:w5.cell? ⟨ge,0,none⟩=some (.int .i64 (el:Nat)):=by rw [cell_of_row w5 _ 0 _ _ _ hge5]; rfl
  have y3:w5.cell? ⟨ge,1,none⟩=some (.int .i64 (ec:Nat)):=by rw [cell_of_row w5 _ 1 _ _ _ hge5]; rfl
  have HO5:=Lib.hid hO5
  clear hO5 hge5 hT5 hi5 hg5 x0
  have hgl:ge < w5.heap.size:=block_lt_of_cell y2
  have hml:M + 1 < w5.heap.size:=block_lt_of_cell y1
  have HS:Hid (∀ W,Kp (fun k=>k=w.heap.size) w5 W → (W.cell? ⟨M,0,none⟩=some (.pointer (some ⟨ge,0,none⟩)) ∧ W.cell? ⟨M + 1,0,none⟩=some (.int .i64 (er:Nat)) ∧ W.cell? ⟨ge,0,none⟩=some (.int .i64 (el:Nat)) ∧ W.cell? ⟨ge,1,none⟩=some (.int .i64 (ec:Nat)))):=Lib.hid (fun W h=>by
   have:=HMs.out
   refine ⟨(World.cell?_of_block (a:=⟨M,0,none⟩) (h.block _ (by simp; omega) (by simp; omega))).trans y0,(World.cell?_of_block (a:=⟨M + 1,0,none⟩) (h.block _ (by simp; omega) (by simp; omega))).trans y1,(World.cell?_of_block (a:=⟨ge,0,none⟩) (h.block _ hgl (by simp; omega))).trans y2,(World.cell?_of_block (a:=⟨ge,1,none⟩) (h.block _ hgl (by simp; omega))).trans y3⟩)
  clear hgl hml
  go_wp2_with fail
  go_region_held3 (fun W=>W.cell? ⟨M,0,none⟩=some (.pointer (some ⟨ge,0,none⟩)) ∧ W.cell? ⟨M + 1,0,none⟩=some (.int .i64 (er:Nat)) ∧ W.cell? ⟨ge,0,none⟩=some (.int .i64 (el:Nat)) ∧ W.cell? ⟨ge,1,none⟩=some (.int .i64 (ec:Nat))) (exact HS.out _ (by repeat' (first | exact Kp.refl _ _ | refine Kp.set ?_ (by exact rfl) _ | refine Kp.drew ?_))) (first | fail)
  all_goals (go_wp2_with fail)
  all_goals (try simp only [Exit.inBlock,Exit.then])
  all_goals (refine bodyPost_ret (v:=.tuple #[.slice none 0 0,failV er el ec]) ?_ rfl ?_)
  ·refine cs_result2 rfl _ _ _ (a:=⟨w.heap.size,0,none⟩) (by rfl) (by rfl) ?_
   unfold failV; go_simp
  ·have hlt5:=HO5.out.lt
   have hk:=((((Kp.refl (fun k=>k=w.heap.size) w5).set (g:=w.heap.size) (o:=0) rfl (.int .i64 (er:Nat))).set (g:=w.heap.size) (o:=1) rfl (.int .i64 (el:Nat))).set (g:=w.heap.size) (o:=2) rfl (.int .i64 (ec:Nat))).drew
   exact lex_no rfl HNe.out rfl (hk.to_below HO5.out.below (by omega) (by rintro k rfl; exact Nat.le_refl _))
section
variable {H:Type} {enc:TypeId × Value → H}
theorem cs_handed {a:Assume} {C:Checked} {os:Os} {f:FuncId} {fn:Func} {s:ChangeSpec} {conds:List PathCond} {apart fresh handsOn again:Bool} {X:World → Array Value → Prop}
  (hX:∀ (w w':World) (args:Array Value),w.heap=w'.heap → X w args → X w' args)
  (own:ownKnob C.prog.godebug=none) (started:os.Started) (noInit:C.prog.inits.idxOf? f=none) (hfn:C.prog.funcs[f]? = some fn)
  (witness:∃ (w:World) (tape:Tape) (i:Input),w.os=os ∧ (w.forCall tape i).Shaped C.prog ∧ i.vars=[] ∧ Input.okWide C.prog (w.forCall tape i) .any w.heap.size f i ∧
   ((s.pre enc C.prog fn conds apart (w.forCall tape i).memory i.args ∧ X (w.forCall tape i).memory i.args) ∧ sizedMet enc C.prog fn (OpenSpec.ofChange s) apart (w.forCall tape i).memory i.args) ∧ a.holds C.prog (lone (Frame.enter C.prog f i.args .normal) [] (w.forCall tape i)))
  (contract:∀ (W:World) (base:Nat) (args:Array Value) (ds gs:List (DataW H)) (before:List MemPlace),
   (∀ (j:Nat) t v,fn.params[j]? = some t → args[j]? = some v → Value.okWide C.prog W .any base t v) →
   DataW.Whole enc C.prog fn.params.toList s.vars apart W args.toList ds gs before → W.ShapedOpen C.prog → X W args →
   Calls C.prog f args W fun e W'=>∃ v,e=.returned v ∧ s.post enc C.prog fn apart fresh handsOn again W args v W') :
  ReturnsInHanded a C os f .any (fun w args=>(s.pre enc C.prog fn conds apart w args ∧ X w args) ∧ sizedMet enc C.prog fn (OpenSpec.ofChange s) apart w args) (s.post enc C.prog fn apart fresh handsOn again):=by
 refine returnsInHanded_of_calls own started noInit witness ?_
 intro w tape i _ hsh _ hok hpre _
 obtain ⟨_,_,_,fn',hfn',_,_,_,_,hval⟩:=hok
 obtain rfl:fn'=fn:=Option.some.inj (hfn'.symm.trans hfn)
 obtain ⟨⟨⟨ds,gs,before,hw,_⟩,hx⟩,_⟩:=hpre
 refine (contract (w.forCall tape i) w.heap.size i.args ds gs before hval (DataW.Whole.of_heap (w':=w.forCall tape i) (by rfl) hw) hsh (hX _ _ _ (by rfl) hx)).mono fun e W' ⟨v,he,hp⟩=>?_
 subst he
 exact ChangeSpec.post_blind hp
end
theorem cs_et : Tryz.prog.globalNamed "errors.errorType" = some 1 := by kernel_rfl
theorem cs_rt : (Tryz.prog.cutTypes.find? (·.1 == "internal/reflectlite.rtype")).map (·.2) = some 277 := by kernel_rfl
theorem cs_oneRow:((List.range Tryz.prog.types.size).filter fun t=>Tryz.prog.rowNamed t [101,114,114,111,114])=[75]:=by kernel_rfl
theorem errT_of_handle {W : World} (h : handlesMet Tryz.prog [("errors.errorType", Rows.laid_errors_errorType)] W) : ErrT W := by
 obtain ⟨name,u,ty,e1,e2,e3,e4,e5⟩:=h _ (List.mem_singleton.2 rfl)
 have en:name=[101,114,114,111,114]:=(Option.some.inj e1).symm
 subst en
 obtain rfl:=Option.some.inj (cs_rt.symm.trans e2)
 have hm:ty ∈ (List.range Tryz.prog.types.size).filter fun t=>Tryz.prog.rowNamed t [101,114,114,111,114]:=List.mem_filter.2 ⟨List.mem_range.2 e3,e4⟩
 rw [cs_oneRow] at hm
 obtain rfl:=List.mem_singleton.1 hm
 have hh:typeHandle Tryz.prog 75=.pointer (some ⟨11,75,none⟩):=by kernel_rfl
 rw [hh] at e5
 simpa [ErrT] using World.var?_cell cs_et e5 0
noncomputable def lxW0 (os:Os):World :=
 let w0:=World.holding Tryz.prog os ⟨#[],#[],[]⟩
 { w0 with heap:=w0.heap.modify 1 fun
   | .cells _ t frozen=>.cells #[.iface 277 (.agg #[.pointer (some ⟨11,75,none⟩)])] t frozen
   | o=>o }
end Go.Proofs.YtiafhfchjhffhaaGreatDoor
