/- paclaim: TreeFew TreeFewF -/
import Derived.Test.YtiafhfchjhffhaaGreatDoorLowScN
import Derived.BigQuiet
namespace Go.Proofs.YtiafhfchjhffhaaGreatDoor
open Go.RowKit
set_option linter.unusedVariables false
theorem all_drop {α:Type} {L:List α} {n:Nat} {x:α} (hx:L[n]? = some x):L.drop n=x :: L.drop (n + 1):=by
 obtain ⟨hn,e⟩:=List.getElem?_eq_some_iff.1 hx
 rw [List.drop_eq_getElem_cons hn,e]
theorem all_hit {α:Type} {L:List α} {f:α → Bool} {n:Nat} {x:α} (h:L.all f=(L.drop n).all f) (hx:L[n]? = some x) (e:f x=false):L.all f=false:=by
 rw [h,all_drop hx,List.all_cons,e]; rfl
theorem all_step {α:Type} {L:List α} {f:α → Bool} {n:Nat} {x:α} (h:L.all f=(L.drop n).all f) (hx:L[n]? = some x) (e:f x=true):L.all f=(L.drop (n + 1)).all f:=by
 rw [h,all_drop hx,List.all_cons,e]; rfl
theorem all_end {α:Type} {L:List α} {f:α → Bool} {n:Nat} (h:L.all f=(L.drop n).all f) (hn:L.length ≤ n):L.all f=true:=by
 rw [h,List.drop_eq_nil_iff.2 hn]; rfl
theorem box1 {w w1:World} {A:List Value} {T:TypeId} (k:Below (w.heap.size + 1) (w.alloc (.cells A.toArray T)) w1):∀ j v,A[j]? = some v → w1.cell? ⟨w.heap.size,j,none⟩=some v:=by
 intro j v h
 rw [k.cell (p:=⟨w.heap.size,j,none⟩) (by simp),World.cell?_alloc_at (hn:=rfl)]
 simpa using h
theorem below1_step {W a b:World} {n:Nat} (h:Below (n + 1) W a) (hW:W.heap.size=n + 1) (k:Below a.heap.size a b):Below (n + 1) W b :=
 h.trans (k.mono (by have:=h.size; omega))
def longA (a:Ag):Bool:=decide (a.v.s.size ≤ 100)
theorem short_eq (s:Sy):shortB s=(decide (s.ar.length ≤ 12) && s.ar.all longA):=rfl
set_option maxHeartbeats 2000000 in
set_option maxRecDepth 100000 in
theorem short_calls {Y:TyT} {O:Prop} (s:Sy) (cs:List Value) (w:World) (hr:rSy Y O w cs s) :
  Calls Tryz.prog 23 #[.agg cs.toArray] w fun e w'=>e=.returned (.bool (shortB s)) ∧ Below w.heap.size w w':=by
 obtain ⟨a,c,rfl,h1,_⟩:=hr
 have H:=Lib.hid h1
 have hsm:=h1.small
 have HS:=Lib.hid (short_eq s)
 have HB:Hid (Below w.heap.size w (w.alloc (.cells #[.string s.n,.slice a s.ar.length c,.int .i64 s.l,.int .i64 s.c] 39))):=Lib.hid ((Below.refl w.heap.size w).alloc (Nat.le_refl _) _)
 have HK0:Hid (Below (w.heap.size + 1) (w.alloc (.cells #[.string s.n,.slice a s.ar.length c,.int .i64 s.l,.int .i64 s.c] 39)) (w.alloc (.cells #[.string s.n,.slice a s.ar.length c,.int .i64 s.l,.int .i64 s.c] 39))):=Lib.hid (Below.refl _ _)
 have HBK:Hid (∀ w1,Hid (Below (w.heap.size + 1) (w.alloc (.cells #[.string s.n,.slice a s.ar.length c,.int .i64 s.l,.int .i64 s.c] 39)) w1) → Below w.heap.size w w1):=Lib.hid (fun _ h=>HB.out.trans (h.out.mono (Nat.le_succ _)))
 clear h1
 by_cases hl:s.ar.length ≤ 12
 case neg =>
  rw [decide_eq_false hl] at HS
  have hl1:12 < s.ar.length:=by omega
  have t0:decide ((12:Int) < (s.ar.length:Int))=true:=decide_eq_true (by omega)
  have HB':=HB
  go_enter Tryz.func23,Tryz.ntmps23
  go_wp2_with fail
  go_ret
  exact ⟨by rw [HS.out]; rfl,HB.out⟩
 case pos =>
  rw [decide_eq_true hl] at HS
  have hl1:¬ 12 < s.ar.length:=by omega
  have t0:decide ((12:Int) < (s.ar.length:Int))=false:=decide_eq_false (by omega)
  go_enter Tryz.func23,Tryz.ntmps23
  go_wp2_with fail
  go_loopw [3] (fun i wr=>∃ (n:Nat),n ≤ s.ar.length ∧ i=.int .i64 n ∧ Hid (s.ar.all longA=(s.ar.drop n).all longA) ∧ Hid (Below (w.heap.size + 1) (w.alloc (.cells #[.string s.n,.slice a s.ar.length c,.int .i64 s.l,.int .i64 s.c] 39)) wr)) (fun i _=>s.ar.length - (intOf i).toNat)
  case atStart=>exact ⟨0,Nat.zero_le _,rfl,Lib.hid rfl,HK0⟩
  case round =>
   obtain ⟨n,hn,rfl,HT,HL⟩:=hrel
   have z0:wr.cell? ⟨w.heap.size,1,none⟩=some (.slice a s.ar.length c):=box1 HL.out 1 _ rfl
   by_cases h:n < s.ar.length
   case neg =>
    have HX:=Lib.hid (all_end HT.out (by omega))
    rw [HX.out] at HS
    go_wp2_with fail
    go_ret
    exact ⟨by rw [HS.out]; rfl,HBK.out _ HL⟩
   case pos =>
    obtain ⟨x1,hx⟩:=at_some (L:=s.ar) rfl h
    have HW:=Lib.hid (HBK.out _ HL)
    obtain ⟨g,off,rfl,hg,hc,hok⟩:=(H.out.belowF HW.out).flat hx
    have hsz:x1.v.s.size ≤ 9223372036854775807:=hok.2.1
    have c4:wr.cell? ⟨g,off + n * 8 + 4,none⟩=some (.string x1.v.s):=hc 4 _ rfl
    have c5:wr.cell? ⟨g,off + n * 8 + 2 + 2,none⟩=some (.string x1.v.s):=hc 4 _ rfl
    have HX:=Lib.hid hx
    clear hc hx hok
    by_cases he:x1.v.s.size ≤ 100
    ·have HE:=Lib.hid (all_step HT.out HX.out (decide_eq_true he))
     have he1:¬ 100 < x1.v.s.size:=by omega
     have t1:decide ((100:Int) < (x1.v.s.size:Int))=false:=decide_eq_false (by omega)
     go_wp2_with fail
     go_roundw
     case rel=>exact ⟨n + 1,h,by go_num,HE,HL⟩
     case measure=>simp [intOf] <;> omega
    ·have HE:=Lib.hid (all_hit HT.out HX.out (decide_eq_false he))
     rw [HE.out] at HS
     have he1:100 < x1.v.s.size:=by omega
     have t1:decide ((100:Int) < (x1.v.s.size:Int))=true:=decide_eq_true (by omega)
     go_wp2_with fail
     go_ret
     exact ⟨by rw [HS.out]; rfl,HBK.out _ HL⟩
def fewD (d:De):Bool:=decide (d.ks.length ≤ 12)
def fewF (f:Fr):Bool:=decide (f.v.s.size ≤ 100)
def longE (x:Ex):Bool:=decide (x.v.s.size ≤ 100)
def fewT (t:Ts):Bool:=shortB t.on && (decide (t.ns.length ≤ 40) && (decide (t.ss.length ≤ 12) && t.ns.all longE))
theorem few_eq (s:Tr):fewB s=(decide (s.ds.length ≤ 12) && (decide (s.qs.length ≤ 12) && (decide (s.fs.length ≤ 12) && (decide (s.st.length ≤ 12) && (decide (s.al.length ≤ 12) && (decide (s.ts.length ≤ 12) && (s.ds.all fewD && (s.fs.all fewF && (s.al.all shortB && s.ts.all fewT))))))))):=by
 have e:(fun t:Ts=>shortB t.on && decide (t.ns.length ≤ 40) && decide (t.ss.length ≤ 12) && t.ns.all (fun x=>decide (x.v.s.size ≤ 100)))=fewT:=funext fun t=>by
  unfold fewT longE; simp only [Bool.and_assoc]
 unfold fewB
 rw [e]
 simp only [Bool.decide_and,Bool.and_assoc]
 rfl
def fewI (b:Bool):Int:=if b then 1 else 0
set_option maxHeartbeats 8000000 in
set_option maxRecDepth 100000 in
theorem few_calls {Y:TyT} {O:Prop} (s:Tr) (cs:List Value) (w:World) (hx:TrIn Y O w cs s) :
  Calls Tryz.prog 7 #[.agg cs.toArray] w fun e w'=>e=.returned (.int .i64 (fewI (fewB s))) ∧ Below w.heap.size w w':=by
 obtain ⟨⟨da,dc,qa,qc,fa,fc,ta,tc,la,lc,xa,xc,rfl,g1,g2,g3,g4,g5,g6⟩,_⟩:=hx
 have HS:=Lib.hid (few_eq s)
 have HB:Hid (Below w.heap.size w (w.alloc (.cells #[.string s.n.t,.int .i64 s.n.l,.int .i64 s.n.c,.slice da s.ds.length dc,.slice qa s.qs.length qc,.slice fa s.fs.length fc,.slice ta s.st.length tc,.string s.s.t,.int .i64 s.s.l,.int .i64 s.s.c,.slice la s.al.length lc,.slice xa s.ts.length xc] 31))):=Lib.hid ((Below.refl w.heap.size w).alloc (Nat.le_refl _) _)
 have HK0:Hid (Below (w.heap.size + 1) (w.alloc (.cells #[.string s.n.t,.int .i64 s.n.l,.int .i64 s.n.c,.slice da s.ds.length dc,.slice qa s.qs.length qc,.slice fa s.fs.length fc,.slice ta s.st.length tc,.string s.s.t,.int .i64 s.s.l,.int .i64 s.s.c,.slice la s.al.length lc,.slice xa s.ts.length xc] 31)) (w.alloc (.cells #[.string s.n.t,.int .i64 s.n.l,.int .i64 s.n.c,.slice da s.ds.length dc,.slice qa s.qs.length qc,.slice fa s.fs.length fc,.slice ta s.st.length tc,.string s.s.t,.int .i64 s.s.l,.int .i64 s.s.c,.slice la s.al.length lc,.slice xa s.ts.length xc] 31))):=Lib.hid (Below.refl _ _)
 have HBK:Hid (∀ w1,Hid (Below (w.heap.size + 1) (w.alloc (.cells #[.string s.n.t,.int .i64 s.n.l,.int .i64 s.n.c,.slice da s.ds.length dc,.slice qa s.qs.length qc,.slice fa s.fs.length fc,.slice ta s.st.length tc,.string s.s.t,.int .i64 s.s.l,.int .i64 s.s.c,.slice la s.al.length lc,.slice xa s.ts.length xc] 31)) w1) → Below w.heap.size w w1):=Lib.hid (fun _ h=>HB.out.trans (h.out.mono (Nat.le_succ _)))
 have s1:=g1.small
 have G1:=Lib.hid g1
 have s2:=g2.small
 have G2:=Lib.hid g2
 have s3:=g3.small
 have G3:=Lib.hid g3
 have s4:=g4.small
 have G4:=Lib.hid g4
 have s5:=g5.small
 have G5:=Lib.hid g5
 have s6:=g6.small
 have G6:=Lib.hid g6
 clear g1 g2 g3 g4 g5 g6
 by_cases l0:s.ds.length ≤ 12
 case neg =>
  rw [decide_eq_false l0] at HS
  have m0:12 < s.ds.length:=by omega
  have t0:decide ((12:Int) < (s.ds.length:Int))=true:=decide_eq_true (by omega)
  go_enter Tryz.func7,Tryz.ntmps7
  go_wp2_with fail
  go_ret
  exact ⟨by rw [HS.out]; simp [fewI],HBK.out _ HK0⟩
 case pos =>
  rw [decide_eq_true l0] at HS
  have m0:¬ 12 < s.ds.length:=by omega
  have t0:decide ((12:Int) < (s.ds.length:Int))=false:=decide_eq_false (by omega)
  by_cases l1:s.qs.length ≤ 12
  case neg =>
   rw [decide_eq_false l1] at HS
   have m1:12 < s.qs.length:=by omega
   have t1:decide ((12:Int) < (s.qs.length:Int))=true:=decide_eq_true (by omega)
   go_enter Tryz.func7,Tryz.ntmps7
   go_wp2_with fail
   go_ret
   exact ⟨by rw [HS.out]; simp [fewI],HBK.out _ HK0⟩
  case pos =>
   rw [decide_eq_true l1] at HS
   have m1:¬ 12 < s.qs.length:=by omega
   have t1:decide ((12:Int) < (s.qs.length:Int))=false:=decide_eq_false (by omega)
   by_cases l2:s.fs.length ≤ 12
   case neg =>
    rw [decide_eq_false l2] at HS
    have m2:12 < s.fs.length:=by omega
    have t2:decide ((12:Int) < (s.fs.length:Int))=true:=decide_eq_true (by omega)
    go_enter Tryz.func7,Tryz.ntmps7
    go_wp2_with fail
    go_ret
    exact ⟨by rw [HS.out]; simp [fewI],HBK.out _ HK0⟩
   case pos =>
    rw [decide_eq_true l2] at HS
    have m2:¬ 12 < s.fs.length:=by omega
    have t2:decide ((12:Int) < (s.fs.length:Int))=false:=decide_eq_false (by omega)
    by_cases l3:s.st.length ≤ 12
    case neg =>
     rw [decide_eq_false l3] at HS
     have m3:12 < s.st.length:=by omega
     have t3:decide ((12:Int) < (s.st.length:Int))=true:=decide_eq_true (by omega)
     go_enter Tryz.func7,Tryz.ntmps7
     go_wp2_with fail
     go_ret
     exact ⟨by rw [HS.out]; simp [fewI],HBK.out _ HK0⟩
    case pos =>
     rw [decide_eq_true l3] at HS
     have m3:¬ 12 < s.st.length:=by omega
     have t3:decide ((12:Int) < (s.st.length:Int))=false:=decide_eq_false (by omega)
     by_cases l4:s.al.length ≤ 12
     case neg =>
      rw [decide_eq_false l4] at HS
      have m4:12 < s.al.length:=by omega
      have t4:decide ((12:Int) < (s.al.length:Int))=true:=decide_eq_true (by omega)
      go_enter Tryz.func7,Tryz.ntmps7
      go_wp2_with fail
      go_ret
      exact ⟨by rw [HS.out]; simp [fewI],HBK.out _ HK0⟩
     case pos =>
      rw [decide_eq_true l4] at HS
      have m4:¬ 12 < s.al.length:=by omega
      have t4:decide ((12:Int) < (s.al.length:Int))=false:=decide_eq_false (by omega)
      by_cases l5:s.ts.length ≤ 12
      case neg =>
       rw [decide_eq_false l5] at HS
       have m5:12 < s.ts.length:=by omega
       have t5:decide ((12:Int) < (s.ts.length:Int))=true:=decide_eq_true (by omega)
       go_enter Tryz.func7,Tryz.ntmps7
       go_wp2_with fail
       go_ret
       exact ⟨by rw [HS.out]; simp [fewI],HBK.out _ HK0⟩
      case pos =>
       rw [decide_eq_true l5] at HS
       have m5:¬ 12 < s.ts.length:=by omega
       have t5:decide ((12:Int) < (s.ts.length:Int))=false:=decide_eq_false (by omega)
       go_enter Tryz.func7,Tryz.ntmps7
       go_wp2_with fail
       go_loopw [3] (fun i wr=>∃ (n:Nat),n ≤ s.ds.length ∧ i=.int .i64 n ∧ Hid (s.ds.all fewD=(s.ds.drop n).all fewD) ∧ Hid (Below (w.heap.size + 1) (w.alloc (.cells #[.string s.n.t,.int .i64 s.n.l,.int .i64 s.n.c,.slice da s.ds.length dc,.slice qa s.qs.length qc,.slice fa s.fs.length fc,.slice ta s.st.length tc,.string s.s.t,.int .i64 s.s.l,.int .i64 s.s.c,.slice la s.al.length lc,.slice xa s.ts.length xc] 31)) wr)) (fun i _=>s.ds.length - (intOf i).toNat)
       case atStart=>exact ⟨0,Nat.zero_le _,rfl,Lib.hid rfl,HK0⟩
       case round =>
        obtain ⟨n,hn,rfl,HT,HL0⟩:=hrel
        obtain ⟨wr0,hwr⟩:∃ u,u=wr:=⟨_,rfl⟩
        subst hwr
        have z0:wr0.cell? ⟨w.heap.size,3,none⟩=some (.slice da s.ds.length dc):=box1 HL0.out 3 _ rfl
        by_cases h:n < s.ds.length
        case neg =>
         have HX:=Lib.hid (all_end HT.out (by omega))
         rw [HX.out] at HS
         go_wp2_with fail
         clear z0 HT HX
         go_loopw [4] (fun i wr=>∃ (n:Nat),n ≤ s.fs.length ∧ i=.int .i64 n ∧ Hid (s.fs.all fewF=(s.fs.drop n).all fewF) ∧ Hid (Below (w.heap.size + 1) (w.alloc (.cells #[.string s.n.t,.int .i64 s.n.l,.int .i64 s.n.c,.slice da s.ds.length dc,.slice qa s.qs.length qc,.slice fa s.fs.length fc,.slice ta s.st.length tc,.string s.s.t,.int .i64 s.s.l,.int .i64 s.s.c,.slice la s.al.length lc,.slice xa s.ts.length xc] 31)) wr)) (fun i _=>s.fs.length - (intOf i).toNat)
         case atStart=>exact ⟨0,Nat.zero_le _,rfl,Lib.hid rfl,HL0⟩
         case round =>
          obtain ⟨n,hn,rfl,HT,HL1⟩:=hrel
          obtain ⟨wr1,hwr⟩:∃ u,u=wr:=⟨_,rfl⟩
          subst hwr
          have z0:wr1.cell? ⟨w.heap.size,5,none⟩=some (.slice fa s.fs.length fc):=box1 HL1.out 5 _ rfl
          by_cases h:n < s.fs.length
          case neg =>
           have HX:=Lib.hid (all_end HT.out (by omega))
           rw [HX.out] at HS
           go_wp2_with fail
           clear z0 HT HX
           go_loopw [5] (fun i wr=>∃ (n:Nat),n ≤ s.al.length ∧ i=.int .i64 n ∧ Hid (s.al.all shortB=(s.al.drop n).all shortB) ∧ Hid (Below (w.heap.size + 1) (w.alloc (.cells #[.string s.n.t,.int .i64 s.n.l,.int .i64 s.n.c,.slice da s.ds.length dc,.slice qa s.qs.length qc,.slice fa s.fs.length fc,.slice ta s.st.length tc,.string s.s.t,.int .i64 s.s.l,.int .i64 s.s.c,.slice la s.al.length lc,.slice xa s.ts.length xc] 31)) wr)) (fun i _=>s.al.length - (intOf i).toNat)
           case atStart=>exact ⟨0,Nat.zero_le _,rfl,Lib.hid rfl,HL1⟩
           case round =>
            obtain ⟨n,hn,rfl,HT,HL2⟩:=hrel
            obtain ⟨wr2,hwr⟩:∃ u,u=wr:=⟨_,rfl⟩
            subst hwr
            have z0:wr2.cell? ⟨w.heap.size,10,none⟩=some (.slice la s.al.length lc):=box1 HL2.out 10 _ rfl
            by_cases h:n < s.al.length
            case neg =>
             have HX:=Lib.hid (all_end HT.out (by omega))
             rw [HX.out] at HS
             go_wp2_with fail
             clear z0 HT HX
             go_loopw [6] (fun i wr=>∃ (n:Nat),n ≤ s.ts.length ∧ i=.int .i64 n ∧ Hid (s.ts.all fewT=(s.ts.drop n).all fewT) ∧ Hid (Below (w.heap.size + 1) (w.alloc (.cells #[.string s.n.t,.int .i64 s.n.l,.int .i64 s.n.c,.slice da s.ds.length dc,.slice qa s.qs.length qc,.slice fa s.fs.length fc,.slice ta s.st.length tc,.string s.s.t,.int .i64 s.s.l,.int .i64 s.s.c,.slice la s.al.length lc,.slice xa s.ts.length xc] 31)) wr)) (fun i _=>s.ts.length - (intOf i).toNat)
             case atStart=>exact ⟨0,Nat.zero_le _,rfl,Lib.hid rfl,HL2⟩
             case round =>
              obtain ⟨n,hn,rfl,HT,HL3⟩:=hrel
              obtain ⟨wr3,hwr⟩:∃ u,u=wr:=⟨_,rfl⟩
              subst hwr
              have z0:wr3.cell? ⟨w.heap.size,11,none⟩=some (.slice xa s.ts.length xc):=box1 HL3.out 11 _ rfl
              by_cases h:n < s.ts.length
              case neg =>
               have HX:=Lib.hid (all_end HT.out (by omega))
               rw [HX.out] at HS
               go_wp2_with fail
               clear z0 HT HX
               go_ret
               exact ⟨by rw [HS.out]; simp [fewI],HBK.out _ HL3⟩
              case pos =>
               obtain ⟨x1,hx⟩:=at_some (L:=s.ts) rfl h
               have HW:=Lib.hid (HBK.out _ HL3)
               obtain ⟨g,off,csx,e1,hg,_,hc,⟨oa,oc,na,nc,sa,sc,rfl,k1,k2,k3,k4⟩,_⟩:=(G6.out.belowT HW.out).at' n x1 hx
               rw [e1] at z0
               have q1:=k1.small
               have q2:=k2.small
               have q3:=k3.small
               have c0:wr3.cell? ⟨g,off + n * 13,none⟩=some (.string x1.f.t):=hc 0 _ rfl
               have c1:wr3.cell? ⟨g,off + n * 13 + 1,none⟩=some (.int .i64 x1.f.l):=hc 1 _ rfl
               have c2:wr3.cell? ⟨g,off + n * 13 + 2,none⟩=some (.int .i64 x1.f.c):=hc 2 _ rfl
               have c3:wr3.cell? ⟨g,off + n * 13 + 3,none⟩=some (.string x1.t.t):=hc 3 _ rfl
               have c4:wr3.cell? ⟨g,off + n * 13 + 4,none⟩=some (.int .i64 x1.t.l):=hc 4 _ rfl
               have c5:wr3.cell? ⟨g,off + n * 13 + 5,none⟩=some (.int .i64 x1.t.c):=hc 5 _ rfl
               have c6:wr3.cell? ⟨g,off + n * 13 + 6,none⟩=some (.string x1.on.n):=hc 6 _ rfl
               have c7:wr3.cell? ⟨g,off + n * 13 + 7,none⟩=some (.slice oa x1.on.ar.length oc):=hc 7 _ rfl
               have c8:wr3.cell? ⟨g,off + n * 13 + 8,none⟩=some (.int .i64 x1.on.l):=hc 8 _ rfl
               have c9:wr3.cell? ⟨g,off + n * 13 + 9,none⟩=some (.int .i64 x1.on.c):=hc 9 _ rfl
               have c10:wr3.cell? ⟨g,off + n * 13 + 10,none⟩=some (.slice na x1.ns.length nc):=hc 10 _ rfl
               have c11:wr3.cell? ⟨g,off + n * 13 + 11,none⟩=some (.int .i64 x1.g):=hc 11 _ rfl
               have c12:wr3.cell? ⟨g,off + n * 13 + 12,none⟩=some (.slice sa x1.ss.length sc):=hc 12 _ rfl
               have HX:=Lib.hid hx
               clear hc hx e1
               have HB2:Hid (Below wr3.heap.size wr3 (wr3.alloc (.cells #[.string x1.f.t,.int .i64 x1.f.l,.int .i64 x1.f.c,.string x1.t.t,.int .i64 x1.t.l,.int .i64 x1.t.c,.string x1.on.n,.slice oa x1.on.ar.length oc,.int .i64 x1.on.l,.int .i64 x1.on.c,.slice na x1.ns.length nc,.int .i64 x1.g,.slice sa x1.ss.length sc] 43))):=Lib.hid ((Below.refl _ _).alloc (Nat.le_refl _) _)
               have HBQ:Hid (∀ w1,Hid (Below (wr3.heap.size + 1) (wr3.alloc (.cells #[.string x1.f.t,.int .i64 x1.f.l,.int .i64 x1.f.c,.string x1.t.t,.int .i64 x1.t.l,.int .i64 x1.t.c,.string x1.on.n,.slice oa x1.on.ar.length oc,.int .i64 x1.on.l,.int .i64 x1.on.c,.slice na x1.ns.length nc,.int .i64 x1.g,.slice sa x1.ss.length sc] 43)) w1) → Below wr3.heap.size wr3 w1):=Lib.hid (fun _ h=>HB2.out.trans (h.out.mono (Nat.le_succ _)))
               have HBR:Hid (∀ w1,Hid (Below (wr3.heap.size + 1) (wr3.alloc (.cells #[.string x1.f.t,.int .i64 x1.f.l,.int .i64 x1.f.c,.string x1.t.t,.int .i64 x1.t.l,.int .i64 x1.t.c,.string x1.on.n,.slice oa x1.on.ar.length oc,.int .i64 x1.on.l,.int .i64 x1.on.c,.slice na x1.ns.length nc,.int .i64 x1.g,.slice sa x1.ss.length sc] 43)) w1) → Hid (Below (w.heap.size + 1) (w.alloc (.cells #[.string s.n.t,.int .i64 s.n.l,.int .i64 s.n.c,.slice da s.ds.length dc,.slice qa s.qs.length qc,.slice fa s.fs.length fc,.slice ta s.st.length tc,.string s.s.t,.int .i64 s.s.l,.int .i64 s.s.c,.slice la s.al.length lc,.slice xa s.ts.length xc] 31)) w1)):=Lib.hid (fun _ h=>Lib.hid (HL3.out.trans ((HBQ.out _ h).mono (by have:=HL3.out.size; simp at this; omega))))
               have HQ0:Hid (Below (wr3.heap.size + 1) (wr3.alloc (.cells #[.string x1.f.t,.int .i64 x1.f.l,.int .i64 x1.f.c,.string x1.t.t,.int .i64 x1.t.l,.int .i64 x1.t.c,.string x1.on.n,.slice oa x1.on.ar.length oc,.int .i64 x1.on.l,.int .i64 x1.on.c,.slice na x1.ns.length nc,.int .i64 x1.g,.slice sa x1.ss.length sc] 43)) (wr3.alloc (.cells #[.string x1.f.t,.int .i64 x1.f.l,.int .i64 x1.f.c,.string x1.t.t,.int .i64 x1.t.l,.int .i64 x1.t.c,.string x1.on.n,.slice oa x1.on.ar.length oc,.int .i64 x1.on.l,.int .i64 x1.on.c,.slice na x1.ns.length nc,.int .i64 x1.g,.slice sa x1.ss.length sc] 43))):=Lib.hid (Below.refl _ _)
               have HC:=Lib.hid (short_calls x1.on [.string x1.on.n,.slice oa x1.on.ar.length oc,.int .i64 x1.on.l,.int .i64 x1.on.c] _ ⟨oa,oc,rfl,k1.belowF HB2.out,k4.2.2⟩)
               have K2:=Lib.hid k2
               clear k1 k2 k3 k4
               have HF:Hid (fewT x1=(shortB x1.on && (decide (x1.ns.length ≤ 40) && (decide (x1.ss.length ≤ 12) && x1.ns.all longE)))):=Lib.hid rfl
               have l0:w.heap.size < wr3.heap.size:=by have:=HL3.out.size; simp at this; omega
               cases e:shortB x1.on
               ·rw [e] at HC HF
                clear e
                have HE:=Lib.hid (all_hit HT.out HX.out (HF.out.trans (by simp)))
                rw [HE.out] at HS
                go_wp2_with fail
                refine HC.out.mono ?_
                rintro e w1 ⟨rfl,k1⟩
                have HQ1:=Lib.hid (below1_step HQ0.out (by simp) k1)
                clear k1
                go_wp2_with fail
                go_ret
                exact ⟨by rw [HS.out]; simp [fewI],HBK.out _ (HBR.out _ HQ1)⟩
               ·rw [e] at HC HF
                clear e
                by_cases l6:x1.ns.length ≤ 40
                case neg =>
                 rw [decide_eq_false l6] at HF
                 have HE:=Lib.hid (all_hit HT.out HX.out (HF.out.trans (by simp)))
                 rw [HE.out] at HS
                 have m6:40 < x1.ns.length:=by omega
                 have t6:decide ((40:Int) < (x1.ns.length:Int))=true:=decide_eq_true (by omega)
                 go_wp2_with fail
                 refine HC.out.mono ?_
                 rintro e w1 ⟨rfl,k1⟩
                 have HQ1:=Lib.hid (below1_step HQ0.out (by simp) k1)
                 clear k1
                 have y0:=box1 HQ1.out 10 _ rfl
                 have y1:=box1 HQ1.out 12 _ rfl
                 go_wp2_with fail
                 go_ret
                 exact ⟨by rw [HS.out]; simp [fewI],HBK.out _ (HBR.out _ HQ1)⟩
                case pos =>
                 rw [decide_eq_true l6] at HF
                 have m6:¬ 40 < x1.ns.length:=by omega
                 have t6:decide ((40:Int) < (x1.ns.length:Int))=false:=decide_eq_false (by omega)
                 by_cases l7:x1.ss.length ≤ 12
                 case neg =>
                  rw [decide_eq_false l7] at HF
                  have HE:=Lib.hid (all_hit HT.out HX.out (HF.out.trans (by simp)))
                  rw [HE.out] at HS
                  have m7:12 < x1.ss.length:=by omega
                  have t7:decide ((12:Int) < (x1.ss.length:Int))=true:=decide_eq_true (by omega)
                  go_wp2_with fail
                  refine HC.out.mono ?_
                  rintro e w1 ⟨rfl,k1⟩
                  have HQ1:=Lib.hid (below1_step HQ0.out (by simp) k1)
                  clear k1
                  have y0:=box1 HQ1.out 10 _ rfl
                  have y1:=box1 HQ1.out 12 _ rfl
                  go_wp2_with fail
                  go_ret
                  exact ⟨by rw [HS.out]; simp [fewI],HBK.out _ (HBR.out _ HQ1)⟩
                 case pos =>
                  rw [decide_eq_true l7] at HF
                  have m7:¬ 12 < x1.ss.length:=by omega
                  have t7:decide ((12:Int) < (x1.ss.length:Int))=false:=decide_eq_false (by omega)
                  go_wp2_with fail
                  refine HC.out.mono ?_
                  rintro e w1 ⟨rfl,k1⟩
                  have HQ1:=Lib.hid (below1_step HQ0.out (by simp) k1)
                  clear k1
                  have y0:=box1 HQ1.out 10 _ rfl
                  have y1:=box1 HQ1.out 12 _ rfl
                  go_wp2_with fail
                  clear z0 y0 y1 c0 c1 c2 c3 c4 c5 c6 c7 c8 c9 c10 c11 c12
                  go_loopw [8] (fun i wi=>∃ (m:Nat),m ≤ x1.ns.length ∧ i=.int .i64 m ∧ Hid (x1.ns.all longE=(x1.ns.drop m).all longE) ∧ Hid (Below (wr3.heap.size + 1) (wr3.alloc (.cells #[.string x1.f.t,.int .i64 x1.f.l,.int .i64 x1.f.c,.string x1.t.t,.int .i64 x1.t.l,.int .i64 x1.t.c,.string x1.on.n,.slice oa x1.on.ar.length oc,.int .i64 x1.on.l,.int .i64 x1.on.c,.slice na x1.ns.length nc,.int .i64 x1.g,.slice sa x1.ss.length sc] 43)) wi)) (fun i _=>x1.ns.length - (intOf i).toNat)
                  case atStart=>exact ⟨0,Nat.zero_le _,rfl,Lib.hid rfl,HQ1⟩
                  case round =>
                   obtain ⟨m,hm,rfl,HTi,HQ⟩:=hrel
                   have z0:=box1 HQ.out 10 _ rfl
                   by_cases hm2:m < x1.ns.length
                   case neg =>
                    have HXi:=Lib.hid (all_end HTi.out (by omega))
                    rw [HXi.out] at HF
                    have HE:=Lib.hid (all_step HT.out HX.out HF.out)
                    go_wp2_with fail
                    go_roundw
                    case rel=>exact ⟨n + 1,h,by go_num,HE,HBR.out _ HQ⟩
                    case measure=>simp [intOf] <;> omega
                   case pos =>
                    obtain ⟨x2,hx⟩:=at_some (L:=x1.ns) rfl hm2
                    have HW2:=Lib.hid (HBQ.out _ HQ)
                    obtain ⟨g2,off2,e1,hg2,hc,hok⟩:=(K2.out.belowF HW2.out).flat hx
                    rw [e1] at z0
                    have hsz:x2.v.s.size ≤ 9223372036854775807:=hok.2.1
                    have c6:=hc 6 _ rfl
                    have HXi:=Lib.hid hx
                    clear hc hx e1 hok
                    by_cases he:x2.v.s.size ≤ 100
                    ·have HE:=Lib.hid (all_step HTi.out HXi.out (decide_eq_true he))
                     have he1:¬ 100 < x2.v.s.size:=by omega
                     have t9:decide ((100:Int) < (x2.v.s.size:Int))=false:=decide_eq_false (by omega)
                     go_wp2_with fail
                     go_roundw
                     case rel=>exact ⟨m + 1,hm2,by go_num,HE,HQ⟩
                     case measure=>simp [intOf] <;> omega
                    ·have HE:=Lib.hid (all_hit HTi.out HXi.out (decide_eq_false he))
                     rw [HE.out] at HF
                     have HE2:=Lib.hid (all_hit HT.out HX.out (HF.out.trans (by simp)))
                     rw [HE2.out] at HS
                     have he1:100 < x2.v.s.size:=by omega
                     have t9:decide ((100:Int) < (x2.v.s.size:Int))=true:=decide_eq_true (by omega)
                     go_wp2_with fail
                     go_ret
                     exact ⟨by rw [HS.out]; simp [fewI],HBK.out _ (HBR.out _ HQ)⟩
            case pos =>
             obtain ⟨x1,hx⟩:=at_some (L:=s.al) rfl h
             have HW:=Lib.hid (HBK.out _ HL2)
             obtain ⟨g,off,csx,e1,hg,_,hc,hrx,_⟩:=(G5.out.belowS HW.out).at' n x1 hx
             have HC:=Lib.hid (short_calls x1 _ _ hrx)
             obtain ⟨a1,cx1,rfl,k1,_⟩:=hrx
             have hsz:=k1.small
             rw [e1] at z0
             have c0:wr2.cell? ⟨g,off + n * 4,none⟩=some (.string x1.n):=hc 0 _ rfl
             have c1:wr2.cell? ⟨g,off + n * 4 + 1,none⟩=some (.slice a1 x1.ar.length cx1):=hc 1 _ rfl
             have c2:wr2.cell? ⟨g,off + n * 4 + 2,none⟩=some (.int .i64 x1.l):=hc 2 _ rfl
             have c3:wr2.cell? ⟨g,off + n * 4 + 3,none⟩=some (.int .i64 x1.c):=hc 3 _ rfl
             have HX:=Lib.hid hx
             clear hc hx e1 k1
             cases e:shortB x1
             ·have HE:=Lib.hid (all_hit HT.out HX.out e)
              rw [HE.out] at HS
              rw [e] at HC
              clear e
              go_wp2_with fail
              refine HC.out.mono ?_
              rintro e w1 ⟨rfl,k1⟩
              have HK:=Lib.hid (HL2.out.trans (k1.mono (by have:=HL2.out.size; simp at this; omega)))
              clear k1
              go_wp2_with fail
              go_ret
              exact ⟨by rw [HS.out]; simp [fewI],HBK.out _ HK⟩
             ·have HE:=Lib.hid (all_step HT.out HX.out e)
              rw [e] at HC
              clear e
              go_wp2_with fail
              refine HC.out.mono ?_
              rintro e w1 ⟨rfl,k1⟩
              have HK:=Lib.hid (HL2.out.trans (k1.mono (by have:=HL2.out.size; simp at this; omega)))
              clear k1
              go_wp2_with fail
              go_roundw
              case rel=>exact ⟨n + 1,h,by go_num,HE,HK⟩
              case measure=>simp [intOf] <;> omega
          case pos =>
           obtain ⟨x1,hx⟩:=at_some (L:=s.fs) rfl h
           have HW:=Lib.hid (HBK.out _ HL1)
           obtain ⟨g,off,e1,hg,hc,hok⟩:=(G3.out.belowF HW.out).flat hx
           have hsz:x1.v.s.size ≤ 9223372036854775807:=hok.2.1
           rw [e1] at z0
           have c0:wr1.cell? ⟨g,off + n * 7 + 5,none⟩=some (.string x1.v.s):=hc 5 _ rfl
           have c1:wr1.cell? ⟨g,off + n * 7 + 3 + 2,none⟩=some (.string x1.v.s):=hc 5 _ rfl
           have HX:=Lib.hid hx
           clear hc hx e1 hok
           by_cases he:x1.v.s.size ≤ 100
           ·have HE:=Lib.hid (all_step HT.out HX.out (decide_eq_true he))
            have he1:¬ 100 < x1.v.s.size:=by omega
            have t9:decide ((100:Int) < (x1.v.s.size:Int))=false:=decide_eq_false (by omega)
            go_wp2_with fail
            go_roundw
            case rel=>exact ⟨n + 1,h,by go_num,HE,HL1⟩
            case measure=>simp [intOf] <;> omega
           ·have HE:=Lib.hid (all_hit HT.out HX.out (decide_eq_false he))
            rw [HE.out] at HS
            have he1:100 < x1.v.s.size:=by omega
            have t9:decide ((100:Int) < (x1.v.s.size:Int))=true:=decide_eq_true (by omega)
            go_wp2_with fail
            go_ret
            exact ⟨by rw [HS.out]; simp [fewI],HBK.out _ HL1⟩
        case pos =>
         obtain ⟨x1,hx⟩:=at_some (L:=s.ds) rfl h
         have HW:=Lib.hid (HBK.out _ HL0)
         obtain ⟨g,off,csx,e1,hg,_,hc,⟨a1,cx1,rfl,k1,_⟩,_⟩:=(G1.out.belowD HW.out).at' n x1 hx
         have hsz:=k1.small
         rw [e1] at z0
         have c0:wr0.cell? ⟨g,off + n * 4 + 3,none⟩=some (.slice a1 x1.ks.length cx1):=hc 3 _ rfl
         have HX:=Lib.hid hx
         clear hc hx e1 k1
         by_cases he:x1.ks.length ≤ 12
         ·have HE:=Lib.hid (all_step HT.out HX.out (decide_eq_true he))
          have he1:¬ 12 < x1.ks.length:=by omega
          have t9:decide ((12:Int) < (x1.ks.length:Int))=false:=decide_eq_false (by omega)
          go_wp2_with fail
          go_roundw
          case rel=>exact ⟨n + 1,h,by go_num,HE,HL0⟩
          case measure=>simp [intOf] <;> omega
         ·have HE:=Lib.hid (all_hit HT.out HX.out (decide_eq_false he))
          rw [HE.out] at HS
          have he1:12 < x1.ks.length:=by omega
          have t9:decide ((12:Int) < (x1.ks.length:Int))=true:=decide_eq_true (by omega)
          go_wp2_with fail
          go_ret
          exact ⟨by rw [HS.out]; simp [fewI],HBK.out _ HL0⟩
end Go.Proofs.YtiafhfchjhffhaaGreatDoor
