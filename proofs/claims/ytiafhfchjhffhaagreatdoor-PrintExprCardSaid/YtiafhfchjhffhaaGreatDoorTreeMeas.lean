/- paclaim: TreeMeas -/
import Derived.Test.YtiafhfchjhffhaaGreatDoorLowTrM
import Derived.WalkSmall
import Derived.BigQuiet
import Derived.Maps.AppendAt
namespace Go.Proofs.YtiafhfchjhffhaaGreatDoor
open Go.RowKit
set_option linter.unusedVariables false
theorem infoPt:(Tryz.prog.info? 253).map (fun i=>(i.zero,i.size,i.bytes))=some (some (.agg #[.int .i64 0,.int .i64 0]),2,16):=by kernel_rfl
def cellsP (R:List (Int × Int)):List Value:=R.flatMap fun p=>[.int .i64 p.1,.int .i64 p.2]
theorem cellsP_app (R S:List (Int × Int)):cellsP (R ++ S)=cellsP R ++ cellsP S:=by simp [cellsP]
theorem cellsP_len (R:List (Int × Int)):(cellsP R).length=R.length * 2:=by
 induction R with
 | nil=>rfl
 | cons p R ih=>simp [cellsP] at ih ⊢; omega
theorem cellsP_last (R:List (Int × Int)) (p:Int × Int):(cellsP (R ++ [p]))[R.length * 2]? = some (.int .i64 p.1) ∧ (cellsP (R ++ [p]))[R.length * 2 + 1]? = some (.int .i64 p.2):=by
 rw [cellsP_app,List.getElem?_append_right (by rw [cellsP_len]; exact Nat.le_refl _),List.getElem?_append_right (by rw [cellsP_len]; omega),cellsP_len]
 rw [Nat.sub_self,show R.length * 2 + 1 - R.length * 2=1 by omega]
 exact ⟨rfl,rfl⟩
def deepR (d:Int) (rs:List Int):List (Int × Int):=rs.map (fun r=>(r,d + 1))
theorem push_rev (x:Ex) (d:Int) (R:Stk):(pushT x d R).reverse=R.reverse ++ deepR d (rootsT x):=by
 unfold pushT deepR
 rw [List.reverse_append,List.reverse_reverse]
theorem roots_two (x:Ex):(rootsT x).length ≤ 2:=by
 unfold rootsT
 split
 ·simp
 ·split <;> simp
structure StkOk (l:List Ex) (i:Int) (k:Nat) (R:Stk):Prop where
 len:R.length + k ≤ (i + 1).toNat + 1
 deep:∀ p ∈ R,0 ≤ p.2 ∧ p.2 + k ≤ (i + 1).toNat + 1
 far:(i + 1).toNat ≤ l.length ∨ k=(i + 1).toNat
theorem StkOk.next {l:List Ex} {i:Int} {k:Nat} {p:Int × Int} {R:Stk} (h:StkOk l i (k + 1) (p :: R)) (hk:k < l.length) (x:Ex):StkOk l i k (pushT x p.2 R):=by
 have h2:=roots_two x
 obtain ⟨a,b,c⟩:=h
 have hp:=b p (by simp)
 refine ⟨?_,?_,?_⟩
 ·unfold pushT
  simp only [List.length_append,List.length_reverse,List.length_map,List.length_cons] at a ⊢
  omega
 ·intro q hq
  unfold pushT at hq
  rw [List.mem_append,List.mem_reverse,List.mem_map] at hq
  rcases hq with ⟨r,_,rfl⟩ | hq
  ·simp only; omega
  ·have:=b q (by simp [hq]); omega
 ·omega
theorem cellC {w w':World} {p:Addr} {v:Value} (k:Below w.heap.size w w') (h:w.cell? p=some v):w'.cell? p=some v:=(k.cell (p:=p) (block_lt_of_cell h)).trans h
theorem deep_step {d:Int} {rs:List Int} {m:Nat} {r:Int} (h:rs[m]? = some r):deepR d (rs.take (m + 1))=deepR d (rs.take m) ++ [(r,d + 1)]:=by
 obtain ⟨hm,e⟩:=List.getElem?_eq_some_iff.1 h
 unfold deepR
 rw [List.take_succ_eq_append_getElem hm,e,List.map_append]
 rfl
theorem deep_len (d:Int) (rs:List Int):(deepR d rs).length=rs.length:=by unfold deepR; rw [List.length_map]
theorem row_some {w:World} {B:Nat} {T:TypeId} {k:Nat} {v:Value} {n:Nat} {xs:List Value} (h:w.ownsRow B T k v (n + 1) xs):∃ g c,v=.slice (some ⟨g,0,none⟩) (n + 1) c ∧ B ≤ g ∧ g < w.heap.size ∧ CBlk w g T ∧ n + 1 ≤ c ∧ c ≤ 9223372036854775807:=by
 rcases h.2 with ⟨_,h0⟩ | ⟨g,cap,cur,rfl,h1,hg,hcap,hm,_⟩
 ·omega
 ·exact ⟨g,cap,rfl,h1,(Array.getElem?_eq_some_iff.1 hg).1,⟨cur,_,hg⟩,hcap,by unfold maxLen at hm; omega⟩
theorem mrun_ne {l:List Ex} {k:Nat} {p:Int × Int} {R:Stk} {q:Int} (hq:q=(k:Int) - 1 ∨ (q < 0 ∧ k=0 ∧ p :: R ≠ [])) (hp:p.1 ≠ q) (dep:Int):mrun l k (p :: R) dep=none:=by
 cases k with
 | zero=>rfl
 | succ j=>exact mrun_off (by rcases hq with hq | hq <;> omega) _ _
theorem mrun_neg {l:List Ex} {k:Nat} {p:Int × Int} {R:Stk} {q:Int} (hq:q=(k:Int) - 1 ∨ (q < 0 ∧ k=0 ∧ p :: R ≠ [])) (hn:q < 0) (dep:Int):mrun l k (p :: R) dep=none:=by
 cases k with
 | zero=>rfl
 | succ j=>rcases hq with hq | hq <;> omega
set_option maxHeartbeats 8000000 in
set_option maxRecDepth 100000 in
theorem measure_calls {T:TypeId} {O:Prop} (a:Option Addr) (len cap:Nat) (L:List Ex) (i:Int) (w:World) (h:GIn rEx T O 10 w a len L) (hw:Wds w) (hl:len ≤ 1000000) :
  Calls Tryz.prog 139 #[.slice a len cap,.int .i64 i] w fun e w'=>e=.returned (.tuple #[.int .i64 (measT L i).1,.int .i64 (measT L i).2]) ∧ Below w.heap.size w w':=by
 have H:=Lib.hid h
 have HL:=Lib.hid h.leng
 have HW:=Lib.hid hw
 obtain ⟨i0,hi',hz0,hz1,hz2⟩:=cs_parts infoPt
 have HI:=Lib.hid hi'
 have HZ0:=Lib.hid hz0
 have HZ1:=Lib.hid hz1
 have HZ2:=Lib.hid hz2
 have HM:Hid (∀ r,mrun L (i + 1).toNat [(i,1)] 0=r → measT L i=match r with | none=>(0,0) | some (k,d)=>(i + 1 - (k:Nat),d)):=Lib.hid (fun r hr=>by unfold measT; rw [hr]; cases r <;> rfl)
 generalize measT L i=me at HM ⊢
 clear h hw hi' hz0 hz1 hz2
 go_enter Tryz.func139,Tryz.ntmps139
 go_wp2_with fail
 go_loopw [5,6,7] (fun d v pl wr=>∃ (k:Nat) (R:Stk) (dep q:Int),d=.int .i64 dep ∧ pl=.int .i64 q ∧ Hid (wr.ownsRow w.heap.size 253 2 v R.length (cellsP R.reverse)) ∧ Hid (mrun L (i + 1).toNat [(i,1)] 0=mrun L k R dep) ∧ Hid (StkOk L i k R) ∧ Hid (Below w.heap.size w wr) ∧ Hid (q=(k:Int) - 1 ∨ (q < 0 ∧ k=0 ∧ R ≠ []))) (fun _ _ pl _=>(intOf pl + 1).toNat)
 case atStart =>
  refine ⟨(i + 1).toNat,[(i,1)],0,i,rfl,rfl,Lib.hid ?_,Lib.hid rfl,Lib.hid ⟨by simp; omega,by simp; omega,.inr rfl⟩,Lib.hid ?_,Lib.hid ?_⟩
  ·exact ⟨rfl,.inr ⟨w.heap.size,1,#[.int .i64 i,.int .i64 1],rfl,Nat.le_refl _,heap_alloc_new w _,by simp,by unfold maxLen; omega,rfl,rfl⟩⟩
  ·exact (Below.refl _ _).alloc (Nat.le_refl _) _
  ·by_cases hn:i < 0
   ·exact .inr ⟨hn,by omega,by simp⟩
   ·exact .inl (by omega)
 case round =>
  obtain ⟨k,R,dep,q,rfl,rfl,HO,HR,HS,HB,HQ⟩:=hrel
  obtain ⟨wo,hwo⟩:∃ u,u=wr:=⟨_,rfl⟩
  subst hwo
  cases R with
  | nil =>
   obtain rfl:q=(k:Int) - 1:=by
    rcases HQ.out with h | ⟨_,_,h⟩
    ·exact h
    ·exact absurd rfl h
   have HV:Hid (me=(i + 1 - (k:Int),dep)):=Lib.hid (HM.out _ (HR.out.trans (mrun_nil L k dep)))
   have hi0:0 ≤ i:=by
    refine Int.not_lt.1 (fun hn=>?_)
    have h1:=HR.out.trans (mrun_nil L k dep)
    rw [show (i + 1).toNat=0 by omega,mrun_zero] at h1
    cases h1
   have hb:-9223372036854775808 ≤ i - ((k:Int) - 1) ∧ i - ((k:Int) - 1) ≤ 9223372036854775807:=by
    have h1:=HS.out.far
    have h2:=HS.out.len
    rw [HL.out] at h1
    simp at h2
    omega
   obtain ⟨hb1,hb2⟩:=hb
   obtain ⟨va,vc,rfl⟩:=cs_own HO.out
   go_wp2_with fail
   go_ret2
   exact ⟨by rw [HV.out,show i + 1 - (k:Int)=i - ((k:Int) - 1) by omega]; rfl,HB.out⟩
  | cons p R =>
   obtain ⟨g,vc,rfl,hgb,hgl,hgc,hvc,hvm⟩:=row_some HO.out
   have HG:=Lib.hid (And.intro hgb hgc)
   have hO2:wo.ownsRow w.heap.size 253 2 (.slice (some ⟨g,0,none⟩) (R.length + 1) vc) (R.length + 1) (cellsP R.reverse ++ [.int .i64 p.1,.int .i64 p.2]):=by
    have h:=HO.out
    rw [List.reverse_cons,cellsP_app] at h
    exact h
   have c0:wo.cell? ⟨g,R.length * 2,none⟩=some (.int .i64 p.1):=by
    have h:=(HO.out.cells (g:=g) rfl (R.length * 2) (.int .i64 p.1) (by rw [List.reverse_cons]; have:=(cellsP_last R.reverse p).1; rwa [List.length_reverse] at this))
    rwa [show (⟨g,0,none⟩:Addr).add (R.length * 2)=⟨g,R.length * 2,none⟩ by unfold Addr.add; split <;> simp_all] at h
   have c1:wo.cell? ⟨g,R.length * 2 + 1,none⟩=some (.int .i64 p.2):=by
    have h:=(HO.out.cells (g:=g) rfl (R.length * 2 + 1) (.int .i64 p.2) (by rw [List.reverse_cons]; have:=(cellsP_last R.reverse p).2; rwa [List.length_reverse] at this))
    rwa [show (⟨g,0,none⟩:Addr).add (R.length * 2 + 1)=⟨g,R.length * 2 + 1,none⟩ by unfold Addr.add; split <;> simp_all] at h
   have HP:=Lib.hid (ownsRow_pop (by rw [cellsP_len,List.length_reverse]) hO2)
   have HA:=Lib.hid ((Below.refl wo.heap.size wo).alloc (Nat.le_refl _) (.cells #[.int .i64 p.1,.int .i64 p.2] 253))
   have HBA:=Lib.hid (HB.out.trans (HA.out.mono HB.out.size))
   have HPA:=Lib.hid (HP.out.alloc (.cells #[.int .i64 p.1,.int .i64 p.2] 253))
   clear hO2 hgb hgc
   have i1:R.length ≤ vc:=by omega
   have i2:R.length < vc:=by omega
   have hm:R.length ≤ 9223372036854775806:=by omega
   by_cases hp:p.1=q
   case neg =>
    have HV:Hid (me=(0,0)):=Lib.hid (HM.out none (HR.out.trans (mrun_ne HQ.out hp dep)))
    have t1:(p.1 != q)=true:=by rw [bne_iff_ne]; exact hp
    clear hp
    go_wp2_with fail
    go_ret2
    exact ⟨by rw [HV.out]; rfl,HBA.out⟩
   case pos =>
    have t1:(p.1 != q)=false:=by simp [hp]
    by_cases hn:q < 0
    case pos =>
     have HV:Hid (me=(0,0)):=Lib.hid (HM.out none (HR.out.trans (mrun_neg HQ.out hn dep)))
     have t2:decide (q < 0)=true:=decide_eq_true hn
     clear hp
     go_wp2_with fail
     go_ret2
     exact ⟨by rw [HV.out]; rfl,HBA.out⟩
    case neg =>
     obtain ⟨j,rfl⟩:∃ j,k=j + 1:=⟨k - 1,by rcases HQ.out with h | h <;> omega⟩
     obtain rfl:q=(j:Int):=by rcases HQ.out with h | h <;> omega
     clear hn
     have hp':=Lib.hid hp
     clear hp
     by_cases hlt:j < len
     case neg =>
      have HV:Hid (me=(0,0)):=Lib.hid (HM.out none (HR.out.trans (mrun_out (List.getElem?_eq_none (by rw [HL.out]; omega)) _ _ _)))
      have t3:decide (len ≤ j)=true:=decide_eq_true (by omega)
      go_wp2_with fail
      go_ret2
      exact ⟨by rw [HV.out]; rfl,HBA.out⟩
     case pos =>
      have t3:decide (len ≤ j)=false:=decide_eq_false (by omega)
      obtain ⟨x,hx⟩:=at_some HL.out hlt
      have HX:=Lib.hid hx
      obtain ⟨g1,off,rfl,hg1,hc,hok⟩:=(H.out.belowF HB.out).flat hx
      have d0:wo.cell? ⟨g1,off + j * 10,none⟩=some (.int .i64 x.op):=hc 0 _ rfl
      have d1:wo.cell? ⟨g1,off + j * 10 + 1,none⟩=some (.int .i64 x.a):=hc 1 _ rfl
      have d2:wo.cell? ⟨g1,off + j * 10 + 2,none⟩=some (.int .i64 x.b):=hc 2 _ rfl
      have d3:wo.cell? ⟨g1,off + j * 10 + 3,none⟩=some (.string x.n):=hc 3 _ rfl
      have d4:wo.cell? ⟨g1,off + j * 10 + 4,none⟩=some (.int .i64 x.v.k):=hc 4 _ rfl
      have d5:wo.cell? ⟨g1,off + j * 10 + 5,none⟩=some (.int .i64 x.v.i):=hc 5 _ rfl
      have d6:wo.cell? ⟨g1,off + j * 10 + 6,none⟩=some (.string x.v.s):=hc 6 _ rfl
      have d7:wo.cell? ⟨g1,off + j * 10 + 7,none⟩=some (.bool x.v.b):=hc 7 _ rfl
      have d8:wo.cell? ⟨g1,off + j * 10 + 8,none⟩=some (.int .i64 x.l):=hc 8 _ rfl
      have d9:wo.cell? ⟨g1,off + j * 10 + 9,none⟩=some (.int .i64 x.c):=hc 9 _ rfl
      clear hc hx
      have HN:=Lib.hid (rightNode_calls x _ hok (HW.out.below HBA.out))
      clear hok
      cases ok:okN x
      case false =>
       have HV:Hid (me=(0,0)):=Lib.hid (HM.out none (HR.out.trans (by rw [mrun_at HX.out,ok,if_neg (by simp)])))
       rw [ok] at HN
       clear ok
       go_wp2_with fail
       refine HN.out.mono ?_
       rintro e w1 ⟨rfl,k1⟩
       have HB1:=Lib.hid (HBA.out.trans (k1.mono HBA.out.size))
       clear k1
       go_wp2_with fail
       go_ret2
       exact ⟨by rw [HV.out]; rfl,HB1.out⟩
      case true =>
       have HR2:Hid (mrun L (i + 1).toNat [(i,1)] 0=mrun L j (pushT x p.2 R) (max dep p.2)):=Lib.hid (HR.out.trans (by rw [mrun_at HX.out,ok,if_pos ⟨hp'.out,rfl⟩]))
       have HS2:=Lib.hid (HS.out.next (by rw [HL.out]; exact hlt) x)
       rw [ok] at HN
       clear ok
       go_wp2_with fail
       refine HN.out.mono ?_
       rintro e w1 ⟨rfl,k1⟩
       have K1:=Lib.hid (HA.out.trans (k1.mono HA.out.size))
       have HB1:=Lib.hid (HBA.out.trans (k1.mono HBA.out.size))
       have HP1:=Lib.hid (cs_ownBelow HPA.out k1)
       have b1:w1.cell? ⟨wo.heap.size,1,none⟩=some (.int .i64 p.2):=cellC k1 (by rw [World.cell?_alloc_at (hn:=rfl)]; rfl)
       have hz1:wo.heap.size < w1.heap.size:=by have:=k1.size; simp at this; omega
       have e0:=cellC K1.out d0
       have e1:=cellC K1.out d1
       have e2:=cellC K1.out d2
       have e3:=cellC K1.out d3
       have e4:=cellC K1.out d4
       have e5:=cellC K1.out d5
       have e6:=cellC K1.out d6
       have e7:=cellC K1.out d7
       have e8:=cellC K1.out d8
       have e9:=cellC K1.out d9
       clear k1 d0 d1 d2 d3 d4 d5 d6 d7 d8 d9
       have HRO:=Lib.hid (rootsOf_calls x w1)
       have HRX:Hid ((pushT x p.2 R).reverse=R.reverse ++ deepR p.2 (rootsT x)):=Lib.hid (push_rev x p.2 R)
       have HLX:Hid ((pushT x p.2 R).length=R.length + (rootsT x).length):=Lib.hid (by have:=congrArg List.length HRX.out; simpa [deep_len] using this)
       have hr2:=roots_two x
       have hR:R.length ≤ 1000002:=by
        have h1:=HS.out.len
        have h2:=HS.out.far
        rw [HL.out] at h2
        simp at h1
        omega
       obtain ⟨i5,i6⟩:-9223372036854775808 ≤ p.2 + 1 ∧ p.2 + 1 ≤ 9223372036854775807:=by
        have h1:=HS.out.deep p (by simp)
        have h2:=HS.out.far
        rw [HL.out] at h2
        omega
       generalize rootsT x=rs at HRO HRX HLX hr2
       have HMX:Hid (max dep p.2=if dep < p.2 then p.2 else dep):=Lib.hid (by split <;> omega)
       by_cases hmx:dep < p.2
       case pos =>
        have hmxx:=HMX.out
        rw [if_pos hmx] at hmxx
        have HR3:=HR2.out
        rw [hmxx] at HR3
        have HR3:=Lib.hid HR3
        clear hmxx
        go_wp2_with fail
        clear hmx
        refine HRO.out.mono ?_
        rintro e w2 ⟨⟨ra,rc,rfl,hrs⟩,k2⟩
        have HRs:=Lib.hid hrs
        have hrs2:=hrs.small
        have HB2:=Lib.hid (HB1.out.trans (k2.mono HB1.out.size))
        have HP2:=Lib.hid (cs_ownBelow HP1.out k2)
        have b2:=cellC k2 b1
        have hz2:wo.heap.size < w2.heap.size:=Nat.lt_of_lt_of_le hz1 k2.size
        have HC2:=Lib.hid (And.intro b2 hz2)
        clear k2 hrs b1 b2 hz1 hz2 e0 e1 e2 e3 e4 e5 e6 e7 e8 e9
        go_wp2_with fail
        go_loopw [6,61] (fun v ix wi=>∃ (m:Nat),m ≤ rs.length ∧ ix=.int .i64 m ∧ Hid (wi.ownsRow w.heap.size 253 2 v (R.length + m) (cellsP (R.reverse ++ deepR p.2 (rs.take m)))) ∧ Hid (GIn rInt 3 True 1 wi ra rs.length rs) ∧ Hid (Below w.heap.size w wi) ∧ Hid ((wi.cell? ⟨wo.heap.size,1,none⟩=some (.int .i64 p.2) ∧ wo.heap.size < wi.heap.size) ∧ Value.ownBlock v ≠ some wo.heap.size)) (fun _ ix _=>rs.length - (intOf ix).toNat)
        case atStart=>exact ⟨0,Nat.zero_le _,rfl,Lib.hid (by rw [List.take_zero]; simpa [deepR] using HP2.out),HRs,HB2,Lib.hid ⟨HC2.out,fun h=>by simp [Value.ownBlock] at h; omega⟩⟩
        case round =>
         obtain ⟨m,hm3,rfl,HOi,HGi,HBi,HCi⟩:=hrel
         obtain ⟨va,vd,rfl⟩:=cs_own HOi.out
         by_cases hm4:m < rs.length
         case neg =>
          obtain rfl:m=rs.length:=by omega
          have HOe:=Lib.hid (show wr.ownsRow w.heap.size 253 2 (.slice va (R.length + rs.length) vd) (R.length + rs.length) (cellsP (pushT x p.2 R).reverse) from by have h:=HOi.out; rw [List.take_length,← HRX.out] at h; exact h)
          go_wp2_with fail
          go_roundw
          case rel=>exact ⟨j,pushT x p.2 R,p.2,(j:Int) - 1,by go_num,by go_num,by rw [HLX.out]; exact HOe,HR3,HS2,HBi,Lib.hid (.inl rfl)⟩
          case measure=>simp [intOf] <;> omega
         case pos =>
          obtain ⟨r,hr⟩:=at_some (L:=rs) rfl hm4
          have HDS:=Lib.hid (deep_step (d:=p.2) hr)
          obtain ⟨g2,off2,rfl,hg2,hc2,_⟩:=HGi.out.flat hr
          have f0:wr.cell? ⟨g2,off2 + m,none⟩=some (.int .i64 r):=by have:=hc2 0 _ rfl; rwa [Nat.mul_one,Nat.add_zero] at this
          have b3:=HCi.out.1.1
          have hz3:=HCi.out.1.2
          clear hc2 hr
          go_wp2_with (at_builtin; refine wpList_append_own_at _ rfl _ _ 254 rfl w.heap.size 253 i0 (.agg #[.int .i64 0,.int .i64 0]) 2 16 Tryz.underlying254 HI.out HZ0.out HZ1.out HZ2.out rfl (by decide) _ _ _ rfl (HOi.out.alloc _) ⟨wr.heap.size,0,none⟩ 1 1 [.int .i64 r,.int .i64 (p.2 + 1)] rfl rfl (cell_two_new _ _ _ _) (by simp [Value.oneCell']) (by unfold maxLen; omega) (by omega) (by have:=HBi.out.size; simp; omega) ?_; intro v4 w4 ho4 hg4 _ hat4)
          have HX4:=Lib.hid ((Below.refl wr.heap.size wr).alloc (Nat.le_refl _) (.cells #[.int .i64 r,.int .i64 (p.2 + 1)] 253))
          have HB4:=Lib.hid ((HBi.out.trans (HX4.out.mono HBi.out.size)).grown hg4 (by have:=HBi.out.size; simp; omega) (fun k hk=>(HOi.out.lt k hk).1))
          have HO4:Hid (w4.ownsRow w.heap.size 253 2 v4 (R.length + (m + 1)) (cellsP (R.reverse ++ deepR p.2 (rs.take (m + 1))))):=Lib.hid (by rw [HDS.out,← List.append_assoc,cellsP_app]; exact ho4)
          have HG4:=Lib.hid ((HGi.out.belowF HX4.out).keptF trivial hg4.size (fun gx hx=>hg4.block gx hx.lt (hx.far (HOi.out.alloc _) (by decide))))
          have hc4:w4.cell? ⟨wo.heap.size,1,none⟩=some (.int .i64 p.2):=(World.cell?_of_block (a:=⟨wo.heap.size,1,none⟩) (hg4.block wo.heap.size (by simp; omega) (fun h=>HCi.out.2 h.symm))).trans (cellC HX4.out b3)
          have HC4:Hid ((w4.cell? ⟨wo.heap.size,1,none⟩=some (.int .i64 p.2) ∧ wo.heap.size < w4.heap.size) ∧ v4.ownBlock ≠ some wo.heap.size):=Lib.hid ⟨⟨hc4,by have:=hg4.size; simp at this; omega⟩,fun h=>by
           rcases hat4 with h2 | h2
           ·exact HCi.out.2 (h2.symm.trans h)
           ·have:=h2.symm.trans h
            simp at this
            omega⟩
          clear ho4 hg4 hat4 hc4
          go_wp2_with fail
          go_roundw
          case rel=>exact ⟨m + 1,by omega,by go_num,HO4,HG4,HB4,HC4⟩
          case measure=>simp [intOf] <;> omega
       case neg =>
        have hmxx:=HMX.out
        rw [if_neg hmx] at hmxx
        have HR3:=HR2.out
        rw [hmxx] at HR3
        have HR3:=Lib.hid HR3
        clear hmxx
        have hmy:p.2 ≤ dep:=by omega
        clear hmx
        go_wp2_with fail
        clear hmy
        refine HRO.out.mono ?_
        rintro e w2 ⟨⟨ra,rc,rfl,hrs⟩,k2⟩
        have HRs:=Lib.hid hrs
        have hrs2:=hrs.small
        have HB2:=Lib.hid (HB1.out.trans (k2.mono HB1.out.size))
        have HP2:=Lib.hid (cs_ownBelow HP1.out k2)
        have b2:=cellC k2 b1
        have hz2:wo.heap.size < w2.heap.size:=Nat.lt_of_lt_of_le hz1 k2.size
        have HC2:=Lib.hid (And.intro b2 hz2)
        clear k2 hrs b1 b2 hz1 hz2 e0 e1 e2 e3 e4 e5 e6 e7 e8 e9
        go_wp2_with fail
        go_loopw [6,61] (fun v ix wi=>∃ (m:Nat),m ≤ rs.length ∧ ix=.int .i64 m ∧ Hid (wi.ownsRow w.heap.size 253 2 v (R.length + m) (cellsP (R.reverse ++ deepR p.2 (rs.take m)))) ∧ Hid (GIn rInt 3 True 1 wi ra rs.length rs) ∧ Hid (Below w.heap.size w wi) ∧ Hid ((wi.cell? ⟨wo.heap.size,1,none⟩=some (.int .i64 p.2) ∧ wo.heap.size < wi.heap.size) ∧ Value.ownBlock v ≠ some wo.heap.size)) (fun _ ix _=>rs.length - (intOf ix).toNat)
        case atStart=>exact ⟨0,Nat.zero_le _,rfl,Lib.hid (by rw [List.take_zero]; simpa [deepR] using HP2.out),HRs,HB2,Lib.hid ⟨HC2.out,fun h=>by simp [Value.ownBlock] at h; omega⟩⟩
        case round =>
         obtain ⟨m,hm3,rfl,HOi,HGi,HBi,HCi⟩:=hrel
         obtain ⟨va,vd,rfl⟩:=cs_own HOi.out
         by_cases hm4:m < rs.length
         case neg =>
          obtain rfl:m=rs.length:=by omega
          have HOe:=Lib.hid (show wr.ownsRow w.heap.size 253 2 (.slice va (R.length + rs.length) vd) (R.length + rs.length) (cellsP (pushT x p.2 R).reverse) from by have h:=HOi.out; rw [List.take_length,← HRX.out] at h; exact h)
          go_wp2_with fail
          go_roundw
          case rel=>exact ⟨j,pushT x p.2 R,dep,(j:Int) - 1,by go_num,by go_num,by rw [HLX.out]; exact HOe,HR3,HS2,HBi,Lib.hid (.inl rfl)⟩
          case measure=>simp [intOf] <;> omega
         case pos =>
          obtain ⟨r,hr⟩:=at_some (L:=rs) rfl hm4
          have HDS:=Lib.hid (deep_step (d:=p.2) hr)
          obtain ⟨g2,off2,rfl,hg2,hc2,_⟩:=HGi.out.flat hr
          have f0:wr.cell? ⟨g2,off2 + m,none⟩=some (.int .i64 r):=by have:=hc2 0 _ rfl; rwa [Nat.mul_one,Nat.add_zero] at this
          have b3:=HCi.out.1.1
          have hz3:=HCi.out.1.2
          clear hc2 hr
          go_wp2_with (at_builtin; refine wpList_append_own_at _ rfl _ _ 254 rfl w.heap.size 253 i0 (.agg #[.int .i64 0,.int .i64 0]) 2 16 Tryz.underlying254 HI.out HZ0.out HZ1.out HZ2.out rfl (by decide) _ _ _ rfl (HOi.out.alloc _) ⟨wr.heap.size,0,none⟩ 1 1 [.int .i64 r,.int .i64 (p.2 + 1)] rfl rfl (cell_two_new _ _ _ _) (by simp [Value.oneCell']) (by unfold maxLen; omega) (by omega) (by have:=HBi.out.size; simp; omega) ?_; intro v4 w4 ho4 hg4 _ hat4)
          have HX4:=Lib.hid ((Below.refl wr.heap.size wr).alloc (Nat.le_refl _) (.cells #[.int .i64 r,.int .i64 (p.2 + 1)] 253))
          have HB4:=Lib.hid ((HBi.out.trans (HX4.out.mono HBi.out.size)).grown hg4 (by have:=HBi.out.size; simp; omega) (fun k hk=>(HOi.out.lt k hk).1))
          have HO4:Hid (w4.ownsRow w.heap.size 253 2 v4 (R.length + (m + 1)) (cellsP (R.reverse ++ deepR p.2 (rs.take (m + 1))))):=Lib.hid (by rw [HDS.out,← List.append_assoc,cellsP_app]; exact ho4)
          have HG4:=Lib.hid ((HGi.out.belowF HX4.out).keptF trivial hg4.size (fun gx hx=>hg4.block gx hx.lt (hx.far (HOi.out.alloc _) (by decide))))
          have hc4:w4.cell? ⟨wo.heap.size,1,none⟩=some (.int .i64 p.2):=(World.cell?_of_block (a:=⟨wo.heap.size,1,none⟩) (hg4.block wo.heap.size (by simp; omega) (fun h=>HCi.out.2 h.symm))).trans (cellC HX4.out b3)
          have HC4:Hid ((w4.cell? ⟨wo.heap.size,1,none⟩=some (.int .i64 p.2) ∧ wo.heap.size < w4.heap.size) ∧ v4.ownBlock ≠ some wo.heap.size):=Lib.hid ⟨⟨hc4,by have:=hg4.size; simp at this; omega⟩,fun h=>by
           rcases hat4 with h2 | h2
           ·exact HCi.out.2 (h2.symm.trans h)
           ·have:=h2.symm.trans h
            simp at this
            omega⟩
          clear ho4 hg4 hat4 hc4
          go_wp2_with fail
          go_roundw
          case rel=>exact ⟨m + 1,by omega,by go_num,HO4,HG4,HB4,HC4⟩
          case measure=>simp [intOf] <;> omega
set_option maxHeartbeats 400000 in
theorem treeDepth_calls {T:TypeId} {O:Prop} (a:Option Addr) (len cap:Nat) (L:List Ex) (i:Int) (w:World) (h:GIn rEx T O 10 w a len L) (hw:Wds w) (hl:len ≤ 1000000) :
  Calls Tryz.prog 75 #[.slice a len cap,.int .i64 i] w fun e w'=>e=.returned (.int .i64 (if sizeT L i=0 then 0 else ((depthT L i:Nat):Int))) ∧ Below w.heap.size w w':=by
 have HM:=Lib.hid (measure_calls a len cap L i w h hw hl)
 have HV:=Lib.hid (meas_depth L i)
 clear h hw
 generalize measT L i=me at HM HV
 rw [← HV.out]
 go_enter Tryz.func75,Tryz.ntmps75
 go_wp2_with fail
 refine HM.out.mono ?_
 rintro e w1 ⟨rfl,k1⟩
 go_wp2_with fail
 go_ret
 exact ⟨rfl,k1⟩
end Go.Proofs.YtiafhfchjhffhaaGreatDoor
