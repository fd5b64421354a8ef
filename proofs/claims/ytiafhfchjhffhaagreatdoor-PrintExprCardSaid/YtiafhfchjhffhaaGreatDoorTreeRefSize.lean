/- paclaim: TreeRefSize -/
import Derived.Test.YtiafhfchjhffhaaGreatDoorTreeCb
import Derived.Test.YtiafhfchjhffhaaGreatDoorLowR10
import Derived.Test.YtiafhfchjhffhaaGreatDoorLowVal2
import Derived.Test.YtiafhfchjhffhaaGreatDoorTreeMeas
namespace Go.Proofs.YtiafhfchjhffhaaGreatDoor
open Go.RowKit
set_option linter.unusedVariables false
set_option maxHeartbeats 2000000 in
theorem refSize_out (a:Option Addr) (len cap:Nat) (L:List Ex) (i:Int) (w:World) (hlen:L.length=len) (hsm:len ≤ 1000000) (h:i < 0 ∨ (len:Int) ≤ i) :
  Calls Tryz.prog 19 #[.slice a len cap,.int .i64 i] w fun e w'=>e=.returned (.int .i64 (sizeT L i:Nat)) ∧ Below w.heap.size w w':=by
 have HV:Hid (sizeT L i=0):=Lib.hid (sizeT_out (by rw [hlen]; exact h))
 clear hlen
 by_cases hn:i < 0
 ·have t0:decide (i < 0)=true:=decide_eq_true hn
  clear h
  go_enter Tryz.func19,Tryz.ntmps19
  go_wp2_with fail
  go_ret
  exact ⟨by rw [HV.out]; rfl,Below.refl _ _⟩
 ·obtain ⟨n,rfl⟩:∃ n:Nat,i=n:=⟨i.toNat,by omega⟩
  have t1:decide (len ≤ n)=true:=decide_eq_true (by omega)
  have t2:decide ((len:Int) ≤ (n:Int))=true:=decide_eq_true (by omega)
  clear h hn
  go_enter Tryz.func19,Tryz.ntmps19
  go_wp2_with fail
  go_ret
  exact ⟨by rw [HV.out]; rfl,Below.refl _ _⟩
set_option maxHeartbeats 20000000 in
set_option maxRecDepth 100000 in
theorem refSize_calls {T:TypeId} {O:Prop} (a:Option Addr) (len cap:Nat) (L:List Ex) (w0:World) (h0:GIn rEx T O 10 w0 a len L) (hl:len ≤ 1000000) :
  ∀ (m:Nat) (i:Int),(i + 1).toNat ≤ m → ∀ w,Below w0.heap.size w0 w → Calls Tryz.prog 19 #[.slice a len cap,.int .i64 i] w fun e w'=>e=.returned (.int .i64 (sizeT L i:Nat)) ∧ Below w.heap.size w w':=by
 intro m
 induction m with
 | zero=>exact fun i hi w hb=>refSize_out a len cap L i w h0.leng hl (.inl (by omega))
 | succ m ih =>
  intro i hi w hb
  by_cases hout:i < 0 ∨ (len:Int) ≤ i
  ·exact refSize_out a len cap L i w h0.leng hl hout
  obtain ⟨n,rfl⟩:∃ n:Nat,i=n:=⟨i.toNat,by omega⟩
  have hlt:n < len:=by omega
  obtain ⟨x,hx⟩:=at_some h0.leng hlt
  obtain ⟨g,off,rfl,hg,hc,hok⟩:=(h0.belowF hb).flat hx
  have c0:w.cell? ⟨g,off + n * 10,none⟩=some (.int .i64 x.op):=hc 0 _ rfl
  have c1:w.cell? ⟨g,off + n * 10 + 1,none⟩=some (.int .i64 x.a):=hc 1 _ rfl
  have c2:w.cell? ⟨g,off + n * 10 + 2,none⟩=some (.int .i64 x.b):=hc 2 _ rfl
  have c3:w.cell? ⟨g,off + n * 10 + 3,none⟩=some (.string x.n):=hc 3 _ rfl
  have c4:w.cell? ⟨g,off + n * 10 + 4,none⟩=some (.int .i64 x.v.k):=hc 4 _ rfl
  have c5:w.cell? ⟨g,off + n * 10 + 5,none⟩=some (.int .i64 x.v.i):=hc 5 _ rfl
  have c6:w.cell? ⟨g,off + n * 10 + 6,none⟩=some (.string x.v.s):=hc 6 _ rfl
  have c7:w.cell? ⟨g,off + n * 10 + 7,none⟩=some (.bool x.v.b):=hc 7 _ rfl
  have c8:w.cell? ⟨g,off + n * 10 + 8,none⟩=some (.int .i64 x.l):=hc 8 _ rfl
  have c9:w.cell? ⟨g,off + n * 10 + 9,none⟩=some (.int .i64 x.c):=hc 9 _ rfl
  have hn:x.n.size ≤ 9223372036854775807:=hok.1
  have hs:x.v.s.size ≤ 9223372036854775807:=hok.2.1
  have HB:Hid (Below w.heap.size w ((w.alloc (.cells #[.int .i64 x.op,.int .i64 x.a,.int .i64 x.b,.string x.n,.int .i64 x.v.k,.int .i64 x.v.i,.string x.v.s,.bool x.v.b,.int .i64 x.l,.int .i64 x.c] 58)).alloc (.cells #[.int .i64 0,.int .i64 0,.string ⟨#[]⟩,.bool false] 56))):=Lib.hid (((Below.refl w.heap.size w).alloc (Nat.le_refl _) _).alloc (by simp) _)
  have HK0:Hid (Below (w.heap.size + 2) ((w.alloc (.cells #[.int .i64 x.op,.int .i64 x.a,.int .i64 x.b,.string x.n,.int .i64 x.v.k,.int .i64 x.v.i,.string x.v.s,.bool x.v.b,.int .i64 x.l,.int .i64 x.c] 58)).alloc (.cells #[.int .i64 0,.int .i64 0,.string ⟨#[]⟩,.bool false] 56)) ((w.alloc (.cells #[.int .i64 x.op,.int .i64 x.a,.int .i64 x.b,.string x.n,.int .i64 x.v.k,.int .i64 x.v.i,.string x.v.s,.bool x.v.b,.int .i64 x.l,.int .i64 x.c] 58)).alloc (.cells #[.int .i64 0,.int .i64 0,.string ⟨#[]⟩,.bool false] 56))):=Lib.hid (Below.refl _ _)
  have HBK:Hid (∀ w1,Hid (Below (w.heap.size + 2) ((w.alloc (.cells #[.int .i64 x.op,.int .i64 x.a,.int .i64 x.b,.string x.n,.int .i64 x.v.k,.int .i64 x.v.i,.string x.v.s,.bool x.v.b,.int .i64 x.l,.int .i64 x.c] 58)).alloc (.cells #[.int .i64 0,.int .i64 0,.string ⟨#[]⟩,.bool false] 56)) w1) → Below w.heap.size w w1):=Lib.hid (fun _ h=>HB.out.trans (h.out.mono (Nat.le_add_right _ 2)))
  have HI:Hid (∀ (i:Int),i < n → ∀ w1,Hid (Below (w.heap.size + 2) ((w.alloc (.cells #[.int .i64 x.op,.int .i64 x.a,.int .i64 x.b,.string x.n,.int .i64 x.v.k,.int .i64 x.v.i,.string x.v.s,.bool x.v.b,.int .i64 x.l,.int .i64 x.c] 58)).alloc (.cells #[.int .i64 0,.int .i64 0,.string ⟨#[]⟩,.bool false] 56)) w1) → Calls Tryz.prog 19 #[.slice (some ⟨g,off,none⟩) len cap,.int .i64 i] w1 fun e w'=>e=.returned (.int .i64 (sizeT L i:Nat)) ∧ Below w1.heap.size w1 w'):=Lib.hid (fun i hi2 w1 h1=>ih i (by omega) w1 (hb.trans ((HBK.out _ h1).mono hb.size)))
  have HS:=Lib.hid (sizeT_at hx)
  have HR:=Lib.hid (fun w1=>refVRight_calls x.v.k x.v.i x.v.s x.v.b w1 hs)
  have HR:Hid (∀ w1,Calls Tryz.prog 46 #[.agg #[.int .i64 x.v.k,.int .i64 x.v.i,.string x.v.s,.bool x.v.b]] w1 fun e w'=>e=.returned (.bool (rightV x.v)) ∧ Below w1.heap.size w1 w'):=HR
  have HN:=Lib.hid (fun w1=>refName_calls x.n w1 hn)
  have q1:∀ w,(Op.equalIn 10000 56 (.agg #[.int .i64 x.v.k,.int .i64 x.v.i,.string x.v.s,.bool x.v.b]) (.agg #[.int .i64 0,.int .i64 0,.string ⟨#[]⟩,.bool false])).run Tryz.prog w=.ok (zeroV x.v) w:=fun w=>eqIn x.v.k x.v.i x.v.s x.v.b 0 0 ⟨#[]⟩ false w
  have qg:=guardV
  have hle:=sizeT_le L n
  have i1:decide ((n:Int) < 0)=false:=decide_eq_false (by omega)
  have i2:decide (len ≤ n)=false:=decide_eq_false (by omega)
  have i3:-9223372036854775808 ≤ (n:Int) - 1:=by omega
  have i4:(n:Int) - 1 ≤ 9223372036854775807:=by omega
  clear ih h0 hb hc hx hok hi hout
  by_cases h1:x.op=1
  case pos =>
   have t1:(x.op == 1)=true:=by simp [h1]
   have HS1:=HS.out
   rw [if_pos h1] at HS1
   replace HS1:=Lib.hid HS1
   clear h1 HS
   by_cases ha:x.a=0
   case neg =>
    have ta:(x.a != 0)=true:=by rw [bne_iff_ne]; exact ha
    have HV:Hid (sizeT L n=0):=Lib.hid (by rw [HS1.out,if_neg (fun h=>ha h.1)])
    go_enter Tryz.func19,Tryz.ntmps19
    go_wp2_with fail
    go_ret
    exact ⟨by first | (rw [HV.out]; rfl) | rfl,HBK.out _ HK0⟩
   have ta:(x.a != 0)=false:=by simp [ha]
   have Ha_:=Lib.hid ha
   clear ha
   by_cases hb:x.b=0
   case neg =>
    have tb:(x.b != 0)=true:=by rw [bne_iff_ne]; exact hb
    have HV:Hid (sizeT L n=0):=Lib.hid (by rw [HS1.out,if_neg (fun h=>hb h.2.1)])
    go_enter Tryz.func19,Tryz.ntmps19
    go_wp2_with fail
    go_ret
    exact ⟨by first | (rw [HV.out]; rfl) | rfl,HBK.out _ HK0⟩
   have tb:(x.b != 0)=false:=by simp [hb]
   have Hb_:=Lib.hid hb
   clear hb
   cases en:emptyB x.n
   case false =>
    have tn:x.n.toList.isEmpty=false:=en
    have HV:Hid (sizeT L n=0):=Lib.hid (by rw [HS1.out,en,if_neg (by simp)])
    go_enter Tryz.func19,Tryz.ntmps19
    go_wp2_with fail
    go_ret
    exact ⟨by first | (rw [HV.out]; rfl) | rfl,HBK.out _ HK0⟩
   have tn:x.n.toList.isEmpty=true:=en
   cases er:rightV x.v
   case false =>
    rw [er] at HR
    have HV:Hid (sizeT L n=0):=Lib.hid (by rw [HS1.out,er,if_neg (by simp)])
    go_enter Tryz.func19,Tryz.ntmps19
    go_wp2_with fail
    refine (HR.out _).mono ?_
    rintro e w1 ⟨rfl,k1⟩
    have HK1:=Lib.hid (below2_step HK0.out (by simp) k1)
    clear k1
    go_wp2_with fail
    go_ret
    exact ⟨by first | (rw [HV.out]; rfl) | rfl,HBK.out _ HK1⟩
   rw [er] at HR
   have HV:Hid (sizeT L n=1):=Lib.hid (by rw [HS1.out,en,er,if_pos ⟨Ha_.out,Hb_.out,rfl,rfl⟩])
   go_enter Tryz.func19,Tryz.ntmps19
   go_wp2_with fail
   refine (HR.out _).mono ?_
   rintro e w1 ⟨rfl,k1⟩
   have HK1:=Lib.hid (below2_step HK0.out (by simp) k1)
   clear k1
   go_wp2_with fail
   go_ret
   exact ⟨by first | (rw [HV.out]; rfl) | rfl,HBK.out _ HK1⟩
  have t1:(x.op == 1)=false:=by simpa using h1
  by_cases h17:x.op=17
  case pos =>
   have t2:(x.op == 17)=true:=by simp [h17]
   have HS1:=HS.out
   rw [if_neg h1,if_pos h17] at HS1
   replace HS1:=Lib.hid HS1
   clear h1 h17 HS
   by_cases ha:x.a=0
   case neg =>
    have ta:(x.a != 0)=true:=by rw [bne_iff_ne]; exact ha
    have HV:Hid (sizeT L n=0):=Lib.hid (by rw [HS1.out,if_neg (fun h=>ha h.1)])
    go_enter Tryz.func19,Tryz.ntmps19
    go_wp2_with fail
    go_ret
    exact ⟨by first | (rw [HV.out]; rfl) | rfl,HBK.out _ HK0⟩
   have ta:(x.a != 0)=false:=by simp [ha]
   have Ha_:=Lib.hid ha
   clear ha
   by_cases hb:x.b=0
   case neg =>
    have tb:(x.b != 0)=true:=by rw [bne_iff_ne]; exact hb
    have HV:Hid (sizeT L n=0):=Lib.hid (by rw [HS1.out,if_neg (fun h=>hb h.2.1)])
    go_enter Tryz.func19,Tryz.ntmps19
    go_wp2_with fail
    go_ret
    exact ⟨by first | (rw [HV.out]; rfl) | rfl,HBK.out _ HK0⟩
   have tb:(x.b != 0)=false:=by simp [hb]
   have Hb_:=Lib.hid hb
   clear hb
   cases em:nameB x.n
   case false =>
    rw [em] at HN
    have HV:Hid (sizeT L n=0):=Lib.hid (by rw [HS1.out,em,if_neg (by simp)])
    go_enter Tryz.func19,Tryz.ntmps19
    go_wp2_with fail
    refine (HN.out _).mono ?_
    rintro e w1 ⟨rfl,k1⟩
    have HK1:=Lib.hid (below2_step HK0.out (by simp) k1)
    clear k1
    go_wp2_with fail
    go_ret
    exact ⟨by first | (rw [HV.out]; rfl) | rfl,HBK.out _ HK1⟩
   rw [em] at HN
   cases ez:zeroV x.v
   case false =>
    rw [ez] at q1
    have HV:Hid (sizeT L n=0):=Lib.hid (by rw [HS1.out,em,ez,if_neg (by simp)])
    go_enter Tryz.func19,Tryz.ntmps19
    go_wp2_with fail
    refine (HN.out _).mono ?_
    rintro e w1 ⟨rfl,k1⟩
    have HK1:=Lib.hid (below2_step HK0.out (by simp) k1)
    clear k1
    have z0_1_4:=(box2 HK1.out).1 4 _ rfl
    have z0_1_5:=(box2 HK1.out).1 5 _ rfl
    have z0_1_6:=(box2 HK1.out).1 6 _ rfl
    have z0_1_7:=(box2 HK1.out).1 7 _ rfl
    have z0_2_0:=(box2 HK1.out).2 0 _ rfl
    have z0_2_1:=(box2 HK1.out).2 1 _ rfl
    have z0_2_2:=(box2 HK1.out).2 2 _ rfl
    have z0_2_3:=(box2 HK1.out).2 3 _ rfl
    go_wp2_with fail
    go_ret
    exact ⟨by first | (rw [HV.out]; rfl) | rfl,HBK.out _ HK1⟩
   rw [ez] at q1
   have HV:Hid (sizeT L n=1):=Lib.hid (by rw [HS1.out,em,ez,if_pos ⟨Ha_.out,Hb_.out,rfl,rfl⟩])
   go_enter Tryz.func19,Tryz.ntmps19
   go_wp2_with fail
   refine (HN.out _).mono ?_
   rintro e w1 ⟨rfl,k1⟩
   have HK1:=Lib.hid (below2_step HK0.out (by simp) k1)
   clear k1
   have z0_1_4:=(box2 HK1.out).1 4 _ rfl
   have z0_1_5:=(box2 HK1.out).1 5 _ rfl
   have z0_1_6:=(box2 HK1.out).1 6 _ rfl
   have z0_1_7:=(box2 HK1.out).1 7 _ rfl
   have z0_2_0:=(box2 HK1.out).2 0 _ rfl
   have z0_2_1:=(box2 HK1.out).2 1 _ rfl
   have z0_2_2:=(box2 HK1.out).2 2 _ rfl
   have z0_2_3:=(box2 HK1.out).2 3 _ rfl
   go_wp2_with fail
   go_ret
   exact ⟨by first | (rw [HV.out]; rfl) | rfl,HBK.out _ HK1⟩
  have t2:(x.op == 17)=false:=by simpa using h17
  have HS1:=HS.out
  rw [if_neg h1,if_neg h17] at HS1
  replace HS1:=Lib.hid HS1
  clear h1 h17 HS
  by_cases h4:x.op < 4
  case pos =>
   have t4:decide (x.op < 4)=true:=decide_eq_true h4
   have HV:Hid (sizeT L n=0):=Lib.hid (by rw [HS1.out,if_pos (.inl h4)])
   go_enter Tryz.func19,Tryz.ntmps19
   go_wp2_with fail
   go_ret
   exact ⟨by first | (rw [HV.out]; rfl) | rfl,HBK.out _ HK0⟩
  have t4:decide (x.op < 4)=false:=decide_eq_false h4
  by_cases h16:16 < x.op
  case pos =>
   have t16:decide (16 < x.op)=true:=decide_eq_true h16
   have HV:Hid (sizeT L n=0):=Lib.hid (by rw [HS1.out,if_pos (.inr (.inl h16))])
   go_enter Tryz.func19,Tryz.ntmps19
   go_wp2_with fail
   go_ret
   exact ⟨by first | (rw [HV.out]; rfl) | rfl,HBK.out _ HK0⟩
  have t16:decide (16 < x.op)=false:=decide_eq_false h16
  cases en:emptyB x.n
  case false =>
   have tn:x.n.toList.isEmpty=false:=en
   have HV:Hid (sizeT L n=0):=Lib.hid (by rw [HS1.out,en,if_pos (by simp)])
   go_enter Tryz.func19,Tryz.ntmps19
   go_wp2_with fail
   go_ret
   exact ⟨by first | (rw [HV.out]; rfl) | rfl,HBK.out _ HK0⟩
  have tn:x.n.toList.isEmpty=true:=en
  cases ez:zeroV x.v
  case false =>
   rw [ez] at q1
   have HV:Hid (sizeT L n=0):=Lib.hid (by rw [HS1.out,ez,if_pos (by simp)])
   go_enter Tryz.func19,Tryz.ntmps19
   go_wp2_with fail
   go_ret
   exact ⟨by first | (rw [HV.out]; rfl) | rfl,HBK.out _ HK0⟩
  rw [ez] at q1
  have HS2:=HS1.out
  rw [en,ez,if_neg (by simp; omega)] at HS2
  replace HS2:=Lib.hid HS2
  clear HS1
  have HI1:=Lib.hid (fun w1 h1=>HI.out ((n:Int) - 1) (by omega) w1 h1)
  have hj1:(sizeT L ((n:Int) - 1):Int) ≤ n:=by
   cases n with
   | zero=>rw [sizeT_out (.inl (by omega))]; omega
   | succ j=>have:=sizeT_le L j; rw [show (((j + 1:Nat):Int) - 1)=(j:Int) by omega]; omega
  by_cases h5:x.op ≤ 5
  case pos =>
   have t5:decide (x.op ≤ 5)=true:=decide_eq_true h5
   have HS3:=HS2.out
   rw [if_pos h5] at HS3
   replace HS3:=Lib.hid HS3
   clear HS2 h5
   by_cases ha:x.a=(n:Int) - 1
   case neg =>
    have ta:(x.a != (n:Int) - 1)=true:=by rw [bne_iff_ne]; exact ha
    have HV:Hid (sizeT L n=0):=Lib.hid (by rw [HS3.out,if_neg (fun h=>ha h.1)])
    go_enter Tryz.func19,Tryz.ntmps19
    go_wp2_with fail
    go_ret
    exact ⟨by first | (rw [HV.out]; rfl) | rfl,HBK.out _ HK0⟩
   have ta:(x.a != (n:Int) - 1)=false:=by simp [ha]
   have Ha_:=Lib.hid ha
   clear ha
   by_cases hb:x.b=0
   case neg =>
    have tb:(x.b != 0)=true:=by rw [bne_iff_ne]; exact hb
    have HV:Hid (sizeT L n=0):=Lib.hid (by rw [HS3.out,if_neg (fun h=>hb h.2.1)])
    go_enter Tryz.func19,Tryz.ntmps19
    go_wp2_with fail
    go_ret
    exact ⟨by first | (rw [HV.out]; rfl) | rfl,HBK.out _ HK0⟩
   have tb:(x.b != 0)=false:=by simp [hb]
   have Hb_:=Lib.hid hb
   clear hb
   generalize sizeT L ((n:Int) - 1)=u at HI1 HS3 hj1
   by_cases hu:u=0
   case pos =>
    subst hu
    have HV:Hid (sizeT L n=0):=Lib.hid (by rw [HS3.out,if_neg (fun h=>h.2.2 rfl)])
    go_enter Tryz.func19,Tryz.ntmps19
    go_wp2_with fail
    refine (HI1.out _ HK0).mono ?_
    rintro e w1 ⟨rfl,k1⟩
    have HK1:=Lib.hid (below2_step HK0.out (by simp) k1)
    clear k1
    go_wp2_with fail
    go_ret
    exact ⟨by first | (rw [HV.out]; rfl) | rfl,HBK.out _ HK1⟩
   have tu:((u:Int) == 0)=false:=by rw [beq_eq_false_iff_ne]; omega
   have hu0:¬ (u=0):=hu
   have HV:Hid (sizeT L n=u + 1):=Lib.hid (by rw [HS3.out,if_pos ⟨Ha_.out,Hb_.out,hu⟩])
   go_enter Tryz.func19,Tryz.ntmps19
   go_wp2_with fail
   refine (HI1.out _ HK0).mono ?_
   rintro e w1 ⟨rfl,k1⟩
   have HK1:=Lib.hid (below2_step HK0.out (by simp) k1)
   clear k1
   go_wp2_with fail
   go_ret
   exact ⟨by first | (rw [HV.out]; rfl) | rfl,HBK.out _ HK1⟩
  have t5:decide (x.op ≤ 5)=false:=decide_eq_false h5
  have HS3:=HS2.out
  rw [if_neg h5] at HS3
  replace HS3:=Lib.hid HS3
  clear HS2 h5
  have HI2:=Lib.hid (fun w1 h1=>HI.out ((n:Int) - 1 - (sizeT L ((n:Int) - 1):Nat)) (by omega) w1 h1)
  have hj2:(sizeT L ((n:Int) - 1 - (sizeT L ((n:Int) - 1):Nat)):Int) ≤ n:=by
   by_cases hneg:(n:Int) - 1 - (sizeT L ((n:Int) - 1):Nat) < 0
   ·rw [sizeT_out (.inl hneg)]; omega
   ·have h3:=sizeT_le L ((n:Int) - 1 - (sizeT L ((n:Int) - 1):Nat)).toNat
    rw [show ((((n:Int) - 1 - (sizeT L ((n:Int) - 1):Nat)).toNat:Nat):Int)=(n:Int) - 1 - (sizeT L ((n:Int) - 1):Nat) by omega] at h3
    omega
  have HS4:Hid (∀ u,u=sizeT L ((n:Int) - 1) → sizeT L n=if u ≠ 0 ∧ x.b=(n:Int) - 1 ∧ x.a=(n:Int) - 1 - (u:Nat) ∧ sizeT L ((n:Int) - 1 - (u:Nat)) ≠ 0 then sizeT L ((n:Int) - 1 - (u:Nat)) + u + 1 else 0):=Lib.hid (fun u hu=>by subst hu; exact HS3.out)
  obtain ⟨u,hu⟩:∃ u,u=sizeT L ((n:Int) - 1):=⟨_,rfl⟩
  have HS5:=Lib.hid (HS4.out u hu)
  rw [← hu] at HI1 HI2 hj1 hj2
  clear hu HS4 HS3
  by_cases hu:u=0
  case pos =>
   subst hu
   have HV:Hid (sizeT L n=0):=Lib.hid (by rw [HS5.out,if_neg (fun h=>h.1 rfl)])
   go_enter Tryz.func19,Tryz.ntmps19
   go_wp2_with fail
   refine (HI1.out _ HK0).mono ?_
   rintro e w1 ⟨rfl,k1⟩
   have HK1:=Lib.hid (below2_step HK0.out (by simp) k1)
   clear k1
   go_wp2_with fail
   go_ret
   exact ⟨by first | (rw [HV.out]; rfl) | rfl,HBK.out _ HK1⟩
  have tu:((u:Int) == 0)=false:=by rw [beq_eq_false_iff_ne]; omega
  have hu0:¬ (u=0):=hu
  have i5:-9223372036854775808 ≤ (n:Int) - 1 - (u:Int):=by omega
  have i6:(n:Int) - 1 - (u:Int) ≤ 9223372036854775807:=by omega
  by_cases hb:x.b=(n:Int) - 1
  case neg =>
   have tb:(x.b != (n:Int) - 1)=true:=by rw [bne_iff_ne]; exact hb
   have HV:Hid (sizeT L n=0):=Lib.hid (by rw [HS5.out,if_neg (fun h=>hb h.2.1)])
   go_enter Tryz.func19,Tryz.ntmps19
   go_wp2_with fail
   refine (HI1.out _ HK0).mono ?_
   rintro e w1 ⟨rfl,k1⟩
   have HK1:=Lib.hid (below2_step HK0.out (by simp) k1)
   clear k1
   have z0_1_2:=(box2 HK1.out).1 2 _ rfl
   go_wp2_with fail
   go_ret
   exact ⟨by first | (rw [HV.out]; rfl) | rfl,HBK.out _ HK1⟩
  have tb:(x.b != (n:Int) - 1)=false:=by simp [hb]
  have Hb_:=Lib.hid hb
  clear hb
  by_cases ha:x.a=(n:Int) - 1 - (u:Nat)
  case neg =>
   have ta:(x.a != (n:Int) - 1 - (u:Int))=true:=by rw [bne_iff_ne]; exact ha
   have HV:Hid (sizeT L n=0):=Lib.hid (by rw [HS5.out,if_neg (fun h=>ha h.2.2.1)])
   go_enter Tryz.func19,Tryz.ntmps19
   go_wp2_with fail
   refine (HI1.out _ HK0).mono ?_
   rintro e w1 ⟨rfl,k1⟩
   have HK1:=Lib.hid (below2_step HK0.out (by simp) k1)
   clear k1
   have z0_1_1:=(box2 HK1.out).1 1 _ rfl
   have z0_1_2:=(box2 HK1.out).1 2 _ rfl
   go_wp2_with fail
   go_ret
   exact ⟨by first | (rw [HV.out]; rfl) | rfl,HBK.out _ HK1⟩
  have ta:(x.a != (n:Int) - 1 - (u:Int))=false:=by simp [ha]
  have Ha_:=Lib.hid ha
  clear ha
  generalize sizeT L ((n:Int) - 1 - (u:Nat))=v at HI2 HS5 hj2
  by_cases hv:v=0
  case pos =>
   subst hv
   have HV:Hid (sizeT L n=0):=Lib.hid (by rw [HS5.out,if_neg (fun h=>h.2.2.2 rfl)])
   go_enter Tryz.func19,Tryz.ntmps19
   go_wp2_with fail
   refine (HI1.out _ HK0).mono ?_
   rintro e w1 ⟨rfl,k1⟩
   have HK1:=Lib.hid (below2_step HK0.out (by simp) k1)
   clear k1
   have z0_1_1:=(box2 HK1.out).1 1 _ rfl
   have z0_1_2:=(box2 HK1.out).1 2 _ rfl
   go_wp2_with fail
   refine (HI2.out _ HK1).mono ?_
   rintro e w2 ⟨rfl,k2⟩
   have HK2:=Lib.hid (below2_step HK1.out (by simp) k2)
   clear k2
   go_wp2_with fail
   go_ret
   exact ⟨by first | (rw [HV.out]; rfl) | rfl,HBK.out _ HK2⟩
  have tv:((v:Int) == 0)=false:=by rw [beq_eq_false_iff_ne]; omega
  have hv0:¬ (v=0):=hv
  have i7:(v:Int) + (u:Int) + 1 ≤ 9223372036854775807:=by omega
  have HV:Hid (sizeT L n=v + u + 1):=Lib.hid (by rw [HS5.out,if_pos ⟨hu,Hb_.out,Ha_.out,hv⟩])
  go_enter Tryz.func19,Tryz.ntmps19
  go_wp2_with fail
  refine (HI1.out _ HK0).mono ?_
  rintro e w1 ⟨rfl,k1⟩
  have HK1:=Lib.hid (below2_step HK0.out (by simp) k1)
  clear k1
  have z0_1_1:=(box2 HK1.out).1 1 _ rfl
  have z0_1_2:=(box2 HK1.out).1 2 _ rfl
  go_wp2_with fail
  refine (HI2.out _ HK1).mono ?_
  rintro e w2 ⟨rfl,k2⟩
  have HK2:=Lib.hid (below2_step HK1.out (by simp) k2)
  clear k2
  go_wp2_with fail
  go_ret
  exact ⟨by first | (rw [HV.out]; rfl) | rfl,HBK.out _ HK2⟩
end Go.Proofs.YtiafhfchjhffhaaGreatDoor
