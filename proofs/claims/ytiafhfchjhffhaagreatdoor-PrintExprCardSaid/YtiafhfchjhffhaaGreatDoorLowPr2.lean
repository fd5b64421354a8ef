/- paclaim: PrBld PrLevel PrPart PrWrite -/
import Derived.Test.YtiafhfchjhffhaaGreatDoorLowQuo
import Derived.Test.YtiafhfchjhffhaaGreatDoorShelfWrite
import Derived.Test.YtiafhfchjhffhaaGreatDoorLowPr1
import Derived.Lib.OthersKept
import Derived.IntWalk
import Derived.Test.YtiafhfchjhffhaaGreatDoorLowMem
import Derived.Laws.Concat
import Derived.Deep.Cut
import Derived.Test.YtiafhfchjhffhaaGreatDoorLowVal2
import Derived.Test.YtiafhfchjhffhaaGreatDoorTreeMeas
namespace Go.Proofs.YtiafhfchjhffhaaGreatDoor
open Go.RowKit
set_option linter.unusedVariables false
theorem pr_size (s:ByteArray):s.size=s.data.toList.length:=by rw [Array.length_toList]; rfl
def toksL:List (List UInt8):=[[],[],[],[],[110,111,116],[45],[97,110,100],[111,114],[43],[45],[42],[47],[37],[61,61],[33,61],[60],[60,61]]
def toksV:Array Value:=#[.string ⟨#[]⟩,.string ⟨#[]⟩,.string ⟨#[]⟩,.string ⟨#[]⟩,.string ⟨#[110,111,116]⟩,.string ⟨#[45]⟩,.string ⟨#[97,110,100]⟩,.string ⟨#[111,114]⟩,.string ⟨#[43]⟩,.string ⟨#[45]⟩,.string ⟨#[42]⟩,.string ⟨#[47]⟩,.string ⟨#[37]⟩,.string ⟨#[61,61]⟩,.string ⟨#[33,61]⟩,.string ⟨#[60]⟩,.string ⟨#[60,61]⟩]
def Toks (w:World):Prop:=∃ t fr,w.heap[0]? = some (.cells toksV t fr)
theorem gToks : Tryz.prog.globalNamed "proctor/print.tokens" = some 0 := by kernel_rfl
theorem toks_of_var {w : World} (h : w.var? Tryz.prog "proctor/print.tokens" = some toksV) : Toks w := by
 unfold World.var? at h
 rw [gToks] at h
 simp only [Option.bind_some] at h
 split at h
 ·rename_i cs t fr e
  obtain rfl:=Option.some.inj h
  exact ⟨t,fr,e⟩
 ·cases h
theorem Toks.lt {w:World} (h:Toks w):0 < w.heap.size:=by
 obtain ⟨t,fr,e⟩:=h
 exact (Array.getElem?_eq_some_iff.1 e).1
theorem Toks.below {w w':World} (h:Toks w) (hb:Below w.heap.size w w'):Toks w':=by
 have hl:=h.lt
 obtain ⟨t,fr,e⟩:=h
 exact ⟨t,fr,(hb.block _ hl).trans e⟩
theorem Toks.belowB {B:Nat} {w w':World} (h:Toks w) (hB:0 < B) (hb:Below B w w'):Toks w':=by
 obtain ⟨t,fr,e⟩:=h
 exact ⟨t,fr,(hb.block _ hB).trans e⟩
def tokA (n:Nat):ByteArray:=⟨(toksL.getD n []).toArray⟩
theorem toks_at:∀ n,n < 17 → toksV[n]? = some (.string (tokA n))
 | 0,_=>rfl
 | 1,_=>rfl
 | 2,_=>rfl
 | 3,_=>rfl
 | 4,_=>rfl
 | 5,_=>rfl
 | 6,_=>rfl
 | 7,_=>rfl
 | 8,_=>rfl
 | 9,_=>rfl
 | 10,_=>rfl
 | 11,_=>rfl
 | 12,_=>rfl
 | 13,_=>rfl
 | 14,_=>rfl
 | 15,_=>rfl
 | 16,_=>rfl
 | n + 17,h=>by omega
theorem Toks.cell {w:World} (h:Toks w):∀ n,n < 17 → w.cell? ⟨0,n,none⟩=some (.string (tokA n)):=by
 obtain ⟨t,fr,e⟩:=h
 intro n hn
 rw [cell_of_row w _ n _ _ _ e]
 exact toks_at n hn
theorem tokA_sign:∀ n:Nat,6 ≤ n → n ≤ 16 → (tokA n).data.toList=(signT (n:Int)).2:=by
 have:∀ n:Fin 17,6 ≤ n.val → (tokA n.val).data.toList=(signT (n.val:Int)).2:=by decide
 exact fun n h1 h2=>this ⟨n,by omega⟩ h1
theorem tokA_size (n:Nat):(tokA n).size ≤ 3:=by
 have:∀ n:Fin 17,(tokA n.val).size ≤ 3:=by decide
 by_cases h:n < 17
 ·exact this ⟨n,h⟩
 ·unfold tokA
  rw [List.getD,List.getElem?_eq_none (by show 17 ≤ n; omega)]
  decide
def WrP (B b:Nat) (l:List UInt8) (w:World) (e:Ending) (w':World):Prop:=e=.returned (.tuple #[]) ∧ MayB B b l w' ∧ Below B w w' ∧ Lib.OthersKept 5 (some b) w w'
theorem kept_below {b:Nat} {w w':World} (h:Below w.heap.size w w'):Lib.OthersKept 5 (some b) w w':=fun k o hk _ _=>(h.block k (Array.getElem?_eq_some_iff.1 hk).1).trans hk
theorem kept_obj {b g:Nat} {w w':World} {A:Array Value} {T:TypeId} {f:Nat × Nat} (h:Lib.OthersKept 5 (some b) w w') (hg:w.heap[g]? = some (.cells A T f)) (hb:g ≠ b) (hT:T ≠ 5):w'.heap[g]? = some (.cells A T f) :=
 h g _ hg (fun e=>hb (Option.some.inj e)) (fun c fz e=>by simp only [Obj.cells.injEq] at e; exact hT e.2.1)
theorem prWrite_calls (B b:Nat) (l:List UInt8) (s:ByteArray) (w:World) (h:MayB B b l w) (hlen:l.length + s.size ≤ 140737488355328) (hBw:B ≤ w.heap.size) :
  Calls Tryz.prog 26 #[.pointer (some ⟨b,0,none⟩),.string s] w fun e w'=>e=.returned (.tuple #[.int .i64 s.size,.nilIface]) ∧ MayB B b (l ++ s.data.toList) w' ∧ Below B w w' ∧ Lib.OthersKept 5 (some b) w w':=by
 refine (Tryz.Builder_WriteString_k B b (Lib.byteCells l) s w h (by rw [Lib.byteCells_length]; exact hlen) hBw).mono ?_
 rintro e w' ⟨rfl,h1,h2,h3⟩
 refine ⟨rfl,.inr ?_,h2,h3⟩
 rw [show Lib.byteCells (l ++ s.data.toList)=Lib.byteCells l ++ Lib.strCells s by simp [Lib.byteCells,Lib.strCells]]
 exact h1
theorem prByte_calls (B b:Nat) (l:List UInt8) (c:UInt8) (w:World) (h:MayB B b l w) (hlen:l.length + 1 ≤ 140737488355328) (hBw:B ≤ w.heap.size) :
  Calls Tryz.prog 173 #[.pointer (some ⟨b,0,none⟩),.int .u8 c.toNat] w fun e w'=>e=.returned .nilIface ∧ MayB B b (l ++ [c]) w' ∧ Below B w w' ∧ Lib.OthersKept 5 (some b) w w':=by
 refine (Tryz.Builder_WriteByte_k B b (Lib.byteCells l) c.toNat w h (by rw [Lib.byteCells_length]; exact hlen) hBw).mono ?_
 rintro e w' ⟨rfl,h1,h2,h3⟩
 rw [cells_snoc] at h1
 exact ⟨rfl,.inr h1,h2,h3⟩
def lvL (op:Int):Nat:=if op=1 ∨ (4 ≤ op ∧ op ≤ 17) then lvO op else 0
set_option maxHeartbeats 2000000 in
theorem level_calls (op:Int) (w:World):Calls Tryz.prog 22 #[.int .i64 op] w fun e w'=>e=.returned (.int .i64 (lvL op:Nat)) ∧ w=w':=by
 by_cases h:op=1 ∨ (4 ≤ op ∧ op ≤ 17)
 ·have h2:op=1 ∨ op=4 ∨ op=5 ∨ op=6 ∨ op=7 ∨ op=8 ∨ op=9 ∨ op=10 ∨ op=11 ∨ op=12 ∨ op=13 ∨ op=14 ∨ op=15 ∨ op=16 ∨ op=17:=by omega
  clear h
  rcases h2 with rfl | rfl | rfl | rfl | rfl | rfl | rfl | rfl | rfl | rfl | rfl | rfl | rfl | rfl | rfl
  all_goals
   go_enter Tryz.func22,Tryz.ntmps22
   go_wp2_with fail
   go_ret
   exact ⟨rfl,rfl⟩
 ·have HV:Hid (lvL op=0):=Lib.hid (if_neg h)
  have t:∀ k:Int,k=1 ∨ (4 ≤ k ∧ k ≤ 17) → (op == k)=false:=fun k hk=>by rw [beq_eq_false_iff_ne]; omega
  have t1:=t 1 (by omega)
  have t2:=t 17 (by omega)
  have t3:=t 5 (by omega)
  have t4:=t 10 (by omega)
  have t5:=t 11 (by omega)
  have t6:=t 12 (by omega)
  have t7:=t 8 (by omega)
  have t8:=t 9 (by omega)
  have t9:=t 13 (by omega)
  have t10:=t 14 (by omega)
  have t11:=t 15 (by omega)
  have t12:=t 16 (by omega)
  have t13:=t 4 (by omega)
  have t14:=t 6 (by omega)
  have t15:=t 7 (by omega)
  clear t h
  go_enter Tryz.func22,Tryz.ntmps22
  go_wp2_with fail
  go_ret
  exact ⟨by rw [HV.out]; rfl,rfl⟩
abbrev exA (x:Ex):Array Value:=#[.int .i64 x.op,.int .i64 x.a,.int .i64 x.b,.string x.n,.int .i64 x.v.k,.int .i64 x.v.i,.string x.v.s,.bool x.v.b,.int .i64 x.l,.int .i64 x.c]
theorem ex_box {W:World} {q:Nat} {x:Ex} {T:TypeId} {f:Nat × Nat} (h:W.heap[q]? = some (.cells (exA x) T f)):W.cell? ⟨q,0,none⟩=some (.int .i64 x.op) ∧ W.cell? ⟨q,1,none⟩=some (.int .i64 x.a) ∧ W.cell? ⟨q,2,none⟩=some (.int .i64 x.b) ∧ W.cell? ⟨q,3,none⟩=some (.string x.n) ∧ W.cell? ⟨q,4,none⟩=some (.int .i64 x.v.k) ∧ W.cell? ⟨q,5,none⟩=some (.int .i64 x.v.i) ∧ W.cell? ⟨q,6,none⟩=some (.string x.v.s) ∧ W.cell? ⟨q,7,none⟩=some (.bool x.v.b) ∧ W.cell? ⟨q,8,none⟩=some (.int .i64 x.l) ∧ W.cell? ⟨q,9,none⟩=some (.int .i64 x.c) :=
 ⟨by rw [cell_of_row _ _ 0 _ _ _ h]; rfl,by rw [cell_of_row _ _ 1 _ _ _ h]; rfl,by rw [cell_of_row _ _ 2 _ _ _ h]; rfl,by rw [cell_of_row _ _ 3 _ _ _ h]; rfl,by rw [cell_of_row _ _ 4 _ _ _ h]; rfl,by rw [cell_of_row _ _ 5 _ _ _ h]; rfl,by rw [cell_of_row _ _ 6 _ _ _ h]; rfl,by rw [cell_of_row _ _ 7 _ _ _ h]; rfl,by rw [cell_of_row _ _ 8 _ _ _ h]; rfl,by rw [cell_of_row _ _ 9 _ _ _ h]; rfl⟩
theorem ex_gin {T:TypeId} {O:Prop} {w0 w:World} {a:Option Addr} {len n:Nat} {L:List Ex} {x:Ex} (h0:GIn rEx T O 10 w0 a len L) (hx:L[n]? = some x) (hb:Below w0.heap.size w0 w) :
  ∃ g off,a=some ⟨g,off,none⟩ ∧ g < w0.heap.size ∧ n < len ∧ len ≤ 9223372036854775807 ∧ okE x ∧ w.cell? ⟨g,off + n * 10,none⟩=some (.int .i64 x.op) ∧ w.cell? ⟨g,off + n * 10 + 1,none⟩=some (.int .i64 x.a) ∧ w.cell? ⟨g,off + n * 10 + 2,none⟩=some (.int .i64 x.b) ∧ w.cell? ⟨g,off + n * 10 + 3,none⟩=some (.string x.n) ∧ w.cell? ⟨g,off + n * 10 + 4,none⟩=some (.int .i64 x.v.k) ∧ w.cell? ⟨g,off + n * 10 + 5,none⟩=some (.int .i64 x.v.i) ∧ w.cell? ⟨g,off + n * 10 + 6,none⟩=some (.string x.v.s) ∧ w.cell? ⟨g,off + n * 10 + 7,none⟩=some (.bool x.v.b) ∧ w.cell? ⟨g,off + n * 10 + 8,none⟩=some (.int .i64 x.l) ∧ w.cell? ⟨g,off + n * 10 + 9,none⟩=some (.int .i64 x.c):=by
 obtain ⟨g,off,rfl,hg,hc,hok⟩:=h0.flat hx
 have k:=fun j v (h:(exC x)[j]? = some v)=>(hb.cell (p:=⟨g,off + n * 10 + j,none⟩) hg).trans (hc j v h)
 exact ⟨g,off,rfl,hg,by rw [← h0.leng]; exact (List.getElem?_eq_some_iff.1 hx).1,h0.small,hok,k 0 _ rfl,k 1 _ rfl,k 2 _ rfl,k 3 _ rfl,k 4 _ rfl,k 5 _ rfl,k 6 _ rfl,k 7 _ rfl,k 8 _ rfl,k 9 _ rfl⟩
def WeC (w0:World) (b:Nat) (a:Option Addr) (len cap n:Nat) (t:List UInt8):Prop :=
 ∀ (c:List UInt8) (w:World),MayB w0.heap.size b c w → Below w0.heap.size w0 w → c.length + t.length ≤ 1000000000000 →
  Calls Tryz.prog 76 #[.pointer (some ⟨b,0,none⟩),.slice a len cap,.int .i64 n] w (WrP w0.heap.size b (c ++ t) w)
def WpC (w0:World) (b:Nat) (a:Option Addr) (len cap n k:Nat) (t:List UInt8):Prop :=
 ∀ (c:List UInt8) (w:World),MayB w0.heap.size b c w → Below w0.heap.size w0 w → c.length + t.length ≤ 1000000000000 →
  Calls Tryz.prog 140 #[.pointer (some ⟨b,0,none⟩),.slice a len cap,.int .i64 n,.int .i64 k] w (WrP w0.heap.size b (c ++ t) w)
set_option maxHeartbeats 2000000 in
theorem writePart_calls {T:TypeId} {O:Prop} (w0:World) (b:Nat) (a:Option Addr) (len cap n k:Nat) (L:List Ex) (x:Ex) (t:List UInt8) (h0:GIn rEx T O 10 w0 a len L) (hx:L[n]? = some x) (hk:k ≤ 9) (hE:WeC w0 b a len cap n t) :
  WpC w0 b a len cap n k (brkL (decide (lvL x.op < k)) t):=by
 intro c w hm hb hl
 obtain ⟨g,off,rfl,hg,hc,hok⟩:=h0.flat hx
 have c0:w.cell? ⟨g,off + n * 10,none⟩=some (.int .i64 x.op):=(hb.cell (p:=⟨g,off + n * 10,none⟩) hg).trans (hc 0 _ rfl)
 have hnl:n < len:=by rw [← h0.leng]; exact (List.getElem?_eq_some_iff.1 hx).1
 have hsm:=h0.small
 have HL:=Lib.hid (fun w=>level_calls x.op w)
 have HB:=Lib.hid hb
 clear h0 hx hc hok hg hb
 generalize lvL x.op=lv at HL hl ⊢
 by_cases hlt:lv < k
 ·rw [decide_eq_true hlt] at hl ⊢
  have t1:decide ((k:Int) ≤ (lv:Int))=false:=decide_eq_false (by omega)
  have t2:decide ((lv:Int) ≥ (k:Int))=false:=decide_eq_false (by omega)
  have t3:decide (k ≤ lv)=false:=decide_eq_false (by omega)
  have hl2:c.length + (t.length + 2) ≤ 1000000000000:=by
   have:(brkL true t).length=t.length + 2:=by simp [brkL]
   rw [← this]; exact hl
  have HO:=Lib.hid (prByte_calls w0.heap.size b c 40 w hm (by omega) HB.out.size)
  have HC:=Lib.hid (fun w1 (h1:MayB w0.heap.size b (c ++ [40] ++ t) w1) (hz:w0.heap.size ≤ w1.heap.size)=>prByte_calls w0.heap.size b (c ++ [40] ++ t) 41 w1 h1 (by simp; omega) hz)
  have HE:=Lib.hid (fun w1 h1 h2=>hE (c ++ [40]) w1 h1 h2 (by simp; omega))
  have HV:Hid (c ++ [40] ++ t ++ [41]=c ++ brkL true t):=Lib.hid (by simp [brkL])
  clear hE hm hl hl2 hlt
  go_enter Tryz.func140,Tryz.ntmps140
  go_wp2_with fail
  refine (HL.out _).mono ?_
  rintro e w' ⟨rfl,rfl⟩
  go_wp2_with fail
  refine HO.out.mono ?_
  rintro e w1 ⟨rfl,k1,k2,k3⟩
  have HB1:=Lib.hid (HB.out.trans k2)
  have HM1:=Lib.hid k1
  have HK1:=Lib.hid k3
  have HD1:=Lib.hid k2
  clear k1 k2 k3
  go_wp2_with fail
  refine (HE.out _ HM1.out HB1.out).mono ?_
  rintro e w2 ⟨rfl,k1,k2,k3⟩
  have HB2:=Lib.hid (HB1.out.trans k2)
  have HM2:=Lib.hid k1
  have HK2:=Lib.hid (HK1.out.trans k3)
  have HD2:=Lib.hid (HD1.out.trans k2)
  clear k1 k2 k3
  go_wp2_with fail
  refine (HC.out _ HM2.out HB2.out.size).mono ?_
  rintro e w3 ⟨rfl,k1,k2,k3⟩
  rw [HV.out] at k1
  have HX:=Lib.hid (show WrP w0.heap.size b (c ++ brkL true t) w (.returned (.tuple #[])) w3 from ⟨rfl,k1,HD2.out.trans k2,HK2.out.trans k3⟩)
  clear k1 k2 k3
  go_wp2_with fail
  refine bodyPost_ret (results_none rfl _ _ _) rfl ?_
  exact HX.out
 ·rw [decide_eq_false hlt] at hl ⊢
  have t1:decide ((k:Int) ≤ (lv:Int))=true:=decide_eq_true (by omega)
  have t2:decide ((lv:Int) ≥ (k:Int))=true:=decide_eq_true (by omega)
  have t3:decide (k ≤ lv)=true:=decide_eq_true (by omega)
  have HE:=Lib.hid (hE c w hm HB.out hl)
  clear hE hm hl hlt
  go_enter Tryz.func140,Tryz.ntmps140
  go_wp2_with fail
  refine (HL.out _).mono ?_
  rintro e w' ⟨rfl,rfl⟩
  go_wp2_with fail
  refine HE.out.mono ?_
  rintro e w1 h1
  have HX:=Lib.hid h1
  obtain rfl:=h1.1
  clear h1
  go_wp2_with fail
  refine bodyPost_ret (results_none rfl _ _ _) rfl ?_
  exact HX.out
set_option maxHeartbeats 2000000 in
theorem writeBoth_calls (w0:World) (b:Nat) (a:Option Addr) (len cap:Nat) (x:Ex) (i j p q op:Nat) (t u:List UInt8) (hT:Toks w0) (hop:x.op=(op:Int)) (ho6:6 ≤ op) (ho:op ≤ 16) (ha:x.a=(i:Int)) (hb:x.b=(j:Int)) (hA:WpC w0 b a len cap i p t) (hC:WpC w0 b a len cap j q u) (hbw:w0.heap.size ≤ b)
  (c:List UInt8) (w:World) (hm:MayB w0.heap.size b c w) (hbl:Below w0.heap.size w0 w) (hbs:b < w.heap.size) (hl:c.length + (t ++ 32 :: ((signT x.op).2 ++ 32 :: u)).length ≤ 1000000000000) :
  Calls Tryz.prog 142 #[.pointer (some ⟨b,0,none⟩),.slice a len cap,.agg #[.int .i64 x.op,.int .i64 x.a,.int .i64 x.b,.string x.n,.int .i64 x.v.k,.int .i64 x.v.i,.string x.v.s,.bool x.v.b,.int .i64 x.l,.int .i64 x.c],.int .i64 p,.int .i64 q] w (WrP w0.heap.size b (c ++ (t ++ 32 :: ((signT x.op).2 ++ 32 :: u))) w):=by
 have hs3:=tokA_size op
 have hsg:=tokA_sign op ho6 ho
 rw [hop] at hl
 have hlen:(signT (op:Int)).2.length ≤ 3:=by rw [← hsg,← pr_size]; exact hs3
 have hl2:c.length + t.length + u.length + (signT (op:Int)).2.length + 2 ≤ 1000000000000:=by simp at hl; omega
 have hb1:Below w.heap.size w (w.alloc (.cells (exA x) 58)):=(Below.refl _ _).alloc (Nat.le_refl _) _
 have hn1:(w.alloc (.cells (exA x) 58)).heap[w.heap.size]? = some (.cells (exA x) 58 (0,0)):=heap_alloc_new w _
 have HK:Hid (∀ w2 w3,Lib.OthersKept 5 (some b) w2 w3 → w2.heap[w.heap.size]? = some (.cells (exA x) 58 (0,0)) → w3.heap[w.heap.size]? = some (.cells (exA x) 58 (0,0))):=Lib.hid (fun w2 w3 k h=>kept_obj k h (by omega) (by decide))
 have HN1:=Lib.hid hn1
 have HB1:=Lib.hid (hbl.trans (hb1.mono hbl.size))
 have HW1:=Lib.hid (hb1.mono hbl.size)
 have HK1:Hid (Lib.OthersKept 5 (some b) w _):=Lib.hid (kept_below hb1)
 have HA:=Lib.hid (hA c _ (MayB.below hm hb1) HB1.out (by omega))
 have HG:=hT.lt
 have HT:=Lib.hid (fun w1 (h1:Below w0.heap.size w0 w1)=>(hT.belowB HG h1).cell op (by omega))
 obtain ⟨s,hs⟩:∃ s:ByteArray,s=tokA op:=⟨_,rfl⟩
 obtain ⟨U,hU⟩:∃ U:ByteArray,U=⟨#[32]⟩ ++ s:=⟨_,rfl⟩
 obtain ⟨V,hVV⟩:∃ V:ByteArray,V=U ++ ⟨#[32]⟩:=⟨_,rfl⟩
 have hZ:V.data.toList=32 :: ((signT (op:Int)).2 ++ [32]):=by
  rw [hVV,hU,ByteArray.data_append,ByteArray.data_append,Array.toList_append,Array.toList_append,hs,hsg]; rfl
 have hs4:s.size ≤ 3:=by rw [hs]; exact hs3
 have q1:∀ w,(Op.stringOp .add ⟨#[32]⟩ s).run Tryz.prog w=.ok (.string U) w:=fun w=>by rw [hU]; exact run_string_add_sum w _ _ (by show 1 + _ ≤ _; omega)
 have q2:∀ w,(Op.stringOp .add U ⟨#[32]⟩).run Tryz.prog w=.ok (.string V) w:=fun w=>by rw [hVV]; exact run_string_add_sum w _ _ (by rw [hU,ByteArray.size_append]; show 1 + _ + 1 ≤ _; omega)
 have HS:=Lib.hid (fun w1 (h1:MayB w0.heap.size b (c ++ t) w1) (hz:w0.heap.size ≤ w1.heap.size)=>prWrite_calls w0.heap.size b (c ++ t) V w1 h1 (by rw [pr_size,hZ]; simp; omega) hz)
 rw [hZ] at HS
 have HC:=Lib.hid (fun w1 h1 h2=>hC (c ++ t ++ 32 :: ((signT (op:Int)).2 ++ [32])) w1 h1 h2 (by simp; omega))
 have HV:Hid (c ++ t ++ 32 :: ((signT (op:Int)).2 ++ [32]) ++ u=c ++ (t ++ 32 :: ((signT x.op).2 ++ 32 :: u))):=Lib.hid (by rw [hop]; simp)
 rw [← hs] at HT
 clear hA hC hT hl hl2 hlen hsg hZ hs hm hbl hb1 hn1 hs3 hs4 hU hVV
 generalize hw1:w.alloc (.cells (exA x) 58)=w1 at HN1 HB1 HW1 HK1 HA
 have HOP:=Lib.hid hop
 have HXB:=Lib.hid hb
 have y1:w1.cell? ⟨w.heap.size,1,none⟩=some (.int .i64 (i:Int)):=by rw [cell_of_row _ _ 1 _ _ _ HN1.out,← ha]; rfl
 clear hop ha hb
 go_enter Tryz.func142,Tryz.ntmps142
 go_upto_region 1 with fail
 try rw [hw1]
 clear hw1
 go_wp2_with fail
 refine HA.out.mono ?_
 rintro e w2 ⟨rfl,k1,k2,k3⟩
 have HN2:=Lib.hid (HK.out _ _ k3 HN1.out)
 have HB2:=Lib.hid (HB1.out.trans k2)
 have HW2:=Lib.hid (HW1.out.trans k2)
 have HK2:=Lib.hid (HK1.out.trans k3)
 have HM2:=Lib.hid k1
 clear k1 k2 k3 y1
 have y0:w2.cell? ⟨w.heap.size,0,none⟩=some (.int .i64 (op:Int)):=by rw [cell_of_row _ _ 0 _ _ _ HN2.out,← HOP.out]; rfl
 have d0:=HT.out _ HB2.out
 go_wp2_with fail
 refine (HS.out _ HM2.out HB2.out.size).mono ?_
 rintro e w3 ⟨rfl,k1,k2,k3⟩
 have HN3:=Lib.hid (HK.out _ _ k3 HN2.out)
 have HB3:=Lib.hid (HB2.out.trans k2)
 have HW3:=Lib.hid (HW2.out.trans k2)
 have HK3:=Lib.hid (HK2.out.trans k3)
 have HM3:=Lib.hid k1
 clear k1 k2 k3 y0 d0
 have y2:w3.cell? ⟨w.heap.size,2,none⟩=some (.int .i64 (j:Int)):=by rw [cell_of_row _ _ 2 _ _ _ HN3.out,← HXB.out]; rfl
 go_wp2_with fail
 refine (HC.out _ HM3.out HB3.out).mono ?_
 rintro e w4 ⟨rfl,k1,k2,k3⟩
 rw [HV.out] at k1
 have HX:=Lib.hid (show WrP w0.heap.size b _ w (.returned (.tuple #[])) w4 from ⟨rfl,k1,HW3.out.trans k2,HK3.out.trans k3⟩)
 clear k1 k2 k3
 go_wp2_with fail
 refine bodyPost_ret (results_none rfl _ _ _) rfl ?_
 exact HX.out
def plainB (x:Ex):Bool:=x.op == 1 && x.v.k == 1 && decide (0 ≤ x.v.i)
set_option maxHeartbeats 2000000 in
theorem isPlainE_calls (x:Ex) (w:World):Calls Tryz.prog 141 #[.agg (exA x)] w fun e w'=>e=.returned (.bool (plainB x)) ∧ Below w.heap.size w w':=by
 have HB:=Lib.hid ((Below.refl w.heap.size w).alloc (Nat.le_refl _) (.cells (exA x) 58))
 by_cases h1:x.op=1
 ·have t1:(x.op == 1)=true:=by rw [beq_iff_eq]; exact h1
  by_cases h2:x.v.k=1
  ·have t2:(x.v.k == 1)=true:=by rw [beq_iff_eq]; exact h2
   have HV:Hid (plainB x=decide (0 ≤ x.v.i)):=Lib.hid (by unfold plainB; rw [t1,t2]; rfl)
   clear h1 h2
   go_enter Tryz.func141,Tryz.ntmps141
   go_wp2_with fail
   all_goals go_ret
   all_goals exact ⟨by rw [HV.out]; first | rfl | simp_all,HB.out⟩
  ·have t2:(x.v.k == 1)=false:=by rw [beq_eq_false_iff_ne]; exact h2
   have HV:Hid (plainB x=false):=Lib.hid (by unfold plainB; rw [t1,t2]; rfl)
   clear h1 h2
   go_enter Tryz.func141,Tryz.ntmps141
   go_wp2_with fail
   go_ret
   exact ⟨by rw [HV.out]; rfl,HB.out⟩
 ·have t1:(x.op == 1)=false:=by rw [beq_eq_false_iff_ne]; exact h1
  have HV:Hid (plainB x=false):=Lib.hid (by unfold plainB; rw [t1]; rfl)
  clear h1
  go_enter Tryz.func141,Tryz.ntmps141
  go_wp2_with fail
  go_ret
  exact ⟨by rw [HV.out]; rfl,HB.out⟩
theorem isE_lv {L:List Ex}:∀ {e:Et} {n:Nat},IsE L n e → e.ok → ∃ x,L[n]? = some x ∧ lvL x.op=e.lv ∧ plainB x=posE e
 | .val v,n,⟨x,hx,he⟩,_=>by
  have h1:=congrArg Ex.op he
  have h2:=congrArg Ex.v he
  refine ⟨x,hx,?_,?_⟩
  ·rw [show x.op=1 from h1]; rfl
  ·unfold plainB posE
   rw [show x.op=1 from h1,show x.v=v from h2]
   show ((1:Int) == 1 && v.k == 1 && decide (0 ≤ v.i))=(decide (v.k=1) && decide (0 ≤ v.i))
   by_cases k:v.k=1
   ·rw [decide_eq_true k,show (v.k == 1)=true by rw [beq_iff_eq]; exact k]; rfl
   ·rw [decide_eq_false k,show (v.k == 1)=false by rw [beq_eq_false_iff_ne]; exact k]; rfl
 | .nam s,n,⟨x,hx,he⟩,_=>by
  have h1:=congrArg Ex.op he
  exact ⟨x,hx,by rw [show x.op=17 from h1]; rfl,by unfold plainB; rw [show x.op=17 from h1]; rfl⟩
 | .un op a,n,⟨x,m,_,hx,he,_⟩,⟨ho,_⟩=>by
  have h1:x.op=op:=congrArg Ex.op he
  refine ⟨x,hx,?_,?_⟩
  ·rw [h1]; show (if _ then _ else _)=lvO op; rw [if_pos (by omega)]
  ·unfold plainB; rw [h1,show (op == 1)=false by rw [beq_eq_false_iff_ne]; omega]; rfl
 | .bin op a c,n,⟨x,m,k,_,_,hx,he,_⟩,⟨o1,o2,_⟩=>by
  have h1:x.op=op:=congrArg Ex.op he
  refine ⟨x,hx,?_,?_⟩
  ·rw [h1]; show (if _ then _ else _)=lvO op; rw [if_pos (by omega)]
  ·unfold plainB; rw [h1,show (op == 1)=false by rw [beq_eq_false_iff_ne]; omega]; rfl
theorem lv_op {op:Int} (h:4 ≤ op ∧ op ≤ 17):lvL op=lvO op:=if_pos (.inr h)
theorem MayB.lt {B b:Nat} {l:List UInt8} {w:World} (h:MayB B b l w):b < w.heap.size:=h.elim Lib.BuilderAtF.lt Lib.BuilderAtF.lt
set_option maxHeartbeats 2000000 in
theorem we_val {T:TypeId} {O:Prop} (w0:World) (b:Nat) (a:Option Addr) (len cap n:Nat) (L:List Ex) (h0:GIn rEx T O 10 w0 a len L) (hL:Laid w0) (v:Vd) (h:IsE L n (.val v)) (ho:vOk v):WeC w0 b a len cap n (valTx v):=by
 intro c w hm hb hl
 obtain ⟨x,hx,he⟩:=h
 have hop:x.op=1:=congrArg Ex.op he
 have hxv:x.v=v:=congrArg Ex.v he
 obtain ⟨g,off,rfl,hg,hnl,hsm,hok,c0,c1,c2,c3,c4,c5,c6,c7,c8,c9⟩:=ex_gin h0 hx hb
 have hbs:=hm.lt
 have hb1:Below w.heap.size w (w.alloc (.cells (exA x) 58)):=(Below.refl _ _).alloc (Nat.le_refl _) _
 have hn1:(w.alloc (.cells (exA x) 58)).heap[w.heap.size]? = some (.cells (exA x) 58 (0,0)):=heap_alloc_new w _
 have HB1:=Lib.hid (hb.trans (hb1.mono hb.size))
 have HW1:=Lib.hid (hb1.mono hb.size)
 have HK1:Hid (Lib.OthersKept 5 (some b) w _):=Lib.hid (kept_below hb1)
 have HM1:=Lib.hid (MayB.below hm hb1)
 have HN1:=Lib.hid hn1
 generalize hw1:w.alloc (.cells (exA x) 58)=w1 at HN1 HB1 HW1 HK1 HM1
 have y0:w1.cell? ⟨w.heap.size,0,none⟩=some (.int .i64 1):=by rw [cell_of_row _ _ 0 _ _ _ HN1.out,← hop]; rfl
 obtain ⟨_,_,_,_,y4,y5,y6,y7,_,_⟩:=ex_box HN1.out
 rw [hxv] at y4 y5 y6 y7
 have HL:Hid (∀ w,Calls Tryz.prog 22 #[.int .i64 1] w fun e w'=>e=.returned (.int .i64 8) ∧ w=w'):=Lib.hid (fun w=>level_calls 1 w)
 have HV:=Lib.hid (vText_calls v.k v.i v.s v.b w1 ho.2 (by rw [← hxv]; exact hok.2.1) (hL.below HB1.out))
 obtain ⟨s,hs⟩:∃ s:ByteArray,s=⟨(valText v.k v.i v.s v.b).toArray⟩:=⟨_,rfl⟩
 have hs2:s.data.toList=valTx v:=by rw [hs]; rfl
 rw [← hs] at HV
 have HS:=Lib.hid (fun w1 (h1:MayB w0.heap.size b c w1) (hz:w0.heap.size ≤ w1.heap.size)=>prWrite_calls w0.heap.size b c s w1 h1 (by rw [pr_size,hs2]; omega) hz)
 rw [hs2] at HS
 clear h0 hx he hop hxv hok hm hb hb1 hn1 hs hs2 hL ho hl
 go_enter Tryz.func76,Tryz.ntmps76
 go_upto_region 1 with fail
 try rw [hw1]
 clear c0 c1 c2 c3 c4 c5 c6 c7 c8 c9 hw1
 go_wp2_with fail
 refine (HL.out _).mono ?_
 rintro e w' ⟨rfl,rfl⟩
 go_wp2_with fail
 refine HV.out.mono ?_
 rintro e w2 ⟨rfl,k1⟩
 have HB2:=Lib.hid (HB1.out.trans (k1.mono HB1.out.size))
 have HW2:=Lib.hid (HW1.out.trans (k1.mono HB1.out.size))
 have HK2:=Lib.hid (HK1.out.trans (kept_below k1))
 have HM2:=Lib.hid (MayB.below HM1.out k1)
 clear k1 y0 y4 y5 y6 y7
 go_wp2_with fail
 refine (HS.out _ HM2.out HB2.out.size).mono ?_
 rintro e w3 ⟨rfl,k1,k2,k3⟩
 have HX:=Lib.hid (show WrP w0.heap.size b _ w (.returned (.tuple #[])) w3 from ⟨rfl,k1,HW2.out.trans k2,HK2.out.trans k3⟩)
 clear k1 k2 k3
 go_wp2_with fail
 refine bodyPost_ret (results_none rfl _ _ _) rfl ?_
 exact HX.out
set_option maxHeartbeats 2000000 in
theorem we_nam {T:TypeId} {O:Prop} (w0:World) (b:Nat) (a:Option Addr) (len cap n:Nat) (L:List Ex) (h0:GIn rEx T O 10 w0 a len L) (s:ByteArray) (h:IsE L n (.nam s)):WeC w0 b a len cap n s.data.toList:=by
 intro c w hm hb hl
 obtain ⟨x,hx,he⟩:=h
 have hop:x.op=17:=congrArg Ex.op he
 have hxs:x.n=s:=congrArg Ex.n he
 obtain ⟨g,off,rfl,hg,hnl,hsm,hok,c0,c1,c2,c3,c4,c5,c6,c7,c8,c9⟩:=ex_gin h0 hx hb
 have hbs:=hm.lt
 have hb1:Below w.heap.size w (w.alloc (.cells (exA x) 58)):=(Below.refl _ _).alloc (Nat.le_refl _) _
 have hn1:(w.alloc (.cells (exA x) 58)).heap[w.heap.size]? = some (.cells (exA x) 58 (0,0)):=heap_alloc_new w _
 have HB1:=Lib.hid (hb.trans (hb1.mono hb.size))
 have HW1:=Lib.hid (hb1.mono hb.size)
 have HK1:Hid (Lib.OthersKept 5 (some b) w _):=Lib.hid (kept_below hb1)
 have HM1:=Lib.hid (MayB.below hm hb1)
 have HN1:=Lib.hid hn1
 generalize hw1:w.alloc (.cells (exA x) 58)=w1 at HN1 HB1 HW1 HK1 HM1
 have y0:w1.cell? ⟨w.heap.size,0,none⟩=some (.int .i64 17):=by rw [cell_of_row _ _ 0 _ _ _ HN1.out,← hop]; rfl
 have y3:w1.cell? ⟨w.heap.size,3,none⟩=some (.string s):=by rw [cell_of_row _ _ 3 _ _ _ HN1.out,← hxs]; rfl
 have HL:Hid (∀ w,Calls Tryz.prog 22 #[.int .i64 17] w fun e w'=>e=.returned (.int .i64 8) ∧ w=w'):=Lib.hid (fun w=>level_calls 17 w)
 have HS:=Lib.hid (fun w1 (h1:MayB w0.heap.size b c w1) (hz:w0.heap.size ≤ w1.heap.size)=>prWrite_calls w0.heap.size b c s w1 h1 (by rw [pr_size]; omega) hz)
 clear h0 hx he hop hxs hok hm hb hb1 hn1 hl
 go_enter Tryz.func76,Tryz.ntmps76
 go_upto_region 1 with fail
 try rw [hw1]
 clear c0 c1 c2 c3 c4 c5 c6 c7 c8 c9 hw1
 go_wp2_with fail
 refine (HL.out _).mono ?_
 rintro e w' ⟨rfl,rfl⟩
 go_wp2_with fail
 refine (HS.out _ HM1.out HB1.out.size).mono ?_
 rintro e w2 ⟨rfl,k1,k2,k3⟩
 have HX:=Lib.hid (show WrP w0.heap.size b _ w (.returned (.tuple #[])) w2 from ⟨rfl,k1,HW1.out.trans k2,HK1.out.trans k3⟩)
 clear k1 k2 k3
 go_wp2_with fail
 refine bodyPost_ret (results_none rfl _ _ _) rfl ?_
 exact HX.out
set_option maxHeartbeats 2000000 in
theorem we_not {T:TypeId} {O:Prop} (w0:World) (b:Nat) (a:Option Addr) (len cap n:Nat) (L:List Ex) (h0:GIn rEx T O 10 w0 a len L) (hT:Toks w0) (e1:Et) (h:IsE L n (.un 4 e1)) (hP:∀ m,IsE L m e1 → WpC w0 b a len cap m 3 (brkL (decide (e1.lv < 3)) e1.tx)):WeC w0 b a len cap n (Et.un 4 e1).tx:=by
 intro c w hm hb hl
 obtain ⟨x,m,rfl,hx,he,hi⟩:=h
 have hop:x.op=4:=congrArg Ex.op he
 have hxa:x.a=(m:Int):=congrArg Ex.a he
 have hE:(Et.un 4 e1).tx=kwNot ++ 32 :: brkL (decide (e1.lv < 3)) e1.tx:=rfl
 rw [hE] at hl
 obtain ⟨g,off,rfl,hg,hnl,hsm,hok,c0,c1,c2,c3,c4,c5,c6,c7,c8,c9⟩:=ex_gin h0 hx hb
 have hbs:=hm.lt
 have hb1:Below w.heap.size w (w.alloc (.cells (exA x) 58)):=(Below.refl _ _).alloc (Nat.le_refl _) _
 have hn1:(w.alloc (.cells (exA x) 58)).heap[w.heap.size]? = some (.cells (exA x) 58 (0,0)):=heap_alloc_new w _
 have HB1:=Lib.hid (hb.trans (hb1.mono hb.size))
 have HW1:=Lib.hid (hb1.mono hb.size)
 have HK1:Hid (Lib.OthersKept 5 (some b) w _):=Lib.hid (kept_below hb1)
 have HM1:=Lib.hid (MayB.below hm hb1)
 have HN1:=Lib.hid hn1
 generalize hw1:w.alloc (.cells (exA x) 58)=w1 at HN1 HB1 HW1 HK1 HM1
 have HKB:Hid (∀ w2 w3,Lib.OthersKept 5 (some b) w2 w3 → w2.heap[w.heap.size]? = some (.cells (exA x) 58 (0,0)) → w3.heap[w.heap.size]? = some (.cells (exA x) 58 (0,0))):=Lib.hid (fun w2 w3 k h=>kept_obj k h (by omega) (by decide))
 have y0:w1.cell? ⟨w.heap.size,0,none⟩=some (.int .i64 4):=by rw [cell_of_row _ _ 0 _ _ _ HN1.out,← hop]; rfl
 have d0:w1.cell? ⟨0,4,none⟩=some (.string ⟨#[110,111,116]⟩):=(hT.belowB hT.lt HB1.out).cell 4 (by decide)
 have HL:Hid (∀ w,Calls Tryz.prog 22 #[.int .i64 4] w fun e w'=>e=.returned (.int .i64 3) ∧ w=w'):=Lib.hid (fun w=>level_calls 4 w)
 have hl2:c.length + 4 + (brkL (decide (e1.lv < 3)) e1.tx).length ≤ 1000000000000:=by
  have:(kwNot ++ 32 :: brkL (decide (e1.lv < 3)) e1.tx).length=4 + (brkL (decide (e1.lv < 3)) e1.tx).length:=by rw [List.length_append,List.length_cons]; show 3 + _=_; omega
  omega
 have q1:∀ w,(Op.stringOp .add ⟨#[110,111,116]⟩ ⟨#[32]⟩).run Tryz.prog w=.ok (.string ⟨#[110,111,116,32]⟩) w:=fun w=>run_string_add_sum w _ _ (by decide)
 have HS:=Lib.hid (prWrite_calls w0.heap.size b c ⟨#[110,111,116,32]⟩ w1 HM1.out (by show _ + 4 ≤ _; omega) HB1.out.size)
 have HP:=Lib.hid (fun w1 h1 h2=>hP m hi (c ++ [110,111,116,32]) w1 h1 h2 (by simp; omega))
 have HV:Hid (c ++ [110,111,116,32] ++ brkL (decide (e1.lv < 3)) e1.tx=c ++ (Et.un 4 e1).tx):=Lib.hid (by rw [hE]; simp [kwNot])
 have HXA:=Lib.hid hxa
 clear h0 hx he hop hxa hok hm hb hb1 hn1 hl hl2 hT hP hi hE
 generalize brkL (decide (e1.lv < 3)) e1.tx=u at HP HV
 generalize (Et.un 4 e1).tx=v at HV ⊢
 go_enter Tryz.func76,Tryz.ntmps76
 go_upto_region 1 with fail
 try rw [hw1]
 clear c0 c1 c2 c3 c4 c5 c6 c7 c8 c9 hw1
 go_wp2_with fail
 refine (HL.out _).mono ?_
 rintro e w' ⟨rfl,rfl⟩
 go_wp2_with fail
 refine HS.out.mono ?_
 rintro e w2 ⟨rfl,k1,k2,k3⟩
 have HN2:=Lib.hid (HKB.out _ _ k3 HN1.out)
 have HB2:=Lib.hid (HB1.out.trans k2)
 have HW2:=Lib.hid (HW1.out.trans k2)
 have HK2:=Lib.hid (HK1.out.trans k3)
 have HM2:Hid (MayB w0.heap.size b (c ++ [110,111,116,32]) w2):=Lib.hid k1
 clear k1 k2 k3 y0 d0
 have y1:w2.cell? ⟨w.heap.size,1,none⟩=some (.int .i64 (m:Int)):=by rw [cell_of_row _ _ 1 _ _ _ HN2.out,← HXA.out]; rfl
 go_wp2_with fail
 refine (HP.out _ HM2.out HB2.out).mono ?_
 rintro e w3 ⟨rfl,k1,k2,k3⟩
 have HX:=Lib.hid (show WrP w0.heap.size b _ w (.returned (.tuple #[])) w3 from ⟨rfl,HV.out ▸ k1,HW2.out.trans k2,HK2.out.trans k3⟩)
 clear k1 k2 k3
 go_wp2_with fail
 refine bodyPost_ret (results_none rfl _ _ _) rfl ?_
 exact HX.out
set_option maxHeartbeats 4000000 in
theorem we_neg {T:TypeId} {O:Prop} (w0:World) (b:Nat) (a:Option Addr) (len cap n:Nat) (L:List Ex) (h0:GIn rEx T O 10 w0 a len L) (hT:Toks w0) (e1:Et) (h:IsE L n (.un 5 e1)) (ho:e1.ok) (hP:∀ m,IsE L m e1 → ∀ k,k ≤ 9 → WpC w0 b a len cap m k (brkL (decide (e1.lv < k)) e1.tx)):WeC w0 b a len cap n (Et.un 5 e1).tx:=by
 intro c w hm hb hl
 obtain ⟨x,m,rfl,hx,he,hi⟩:=h
 have hop:x.op=5:=congrArg Ex.op he
 have hxa:x.a=(m:Int):=congrArg Ex.a he
 have hE:(Et.un 5 e1).tx=45 :: brkL (negB e1) e1.tx:=rfl
 rw [hE] at hl
 obtain ⟨z,hz,hzl,hzp⟩:=isE_lv hi ho
 have HG2:=Lib.hid (fun w2 (h2:Below w0.heap.size w0 w2)=>ex_gin h0 hz h2)
 have hml:m < len:=by rw [← h0.leng]; exact (List.getElem?_eq_some_iff.1 hz).1
 obtain ⟨g,off,rfl,hg,hnl,hsm,hok,c0,c1,c2,c3,c4,c5,c6,c7,c8,c9⟩:=ex_gin h0 hx hb
 have hbs:=hm.lt
 have hb1:Below w.heap.size w (w.alloc (.cells (exA x) 58)):=(Below.refl _ _).alloc (Nat.le_refl _) _
 have hn1:(w.alloc (.cells (exA x) 58)).heap[w.heap.size]? = some (.cells (exA x) 58 (0,0)):=heap_alloc_new w _
 have HB1:=Lib.hid (hb.trans (hb1.mono hb.size))
 have HW1:=Lib.hid (hb1.mono hb.size)
 have HK1:Hid (Lib.OthersKept 5 (some b) w _):=Lib.hid (kept_below hb1)
 have HM1:=Lib.hid (MayB.below hm hb1)
 have HN1:=Lib.hid hn1
 generalize hw1:w.alloc (.cells (exA x) 58)=w1 at HN1 HB1 HW1 HK1 HM1
 have HKB:Hid (∀ w2 w3,Lib.OthersKept 5 (some b) w2 w3 → w2.heap[w.heap.size]? = some (.cells (exA x) 58 (0,0)) → w3.heap[w.heap.size]? = some (.cells (exA x) 58 (0,0))):=Lib.hid (fun w2 w3 k h=>kept_obj k h (by omega) (by decide))
 have y0:w1.cell? ⟨w.heap.size,0,none⟩=some (.int .i64 5):=by rw [cell_of_row _ _ 0 _ _ _ HN1.out,← hop]; rfl
 have d0:w1.cell? ⟨0,5,none⟩=some (.string ⟨#[45]⟩):=(hT.belowB hT.lt HB1.out).cell 5 (by decide)
 have HL:Hid (∀ w,Calls Tryz.prog 22 #[.int .i64 5] w fun e w'=>e=.returned (.int .i64 7) ∧ w=w'):=Lib.hid (fun w=>level_calls 5 w)
 have HL1:Hid (∀ w,Calls Tryz.prog 22 #[.int .i64 1] w fun e w'=>e=.returned (.int .i64 8) ∧ w=w'):=Lib.hid (fun w=>level_calls 1 w)
 have hl2:c.length + 1 + (brkL (negB e1) e1.tx).length ≤ 1000000000000:=by rw [List.length_cons] at hl; omega
 have HS:=Lib.hid (prWrite_calls w0.heap.size b c ⟨#[45]⟩ w1 HM1.out (by show _ + 1 ≤ _; omega) HB1.out.size)
 have HPL:=Lib.hid (fun w=>isPlainE_calls z w)
 have HXA:=Lib.hid hxa
 have hneg:negB e1=(decide (e1.lv < 7) || posE e1):=rfl
 rw [← hzp] at hneg
 clear h0 hx he hop hxa hok hm hb hb1 hn1 hl hT hz hzl hzp
 cases hpl:plainB z
 case' true=>have hbr:brkL (decide (e1.lv < 9)) e1.tx=brkL (negB e1) e1.tx:=by rw [hneg,hpl,Bool.or_true,decide_eq_true (by have:=(lv_bounds e1).2; omega)]
 case' false=>have hbr:brkL (decide (e1.lv < 7)) e1.tx=brkL (negB e1) e1.tx:=by rw [hneg,hpl,Bool.or_false]
 ·have HP:=Lib.hid (fun w1 h1 h2=>hP m hi 7 (by decide) (c ++ [45]) w1 h1 h2 (by rw [hbr]; simp; omega))
  have HV:Hid (c ++ [45] ++ brkL (decide (e1.lv < 7)) e1.tx=c ++ (Et.un 5 e1).tx):=Lib.hid (by rw [hbr,hE]; simp)
  rw [hpl] at HPL
  clear hP hi hE hpl hl2 hbr hneg
  generalize brkL (decide (e1.lv < 7)) e1.tx=u at HP HV
  generalize (Et.un 5 e1).tx=v at HV ⊢
  go_enter Tryz.func76,Tryz.ntmps76
  go_upto_region 1 with fail
  try rw [hw1]
  clear c0 c1 c2 c3 c4 c5 c6 c7 c8 c9 hw1
  go_wp2_with fail
  refine (HL.out _).mono ?_
  rintro e w' ⟨rfl,rfl⟩
  go_wp2_with fail
  refine HS.out.mono ?_
  rintro e w2 ⟨rfl,k1,k2,k3⟩
  have HN2:=Lib.hid (HKB.out _ _ k3 HN1.out)
  have HB2:=Lib.hid (HB1.out.trans k2)
  have HW2:=Lib.hid (HW1.out.trans k2)
  have HK2:=Lib.hid (HK1.out.trans k3)
  have HM2:Hid (MayB w0.heap.size b (c ++ [45]) w2):=Lib.hid k1
  clear k1 k2 k3 y0 d0
  have y1:w2.cell? ⟨w.heap.size,1,none⟩=some (.int .i64 (m:Int)):=by rw [cell_of_row _ _ 1 _ _ _ HN2.out,← HXA.out]; rfl
  obtain ⟨g',off',eg,_,_,_,_,c0,c1,c2,c3,c4,c5,c6,c7,c8,c9⟩:=HG2.out w2 HB2.out
  obtain ⟨rfl,rfl⟩:g=g' ∧ off=off':=by cases eg; exact ⟨rfl,rfl⟩
  clear eg
  go_wp2_with fail
  refine (HPL.out _).mono ?_
  rintro e w3 ⟨rfl,k1⟩
  have HN3:=Lib.hid ((k1.block _ (Array.getElem?_eq_some_iff.1 HN2.out).1).trans HN2.out)
  have HB3:=Lib.hid (HB2.out.trans (k1.mono HB2.out.size))
  have HW3:=Lib.hid (HW2.out.trans (k1.mono HB2.out.size))
  have HK3:=Lib.hid (HK2.out.trans (kept_below k1))
  have HM3:=Lib.hid (MayB.below HM2.out k1)
  clear k1 y1 c0 c1 c2 c3 c4 c5 c6 c7 c8 c9
  have y1:w3.cell? ⟨w.heap.size,1,none⟩=some (.int .i64 (m:Int)):=by rw [cell_of_row _ _ 1 _ _ _ HN3.out,← HXA.out]; rfl
  go_wp2_with fail
  refine (HP.out _ HM3.out HB3.out).mono ?_
  rintro e w4 ⟨rfl,k1,k2,k3⟩
  have HX:=Lib.hid (show WrP w0.heap.size b _ w (.returned (.tuple #[])) w4 from ⟨rfl,HV.out ▸ k1,HW3.out.trans k2,HK3.out.trans k3⟩)
  clear k1 k2 k3
  go_wp2_with fail
  refine bodyPost_ret (results_none rfl _ _ _) rfl ?_
  exact HX.out
 ·have HP:=Lib.hid (fun w1 h1 h2=>hP m hi 9 (by decide) (c ++ [45]) w1 h1 h2 (by rw [hbr]; simp; omega))
  have HV:Hid (c ++ [45] ++ brkL (decide (e1.lv < 9)) e1.tx=c ++ (Et.un 5 e1).tx):=Lib.hid (by rw [hbr,hE]; simp)
  rw [hpl] at HPL
  clear hP hi hE hpl hl2 hbr hneg
  generalize brkL (decide (e1.lv < 9)) e1.tx=u at HP HV
  generalize (Et.un 5 e1).tx=v at HV ⊢
  go_enter Tryz.func76,Tryz.ntmps76
  go_upto_region 1 with fail
  try rw [hw1]
  clear c0 c1 c2 c3 c4 c5 c6 c7 c8 c9 hw1
  go_wp2_with fail
  refine (HL.out _).mono ?_
  rintro e w' ⟨rfl,rfl⟩
  go_wp2_with fail
  refine HS.out.mono ?_
  rintro e w2 ⟨rfl,k1,k2,k3⟩
  have HN2:=Lib.hid (HKB.out _ _ k3 HN1.out)
  have HB2:=Lib.hid (HB1.out.trans k2)
  have HW2:=Lib.hid (HW1.out.trans k2)
  have HK2:=Lib.hid (HK1.out.trans k3)
  have HM2:Hid (MayB w0.heap.size b (c ++ [45]) w2):=Lib.hid k1
  clear k1 k2 k3 y0 d0
  have y1:w2.cell? ⟨w.heap.size,1,none⟩=some (.int .i64 (m:Int)):=by rw [cell_of_row _ _ 1 _ _ _ HN2.out,← HXA.out]; rfl
  obtain ⟨g',off',eg,_,_,_,_,c0,c1,c2,c3,c4,c5,c6,c7,c8,c9⟩:=HG2.out w2 HB2.out
  obtain ⟨rfl,rfl⟩:g=g' ∧ off=off':=by cases eg; exact ⟨rfl,rfl⟩
  clear eg
  go_wp2_with fail
  refine (HPL.out _).mono ?_
  rintro e w3 ⟨rfl,k1⟩
  have HN3:=Lib.hid ((k1.block _ (Array.getElem?_eq_some_iff.1 HN2.out).1).trans HN2.out)
  have HB3:=Lib.hid (HB2.out.trans (k1.mono HB2.out.size))
  have HW3:=Lib.hid (HW2.out.trans (k1.mono HB2.out.size))
  have HK3:=Lib.hid (HK2.out.trans (kept_below k1))
  have HM3:=Lib.hid (MayB.below HM2.out k1)
  clear k1 y1 c0 c1 c2 c3 c4 c5 c6 c7 c8 c9
  have y1:w3.cell? ⟨w.heap.size,1,none⟩=some (.int .i64 (m:Int)):=by rw [cell_of_row _ _ 1 _ _ _ HN3.out,← HXA.out]; rfl
  go_wp2_with fail
  refine (HL1.out _).mono ?_
  rintro e w' ⟨rfl,rfl⟩
  go_wp2_with fail
  refine (HP.out _ HM3.out HB3.out).mono ?_
  rintro e w4 ⟨rfl,k1,k2,k3⟩
  have HX:=Lib.hid (show WrP w0.heap.size b _ w (.returned (.tuple #[])) w4 from ⟨rfl,HV.out ▸ k1,HW3.out.trans k2,HK3.out.trans k3⟩)
  clear k1 k2 k3
  go_wp2_with fail
  refine bodyPost_ret (results_none rfl _ _ _) rfl ?_
  exact HX.out
set_option maxHeartbeats 4000000 in
theorem we_bin {T:TypeId} {O:Prop} (w0:World) (b:Nat) (a:Option Addr) (len cap n:Nat) (L:List Ex) (h0:GIn rEx T O 10 w0 a len L) (hT:Toks w0) (hbw:w0.heap.size ≤ b) (op:Int) (e1 e2:Et) (h:IsE L n (.bin op e1 e2)) (ho1:6 ≤ op) (ho2:op ≤ 16) (hP:∀ m,IsE L m e1 → ∀ k,k ≤ 9 → WpC w0 b a len cap m k (brkL (decide (e1.lv < k)) e1.tx)) (hQ:∀ m,IsE L m e2 → ∀ k,k ≤ 9 → WpC w0 b a len cap m k (brkL (decide (e2.lv < k)) e2.tx)):WeC w0 b a len cap n (Et.bin op e1 e2).tx:=by
 intro c w hm hb hl
 obtain ⟨x,m,j,hn,hmj,hx,he,hi,hk⟩:=h
 have hop:x.op=op:=congrArg Ex.op he
 have hxa:x.a=(j:Int):=congrArg Ex.a he
 have hxb:x.b=(m:Int):=congrArg Ex.b he
 have hE:(Et.bin op e1 e2).tx=brkL (decide (e1.lv < lefL op)) e1.tx ++ 32 :: ((signT op).2 ++ 32 :: brkL (decide (e2.lv < lvO op + 1)) e2.tx):=rfl
 obtain ⟨q,hq⟩:∃ q:Nat,op=(q:Int):=⟨op.toNat,by omega⟩
 obtain ⟨g,off,rfl,hg,hnl,hsm,hok,c0,c1,c2,c3,c4,c5,c6,c7,c8,c9⟩:=ex_gin h0 hx hb
 have hbs:=hm.lt
 have hb1:Below w.heap.size w (w.alloc (.cells (exA x) 58)):=(Below.refl _ _).alloc (Nat.le_refl _) _
 have hn1:(w.alloc (.cells (exA x) 58)).heap[w.heap.size]? = some (.cells (exA x) 58 (0,0)):=heap_alloc_new w _
 have HB1:=Lib.hid (hb.trans (hb1.mono hb.size))
 have HW1:=Lib.hid (hb1.mono hb.size)
 have HK1:Hid (Lib.OthersKept 5 (some b) w _):=Lib.hid (kept_below hb1)
 have HM1:=Lib.hid (MayB.below hm hb1)
 have HN1:=Lib.hid hn1
 generalize hw1:w.alloc (.cells (exA x) 58)=w1 at HN1 HB1 HW1 HK1 HM1
 have y0:w1.cell? ⟨w.heap.size,0,none⟩=some (.int .i64 op):=by rw [cell_of_row _ _ 0 _ _ _ HN1.out,← hop]; rfl
 obtain ⟨z0,z1,z2,z3,z4,z5,z6,z7,z8,z9⟩:=ex_box HN1.out
 have hlv:lvO op ≤ 8:=by
  unfold lvO
  repeat' split
  all_goals omega
 have hle:lefL op ≤ 8:=by unfold lefL; split <;> omega
 have HB:=Lib.hid (writeBoth_calls w0 b (some ⟨g,off,none⟩) len cap x j m (lefL op) (lvO op + 1) q _ _ hT (hop.trans hq) (by omega) (by omega) hxa hxb (hP j hi _ (by omega)) (hQ m hk _ (by omega)) hbw c w1 HM1.out HB1.out (by have:=HB1.out.size; exact HM1.out.lt) (by rw [hop,← hE]; exact hl))
 rw [hop,← hE] at HB
 have HLv:=Lib.hid (fun w=>level_calls op w)
 rw [lv_op (by omega)] at HLv
 have hlef:lefL op=if lvO op=4 then 5 else lvO op:=rfl
 have hl4:lvO op=4 ↔ 13 ≤ op:=by
  unfold lvO
  repeat' split
  all_goals omega
 rw [hop] at z0
 clear h0 hx he hxa hxb hok hm hb hb1 hn1 hl hT hP hQ hi hk hE z0 hn hmj
 have z0:=y0
 have z0':=y0
 by_cases h13:13 ≤ op
 ·have e4:lvO op=4:=hl4.2 h13
  rw [if_pos e4] at hlef
  rw [hlef,e4] at HB
  rw [e4] at HLv
  have hc:op=13 ∨ op=14 ∨ op=15 ∨ op=16:=by omega
  clear hlef e4 hl4 hle hlv hq hop ho1 ho2 h13 z0'
  generalize (Et.bin op e1 e2).tx=v at HB ⊢
  have HL:Hid (∀ w,Calls Tryz.prog 22 #[.int .i64 op] w fun e w'=>e=.returned (.int .i64 4) ∧ w=w'):=HLv
  clear HLv
  rcases hc with rfl | rfl | rfl | rfl
  all_goals
   go_enter Tryz.func76,Tryz.ntmps76
   go_upto_region 1 with fail
   try rw [hw1]
   clear c0 c1 c2 c3 c4 c5 c6 c7 c8 c9 hw1
   go_wp2_with fail
   refine (HL.out _).mono ?_
   rintro e w' ⟨rfl,rfl⟩
   go_wp2_with fail
   refine HB.out.mono ?_
   rintro e w2 h1
   obtain ⟨rfl,k1,k2,k3⟩:=h1
   have HX:=Lib.hid (show WrP w0.heap.size b _ w (.returned (.tuple #[])) w2 from ⟨rfl,k1,HW1.out.trans k2,HK1.out.trans k3⟩)
   clear k1 k2 k3
   go_wp2_with fail
   refine bodyPost_ret (results_none rfl _ _ _) rfl ?_
   exact HX.out
 ·have e4:¬ lvO op=4:=fun h=>h13 (hl4.1 h)
  rw [if_neg e4] at hlef
  rw [hlef] at HB
  have t:∀ k:Int,k < 6 ∨ 13 ≤ k → (op == k)=false:=fun k hk=>by rw [beq_eq_false_iff_ne]; omega
  have t1:=t 1 (by omega)
  have t2:=t 17 (by omega)
  have t3:=t 4 (by omega)
  have t4:=t 5 (by omega)
  have t5:=t 13 (by omega)
  have t6:=t 14 (by omega)
  have t7:=t 15 (by omega)
  have t8:=t 16 (by omega)
  clear hlef e4 hl4 hle hq hop ho1 ho2 h13 z0' t
  generalize (Et.bin op e1 e2).tx=v at HB ⊢
  generalize lvO op=lv at HB HLv hlv
  have HL:Hid (∀ w,Calls Tryz.prog 22 #[.int .i64 op] w fun e w'=>e=.returned (.int .i64 lv) ∧ w=w'):=HLv
  have eq1:((lv + 1:Nat):Int)=(lv:Int) + 1:=by omega
  rw [eq1] at HB
  clear HLv eq1
  go_enter Tryz.func76,Tryz.ntmps76
  go_upto_region 1 with fail
  try rw [hw1]
  clear c0 c1 c2 c3 c4 c5 c6 c7 c8 c9 hw1
  go_wp2_with fail
  refine (HL.out _).mono ?_
  rintro e w' ⟨rfl,rfl⟩
  go_wp2_with fail
  refine HB.out.mono ?_
  rintro e w2 h1
  obtain ⟨rfl,k1,k2,k3⟩:=h1
  have HX:=Lib.hid (show WrP w0.heap.size b _ w (.returned (.tuple #[])) w2 from ⟨rfl,k1,HW1.out.trans k2,HK1.out.trans k3⟩)
  clear k1 k2 k3
  go_wp2_with fail
  refine bodyPost_ret (results_none rfl _ _ _) rfl ?_
  exact HX.out
theorem writeExpr_calls {T:TypeId} {O:Prop} (w0:World) (b:Nat) (a:Option Addr) (len cap:Nat) (L:List Ex) (h0:GIn rEx T O 10 w0 a len L) (hT:Toks w0) (hL:Laid w0) (hbw:w0.heap.size ≤ b) :
  ∀ (e:Et) (n:Nat),IsE L n e → e.ok → WeC w0 b a len cap n e.tx:=by
 have key:∀ e:Et,e.ok → (∀ n,IsE L n e → WeC w0 b a len cap n e.tx) → ∀ m,IsE L m e → ∀ k,k ≤ 9 → WpC w0 b a len cap m k (brkL (decide (e.lv < k)) e.tx):=fun e ho ih m hi k hk=>by
  obtain ⟨x,hx,hl,_⟩:=isE_lv hi ho
  rw [← hl]
  exact writePart_calls w0 b a len cap m k L x e.tx h0 hx hk (ih m hi)
 intro e
 induction e with
 | val v=>exact fun n h ho=>we_val w0 b a len cap n L h0 hL v h ho
 | nam s=>exact fun n h ho=>we_nam w0 b a len cap n L h0 s h
 | un op a' ih =>
  intro n h ho
  obtain ⟨ho4,hoa⟩:=ho
  have ih:=fun n h=>ih n h hoa
  rcases ho4 with rfl | rfl
  ·exact we_not w0 b a len cap n L h0 hT a' h (fun m hi=>key a' hoa ih m hi 3 (by decide))
  ·exact we_neg w0 b a len cap n L h0 hT a' h hoa (key a' hoa ih)
 | bin op a' b' ih1 ih2 =>
  intro n h ho
  obtain ⟨o1,o2,hoa,hob⟩:=ho
  exact we_bin w0 b a len cap n L h0 hT hbw op a' b' h o1 o2 (key a' hoa (fun n h=>ih1 n h hoa)) (key b' hob (fun n h=>ih2 n h hob))
theorem etdep_pos:∀ e:Et,1 ≤ e.dep
 | .val _=>Nat.le_refl _
 | .nam _=>Nat.le_refl _
 | .un _ a=>by show 1 ≤ a.dep + 1; omega
 | .bin _ a b=>by show 1 ≤ max a.dep b.dep + 1; omega
set_option maxHeartbeats 2000000 in
theorem printExprNo_calls {T:TypeId} {O:Prop} (a:Option Addr) (len cap:Nat) (L:List Ex) (i:Int) (w:World) (h:GIn rEx T O 10 w a len L) (hw:Wds w) (hl:len ≤ 1000000) (hz:sizeT L i=0 ∨ 64 < depthT L i) :
  Calls Tryz.prog 18 #[.slice a len cap,.int .i64 i] w fun e w'=>e=.returned (.string ⟨#[]⟩) ∧ Below w.heap.size w w':=by
 have HD:=Lib.hid (treeDepth_calls a len cap L i w h hw hl)
 clear h hw hl
 by_cases h0:sizeT L i=0
 ·rw [if_pos h0] at HD
  clear h0 hz
  go_enter Tryz.func18,Tryz.ntmps18
  go_wp2_with fail
  refine HD.out.mono ?_
  rintro e w1 ⟨rfl,k1⟩
  go_wp2_with fail
  go_ret
  exact ⟨rfl,k1⟩
 ·rw [if_neg h0] at HD
  have hd:64 < depthT L i:=hz.resolve_left h0
  generalize depthT L i=d at HD hd
  have t1:((d:Int) == 0)=false:=by rw [beq_eq_false_iff_ne]; omega
  have t2:decide ((64:Int) < (d:Int))=true:=decide_eq_true (by omega)
  have t3:decide (64 < d)=true:=decide_eq_true (by omega)
  clear h0 hz hd
  go_enter Tryz.func18,Tryz.ntmps18
  go_wp2_with fail
  refine HD.out.mono ?_
  rintro e w1 ⟨rfl,k1⟩
  go_wp2_with fail
  go_ret
  exact ⟨rfl,k1⟩
set_option maxHeartbeats 2000000 in
theorem printExpr_calls {T:TypeId} {O:Prop} (a:Option Addr) (len cap:Nat) (L:List Ex) (n:Nat) (e:Et) (w:World) (h:GIn rEx T O 10 w a len L) (hw:Wds w) (hl:len ≤ 1000000) (hT:Toks w) (hL:Laid w) (hi:IsE L n e) (ho:e.ok) (hd:e.dep ≤ 64) (hx:e.tx.length ≤ 1000000000000) :
  Calls Tryz.prog 18 #[.slice a len cap,.int .i64 n] w fun e' w'=>e'=.returned (.string ⟨e.tx.toArray⟩) ∧ Below w.heap.size w w':=by
 have HD:=Lib.hid (treeDepth_calls a len cap L n w h hw hl)
 obtain ⟨hz,hde⟩:=is_size L e n hi ho
 rw [if_neg (by rw [hz]; have:=num_pos e; omega),hde] at HD
 have hdp:1 ≤ e.dep:=etdep_pos e
 have HE:=Lib.hid (fun (b:Nat) (hb:w.heap.size ≤ b) w1 h1 h2=>writeExpr_calls w b a len cap L h hT hL hb e n hi ho [] w1 h1 h2 (by rw [List.length_nil,Nat.zero_add]; exact hx))
 have HS:=Lib.hid (fun (b:Nat) w1 (h1:MayB w.heap.size b e.tx w1) h2=>string_calls w.heap.size b e.tx w1 h1 h2)
 generalize e.dep=d at HD hd hdp
 generalize e.tx=t at HE HS ⊢
 have t1:((d:Int) == 0)=false:=by rw [beq_eq_false_iff_ne]; omega
 have t2:decide ((64:Int) < (d:Int))=false:=decide_eq_false (by omega)
 have t3:decide (64 < d)=false:=decide_eq_false (by omega)
 clear h hw hl hT hL hi ho hz hde hd hx hdp
 go_enter Tryz.func18,Tryz.ntmps18
 go_wp2_with fail
 refine HD.out.mono ?_
 rintro e w1 ⟨rfl,k1⟩
 have HB1:=Lib.hid k1
 have hz1:=k1.size
 clear k1
 go_upto_region 5 with fail
 have hA:Below w.heap.size w (w1.alloc (.cells #[.pointer none,.slice none 0 0] 72)):=HB1.out.alloc HB1.out.size _
 have hM:MayB w.heap.size w1.heap.size [] (w1.alloc (.cells #[.pointer none,.slice none 0 0] 72)):=MayB.fresh hz1 (heap_alloc_new w1 _)
 generalize w1.alloc (.cells #[.pointer none,.slice none 0 0] 72)=w2 at hA hM ⊢
 have HA:=Lib.hid hA
 have HM:=Lib.hid hM
 have HE1:=Lib.hid (HE.out w1.heap.size hz1 w2 hM hA)
 rw [List.nil_append] at HE1
 clear hA hM HE
 go_wp2_with fail
 refine HE1.out.mono ?_
 rintro e w3 ⟨rfl,k1,k2,k3⟩
 have HB3:=Lib.hid (HA.out.trans k2)
 have HM3:=Lib.hid k1
 clear k1 k2 k3
 go_wp2_with fail
 refine (HS.out _ _ HM3.out HB3.out.size).mono ?_
 rintro e w4 ⟨rfl,k1⟩
 have HB4:=Lib.hid (HB3.out.trans k1)
 clear k1
 go_wp2_with fail
 go_ret
 exact ⟨rfl,HB4.out⟩
end Go.Proofs.YtiafhfchjhffhaaGreatDoor
