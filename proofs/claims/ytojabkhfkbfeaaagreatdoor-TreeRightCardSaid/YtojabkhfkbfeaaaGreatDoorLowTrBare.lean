/- Contracts of a lower layer, several texts in one. -/
import Derived.Test.YtojabkhfkbfeaaaGreatDoorLowTrPlain
import Derived.Test.YtojabkhfkbfeaaaGreatDoorRow
/- TreePlSt -/
namespace Go.Proofs.YtojabkhfkbfeaaaGreatDoor
open Go.RowKit
set_option linter.unusedVariables false

/-- A tree's cells, its lists as they stand. -/
def TC (x : Tr) (v0 v1 v2 v3 v4 v5 : Value) : Array Value := #[.string x.n.t, .int .i64 0, .int .i64 0, v0, v1, v2, v3, .string x.s.t, .int .i64 0, .int .i64 0, v4, v5]
structure PlS (C : Array Value) (w : World) (x : Tr) (q : Nat) (v0 v1 v2 v3 v4 v5 : Value) (D : List De) (Q : List Qu) (F : List Fr) (S : List Sta) (A : List Sy) (T : List Ts) (wr : World) : Prop where
  below : Below w.heap.size w wr
  hq : w.heap.size + 1 < q
  box : wr.heap[w.heap.size]? = some (.cells C 31 (0, 0))
  res : wr.heap[w.heap.size + 1]? = some (.cells #[.string ⟨#[]⟩, .int .i64 0, .int .i64 0, .slice none 0 0, .slice none 0 0, .slice none 0 0, .slice none 0 0, .string ⟨#[]⟩, .int .i64 0, .int .i64 0, .slice none 0 0, .slice none 0 0] 31 (0, 0))
  out : wr.heap[q]? = some (.cells (TC x v0 v1 v2 v3 v4 v5) 31 (0, 0))
  r0 : Row (rDe tyT True) 39 4 w.heap.size wr v0 D
  r1 : Row rQu 57 5 w.heap.size wr v1 Q
  r2 : Row rFr 43 7 w.heap.size wr v2 F
  r3 : Row rSta 60 5 w.heap.size wr v3 S
  r4 : Row (rSy tyT True) 47 4 w.heap.size wr v4 A
  r5 : Row (rTs tyT True) 51 13 w.heap.size wr v5 T
theorem PlS.below' {C : Array Value} {w : World} {x : Tr} {q : Nat} {v0 v1 v2 v3 v4 v5 : Value} {D : List De} {Q : List Qu} {F : List Fr} {S : List Sta} {A : List Sy} {T : List Ts} {wr w' : World} (h : PlS C w x q v0 v1 v2 v3 v4 v5 D Q F S A T wr) (hb : Below wr.heap.size wr w') : PlS C w x q v0 v1 v2 v3 v4 v5 D Q F S A T w' :=
  ⟨h.below.trans (hb.mono h.below.size), h.hq, (hb.block _ (CBlk.lt ⟨_, _, h.box⟩)).trans h.box, (hb.block _ (CBlk.lt ⟨_, _, h.res⟩)).trans h.res, (hb.block _ (CBlk.lt ⟨_, _, h.out⟩)).trans h.out, h.r0.below hb (fun _ _ _ h => rDe_below h hb), h.r1.below hb (fun _ _ _ h => RF.any h), h.r2.below hb (fun _ _ _ h => RF.any h), h.r3.below hb (fun _ _ _ h => RF.any h), h.r4.below hb (fun _ _ _ h => rSy_below h hb), h.r5.below hb (fun _ _ _ h => rTs_below h hb)⟩
theorem PlS.put0 {C : Array Value} {w : World} {x : Tr} {q : Nat} {v0 v1 v2 v3 v4 v5 : Value} {D : List De} {Q : List Qu} {F : List Fr} {S : List Sta} {A : List Sy} {T : List Ts} {wr w4 : World} {v' : Value} {L' : List De} (h : PlS C w x q v0 v1 v2 v3 v4 v5 D Q F S A T wr) (hk : KU 39 wr w4) (hb : Below w.heap.size w w4) (hr : Row (rDe tyT True) 39 4 w.heap.size w4 v' L') : PlS C w x q v' v1 v2 v3 v4 v5 L' Q F S A T (w4.setCell ⟨q, 3, none⟩ v') := by
  have hc : CBlk w4 q 31 := ⟨_, _, hk.obj h.out (by decide)⟩
  have hs := KU.set hc 3 v'
  have hq := h.hq
  refine ⟨hb.setCell (by show w.heap.size ≤ q; omega) _, h.hq, (heap_setCell_other _ _ _ _ (show w.heap.size ≠ q by omega)).trans (hk.obj h.box (by decide)), (heap_setCell_other _ _ _ _ (show w.heap.size + 1 ≠ q by omega)).trans (hk.obj h.res (by decide)), heap_setCell_same _ _ 3 _ _ _ (hk.obj h.out (by decide)), hr.ku hs (by decide) (fun _ _ _ h => rDe_ku h hs (by decide)), (h.r1.ku hk (by decide) (fun _ _ _ h => RF.any h)).ku hs (by decide) (fun _ _ _ h => RF.any h), (h.r2.ku hk (by decide) (fun _ _ _ h => RF.any h)).ku hs (by decide) (fun _ _ _ h => RF.any h), (h.r3.ku hk (by decide) (fun _ _ _ h => RF.any h)).ku hs (by decide) (fun _ _ _ h => RF.any h), (h.r4.ku hk (by decide) (fun _ _ _ h => rSy_ku h hk (by decide))).ku hs (by decide) (fun _ _ _ h => rSy_ku h hs (by decide)), (h.r5.ku hk (by decide) (fun _ _ _ h => rTs_ku h hk (by decide) (by decide) (by decide))).ku hs (by decide) (fun _ _ _ h => rTs_ku h hs (by decide) (by decide) (by decide))⟩
theorem PlS.put1 {C : Array Value} {w : World} {x : Tr} {q : Nat} {v0 v1 v2 v3 v4 v5 : Value} {D : List De} {Q : List Qu} {F : List Fr} {S : List Sta} {A : List Sy} {T : List Ts} {wr w4 : World} {v' : Value} {L' : List Qu} (h : PlS C w x q v0 v1 v2 v3 v4 v5 D Q F S A T wr) (hk : KU 57 wr w4) (hb : Below w.heap.size w w4) (hr : Row rQu 57 5 w.heap.size w4 v' L') : PlS C w x q v0 v' v2 v3 v4 v5 D L' F S A T (w4.setCell ⟨q, 4, none⟩ v') := by
  have hc : CBlk w4 q 31 := ⟨_, _, hk.obj h.out (by decide)⟩
  have hs := KU.set hc 4 v'
  have hq := h.hq
  refine ⟨hb.setCell (by show w.heap.size ≤ q; omega) _, h.hq, (heap_setCell_other _ _ _ _ (show w.heap.size ≠ q by omega)).trans (hk.obj h.box (by decide)), (heap_setCell_other _ _ _ _ (show w.heap.size + 1 ≠ q by omega)).trans (hk.obj h.res (by decide)), heap_setCell_same _ _ 4 _ _ _ (hk.obj h.out (by decide)), (h.r0.ku hk (by decide) (fun _ _ _ h => rDe_ku h hk (by decide))).ku hs (by decide) (fun _ _ _ h => rDe_ku h hs (by decide)), hr.ku hs (by decide) (fun _ _ _ h => RF.any h), (h.r2.ku hk (by decide) (fun _ _ _ h => RF.any h)).ku hs (by decide) (fun _ _ _ h => RF.any h), (h.r3.ku hk (by decide) (fun _ _ _ h => RF.any h)).ku hs (by decide) (fun _ _ _ h => RF.any h), (h.r4.ku hk (by decide) (fun _ _ _ h => rSy_ku h hk (by decide))).ku hs (by decide) (fun _ _ _ h => rSy_ku h hs (by decide)), (h.r5.ku hk (by decide) (fun _ _ _ h => rTs_ku h hk (by decide) (by decide) (by decide))).ku hs (by decide) (fun _ _ _ h => rTs_ku h hs (by decide) (by decide) (by decide))⟩
theorem PlS.put2 {C : Array Value} {w : World} {x : Tr} {q : Nat} {v0 v1 v2 v3 v4 v5 : Value} {D : List De} {Q : List Qu} {F : List Fr} {S : List Sta} {A : List Sy} {T : List Ts} {wr w4 : World} {v' : Value} {L' : List Fr} (h : PlS C w x q v0 v1 v2 v3 v4 v5 D Q F S A T wr) (hk : KU 43 wr w4) (hb : Below w.heap.size w w4) (hr : Row rFr 43 7 w.heap.size w4 v' L') : PlS C w x q v0 v1 v' v3 v4 v5 D Q L' S A T (w4.setCell ⟨q, 5, none⟩ v') := by
  have hc : CBlk w4 q 31 := ⟨_, _, hk.obj h.out (by decide)⟩
  have hs := KU.set hc 5 v'
  have hq := h.hq
  refine ⟨hb.setCell (by show w.heap.size ≤ q; omega) _, h.hq, (heap_setCell_other _ _ _ _ (show w.heap.size ≠ q by omega)).trans (hk.obj h.box (by decide)), (heap_setCell_other _ _ _ _ (show w.heap.size + 1 ≠ q by omega)).trans (hk.obj h.res (by decide)), heap_setCell_same _ _ 5 _ _ _ (hk.obj h.out (by decide)), (h.r0.ku hk (by decide) (fun _ _ _ h => rDe_ku h hk (by decide))).ku hs (by decide) (fun _ _ _ h => rDe_ku h hs (by decide)), (h.r1.ku hk (by decide) (fun _ _ _ h => RF.any h)).ku hs (by decide) (fun _ _ _ h => RF.any h), hr.ku hs (by decide) (fun _ _ _ h => RF.any h), (h.r3.ku hk (by decide) (fun _ _ _ h => RF.any h)).ku hs (by decide) (fun _ _ _ h => RF.any h), (h.r4.ku hk (by decide) (fun _ _ _ h => rSy_ku h hk (by decide))).ku hs (by decide) (fun _ _ _ h => rSy_ku h hs (by decide)), (h.r5.ku hk (by decide) (fun _ _ _ h => rTs_ku h hk (by decide) (by decide) (by decide))).ku hs (by decide) (fun _ _ _ h => rTs_ku h hs (by decide) (by decide) (by decide))⟩
theorem PlS.put3 {C : Array Value} {w : World} {x : Tr} {q : Nat} {v0 v1 v2 v3 v4 v5 : Value} {D : List De} {Q : List Qu} {F : List Fr} {S : List Sta} {A : List Sy} {T : List Ts} {wr w4 : World} {v' : Value} {L' : List Sta} (h : PlS C w x q v0 v1 v2 v3 v4 v5 D Q F S A T wr) (hk : KU 60 wr w4) (hb : Below w.heap.size w w4) (hr : Row rSta 60 5 w.heap.size w4 v' L') : PlS C w x q v0 v1 v2 v' v4 v5 D Q F L' A T (w4.setCell ⟨q, 6, none⟩ v') := by
  have hc : CBlk w4 q 31 := ⟨_, _, hk.obj h.out (by decide)⟩
  have hs := KU.set hc 6 v'
  have hq := h.hq
  refine ⟨hb.setCell (by show w.heap.size ≤ q; omega) _, h.hq, (heap_setCell_other _ _ _ _ (show w.heap.size ≠ q by omega)).trans (hk.obj h.box (by decide)), (heap_setCell_other _ _ _ _ (show w.heap.size + 1 ≠ q by omega)).trans (hk.obj h.res (by decide)), heap_setCell_same _ _ 6 _ _ _ (hk.obj h.out (by decide)), (h.r0.ku hk (by decide) (fun _ _ _ h => rDe_ku h hk (by decide))).ku hs (by decide) (fun _ _ _ h => rDe_ku h hs (by decide)), (h.r1.ku hk (by decide) (fun _ _ _ h => RF.any h)).ku hs (by decide) (fun _ _ _ h => RF.any h), (h.r2.ku hk (by decide) (fun _ _ _ h => RF.any h)).ku hs (by decide) (fun _ _ _ h => RF.any h), hr.ku hs (by decide) (fun _ _ _ h => RF.any h), (h.r4.ku hk (by decide) (fun _ _ _ h => rSy_ku h hk (by decide))).ku hs (by decide) (fun _ _ _ h => rSy_ku h hs (by decide)), (h.r5.ku hk (by decide) (fun _ _ _ h => rTs_ku h hk (by decide) (by decide) (by decide))).ku hs (by decide) (fun _ _ _ h => rTs_ku h hs (by decide) (by decide) (by decide))⟩
theorem PlS.put4 {C : Array Value} {w : World} {x : Tr} {q : Nat} {v0 v1 v2 v3 v4 v5 : Value} {D : List De} {Q : List Qu} {F : List Fr} {S : List Sta} {A : List Sy} {T : List Ts} {wr w4 : World} {v' : Value} {L' : List Sy} (h : PlS C w x q v0 v1 v2 v3 v4 v5 D Q F S A T wr) (hk : KU 47 wr w4) (hb : Below w.heap.size w w4) (hr : Row (rSy tyT True) 47 4 w.heap.size w4 v' L') : PlS C w x q v0 v1 v2 v3 v' v5 D Q F S L' T (w4.setCell ⟨q, 10, none⟩ v') := by
  have hc : CBlk w4 q 31 := ⟨_, _, hk.obj h.out (by decide)⟩
  have hs := KU.set hc 10 v'
  have hq := h.hq
  refine ⟨hb.setCell (by show w.heap.size ≤ q; omega) _, h.hq, (heap_setCell_other _ _ _ _ (show w.heap.size ≠ q by omega)).trans (hk.obj h.box (by decide)), (heap_setCell_other _ _ _ _ (show w.heap.size + 1 ≠ q by omega)).trans (hk.obj h.res (by decide)), heap_setCell_same _ _ 10 _ _ _ (hk.obj h.out (by decide)), (h.r0.ku hk (by decide) (fun _ _ _ h => rDe_ku h hk (by decide))).ku hs (by decide) (fun _ _ _ h => rDe_ku h hs (by decide)), (h.r1.ku hk (by decide) (fun _ _ _ h => RF.any h)).ku hs (by decide) (fun _ _ _ h => RF.any h), (h.r2.ku hk (by decide) (fun _ _ _ h => RF.any h)).ku hs (by decide) (fun _ _ _ h => RF.any h), (h.r3.ku hk (by decide) (fun _ _ _ h => RF.any h)).ku hs (by decide) (fun _ _ _ h => RF.any h), hr.ku hs (by decide) (fun _ _ _ h => rSy_ku h hs (by decide)), (h.r5.ku hk (by decide) (fun _ _ _ h => rTs_ku h hk (by decide) (by decide) (by decide))).ku hs (by decide) (fun _ _ _ h => rTs_ku h hs (by decide) (by decide) (by decide))⟩
theorem PlS.put5 {C : Array Value} {w : World} {x : Tr} {q : Nat} {v0 v1 v2 v3 v4 v5 : Value} {D : List De} {Q : List Qu} {F : List Fr} {S : List Sta} {A : List Sy} {T : List Ts} {wr w4 : World} {v' : Value} {L' : List Ts} (h : PlS C w x q v0 v1 v2 v3 v4 v5 D Q F S A T wr) (hk : KU 51 wr w4) (hb : Below w.heap.size w w4) (hr : Row (rTs tyT True) 51 13 w.heap.size w4 v' L') : PlS C w x q v0 v1 v2 v3 v4 v' D Q F S A L' (w4.setCell ⟨q, 11, none⟩ v') := by
  have hc : CBlk w4 q 31 := ⟨_, _, hk.obj h.out (by decide)⟩
  have hs := KU.set hc 11 v'
  have hq := h.hq
  refine ⟨hb.setCell (by show w.heap.size ≤ q; omega) _, h.hq, (heap_setCell_other _ _ _ _ (show w.heap.size ≠ q by omega)).trans (hk.obj h.box (by decide)), (heap_setCell_other _ _ _ _ (show w.heap.size + 1 ≠ q by omega)).trans (hk.obj h.res (by decide)), heap_setCell_same _ _ 11 _ _ _ (hk.obj h.out (by decide)), (h.r0.ku hk (by decide) (fun _ _ _ h => rDe_ku h hk (by decide))).ku hs (by decide) (fun _ _ _ h => rDe_ku h hs (by decide)), (h.r1.ku hk (by decide) (fun _ _ _ h => RF.any h)).ku hs (by decide) (fun _ _ _ h => RF.any h), (h.r2.ku hk (by decide) (fun _ _ _ h => RF.any h)).ku hs (by decide) (fun _ _ _ h => RF.any h), (h.r3.ku hk (by decide) (fun _ _ _ h => RF.any h)).ku hs (by decide) (fun _ _ _ h => RF.any h), (h.r4.ku hk (by decide) (fun _ _ _ h => rSy_ku h hk (by decide))).ku hs (by decide) (fun _ _ _ h => rSy_ku h hs (by decide)), hr.ku hs (by decide) (fun _ _ _ h => rTs_ku h hs (by decide) (by decide) (by decide))⟩
/-- A transition's cells, its lists of nodes and settings as they stand. -/
def XC (y : Ts) (oa : Option Addr) (M : List Ag) (oc : Nat) (vn vs : Value) : Array Value := #[.string y.f.t, .int .i64 0, .int .i64 0, .string y.t.t, .int .i64 0, .int .i64 0, .string y.on.n, .slice oa M.length oc, .int .i64 0, .int .i64 0, vn, .int .i64 y.g, vs]
structure TsS (CY : Array Value) (wr : World) (y : Ts) (cp p : Nat) (oa : Option Addr) (M : List Ag) (oc : Nat) (vn vs : Value) (N : List Ex) (Z : List Se) (wi : World) : Prop where
  below : Below wr.heap.size wr wi
  hcp : wr.heap.size ≤ cp
  hp : cp < p
  cpo : wi.heap[cp]? = some (.cells CY 51 (0, 0))
  po : wi.heap[p]? = some (.cells (XC y oa M oc vn vs) 51 (0, 0))
  on : GIn rAg tyT.ag True 8 wi oa M.length M
  rn : Row rEx 53 10 wr.heap.size wi vn N
  rs : Row rSe 92 4 wr.heap.size wi vs Z
theorem TsS.below' {CY : Array Value} {wr : World} {y : Ts} {cp p : Nat} {oa : Option Addr} {M : List Ag} {oc : Nat} {vn vs : Value} {N : List Ex} {Z : List Se} {wi w' : World} (h : TsS CY wr y cp p oa M oc vn vs N Z wi) (hb : Below wi.heap.size wi w') : TsS CY wr y cp p oa M oc vn vs N Z w' :=
  ⟨h.below.trans (hb.mono h.below.size), h.hcp, h.hp, (hb.block _ (CBlk.lt ⟨_, _, h.cpo⟩)).trans h.cpo, (hb.block _ (CBlk.lt ⟨_, _, h.po⟩)).trans h.po, h.on.belowF hb, h.rn.below hb (fun _ _ _ h => RF.any h), h.rs.below hb (fun _ _ _ h => RF.any h)⟩
theorem TsS.putN {CY : Array Value} {wr : World} {y : Ts} {cp p : Nat} {oa : Option Addr} {M : List Ag} {oc : Nat} {vn vs : Value} {N : List Ex} {Z : List Se} {wi w4 : World} {v' : Value} {L' : List Ex} (h : TsS CY wr y cp p oa M oc vn vs N Z wi) (hk : KU 53 wi w4) (hb : Below wr.heap.size wr w4) (hr : Row rEx 53 10 wr.heap.size w4 v' L') : TsS CY wr y cp p oa M oc v' vs L' Z (w4.setCell ⟨p, 10, none⟩ v') := by
  have hc : CBlk w4 p 51 := ⟨_, _, hk.obj h.po (by decide)⟩
  have hs := KU.set hc 10 v'
  have hp := h.hp
  have hcp := h.hcp
  refine ⟨hb.setCell (by show wr.heap.size ≤ p; omega) _, h.hcp, h.hp, (heap_setCell_other _ _ _ _ (show cp ≠ p by omega)).trans (hk.obj h.cpo (by decide)), heap_setCell_same _ _ 10 _ _ _ (hk.obj h.po (by decide)), (h.on.ku hk (by decide)).ku hs (by decide), hr.ku hs (by decide) (fun _ _ _ h => RF.any h), (h.rs.ku hk (by decide) (fun _ _ _ h => RF.any h)).ku hs (by decide) (fun _ _ _ h => RF.any h)⟩
theorem TsS.putS {CY : Array Value} {wr : World} {y : Ts} {cp p : Nat} {oa : Option Addr} {M : List Ag} {oc : Nat} {vn vs : Value} {N : List Ex} {Z : List Se} {wi w4 : World} {v' : Value} {L' : List Se} (h : TsS CY wr y cp p oa M oc vn vs N Z wi) (hk : KU 92 wi w4) (hb : Below wr.heap.size wr w4) (hr : Row rSe 92 4 wr.heap.size w4 v' L') : TsS CY wr y cp p oa M oc vn v' N L' (w4.setCell ⟨p, 12, none⟩ v') := by
  have hc : CBlk w4 p 51 := ⟨_, _, hk.obj h.po (by decide)⟩
  have hs := KU.set hc 12 v'
  have hp := h.hp
  have hcp := h.hcp
  refine ⟨hb.setCell (by show wr.heap.size ≤ p; omega) _, h.hcp, h.hp, (heap_setCell_other _ _ _ _ (show cp ≠ p by omega)).trans (hk.obj h.cpo (by decide)), heap_setCell_same _ _ 12 _ _ _ (hk.obj h.po (by decide)), (h.on.ku hk (by decide)).ku hs (by decide), (h.rn.ku hk (by decide) (fun _ _ _ h => RF.any h)).ku hs (by decide) (fun _ _ _ h => RF.any h), hr.ku hs (by decide) (fun _ _ _ h => RF.any h)⟩
end Go.Proofs.YtojabkhfkbfeaaaGreatDoor

/- TreeRefBare -/
namespace Go.Proofs.YtojabkhfkbfeaaaGreatDoor
open Go.RowKit
set_option linter.unusedVariables false

set_option maxHeartbeats 1000000 in
set_option maxRecDepth 100000 in
theorem ident_calls (x : Id3) (w : World) :
    Calls Tryz.prog 52 #[.agg #[.string x.t, .int .i64 x.l, .int .i64 x.c]] w fun e w' => e = .returned (.agg #[.string x.t, .int .i64 0, .int .i64 0]) ∧ Below w.heap.size w w' := by
  go_enter Tryz.func52, Tryz.ntmps52
  go_wp2_with fail
  refine bodyPost_ret (v := .agg #[.string x.t, .int .i64 0, .int .i64 0]) ?_ rfl ⟨rfl, ?_⟩
  · rw [results_cell rfl]
    go_simp
  · repeat' (first | (with_reducible refine Below.setCell ?_ (by simp <;> omega) _) | (with_reducible refine Below.alloc ?_ (by simp <;> omega) _) | (with_reducible refine Below.drew ?_) | exact Below.refl _ _)
theorem heap_alloc3_0 (w : World) (a b c : Obj) : (((w.alloc a).alloc b).alloc c).heap[w.heap.size]? = some a := by
  rw [heap_alloc_old _ _ (by simp; omega), heap_alloc_old _ _ (by simp), heap_alloc_new]
theorem heap_alloc3_1 (w : World) (a b c : Obj) : (((w.alloc a).alloc b).alloc c).heap[w.heap.size + 1]? = some b := by
  rw [heap_alloc_old _ _ (by simp)]
  have := heap_alloc_new (w.alloc a) b
  rwa [World.size_alloc] at this
theorem heap_alloc3_2 (w : World) (a b c : Obj) : (((w.alloc a).alloc b).alloc c).heap[w.heap.size + 1 + 1]? = some c := by
  have := heap_alloc_new ((w.alloc a).alloc b) c
  rwa [World.size_alloc, World.size_alloc] at this

set_option maxHeartbeats 8000000 in
set_option maxRecDepth 100000 in
theorem bare_calls {Y : TyT} {O : Prop} (x : Sy) (cs : List Value) (w : World) (hr : rSy Y O w cs x) (hl : x.ar.length ≤ 1000000) :
    Calls Tryz.prog 53 #[.agg cs.toArray] w (MadeSy (plS x) w) := by
  obtain ⟨a, c, rfl, g1, hok⟩ := hr
  have HOK := Lib.hid hok
  have HG := Lib.hid g1
  obtain ⟨i0, hi, hz0, hz1, hz2⟩ := info_parts infoAg
  have HI := Lib.hid hi
  have HZ0 := Lib.hid hz0
  have HZ1 := Lib.hid hz1
  have HZ2 := Lib.hid hz2
  clear hi hz0 hz1 hz2
  have HB0 : Hid (Below w.heap.size w (((w.alloc (.cells #[.string x.n, .slice a x.ar.length c, .int .i64 x.l, .int .i64 x.c] 47)).alloc (.cells #[.string ⟨#[]⟩, .slice none 0 0, .int .i64 0, .int .i64 0] 47)).alloc (.cells #[.string x.n, .slice none 0 0, .int .i64 0, .int .i64 0] 47))) := Lib.hid ((((Below.refl w.heap.size w).alloc (Nat.le_refl _) _).alloc (by simp) _).alloc (by simp; omega) _)
  have HX0 : Hid ((((w.alloc (.cells #[.string x.n, .slice a x.ar.length c, .int .i64 x.l, .int .i64 x.c] 47)).alloc (.cells #[.string ⟨#[]⟩, .slice none 0 0, .int .i64 0, .int .i64 0] 47)).alloc (.cells #[.string x.n, .slice none 0 0, .int .i64 0, .int .i64 0] 47)).heap[w.heap.size]? = some (.cells #[.string x.n, .slice a x.ar.length c, .int .i64 x.l, .int .i64 x.c] 47 (0, 0))) := Lib.hid (heap_alloc3_0 _ _ _ _)
  have HY0 : Hid ((((w.alloc (.cells #[.string x.n, .slice a x.ar.length c, .int .i64 x.l, .int .i64 x.c] 47)).alloc (.cells #[.string ⟨#[]⟩, .slice none 0 0, .int .i64 0, .int .i64 0] 47)).alloc (.cells #[.string x.n, .slice none 0 0, .int .i64 0, .int .i64 0] 47)).heap[w.heap.size + 1]? = some (.cells #[.string ⟨#[]⟩, .slice none 0 0, .int .i64 0, .int .i64 0] 47 (0, 0))) := Lib.hid (heap_alloc3_1 _ _ _ _)
  have HO0 : Hid ((((w.alloc (.cells #[.string x.n, .slice a x.ar.length c, .int .i64 x.l, .int .i64 x.c] 47)).alloc (.cells #[.string ⟨#[]⟩, .slice none 0 0, .int .i64 0, .int .i64 0] 47)).alloc (.cells #[.string x.n, .slice none 0 0, .int .i64 0, .int .i64 0] 47)).heap[w.heap.size + 1 + 1]? = some (.cells #[.string x.n, .slice none 0 0, .int .i64 0, .int .i64 0] 47 (0, 0))) := Lib.hid (heap_alloc3_2 _ _ _ _)
  clear g1 hok
  go_enter Tryz.func53, Tryz.ntmps53
  go_wp2_with fail
  go_loopw [4] (fun i wr => ∃ (n : Nat) (v : Value), n ≤ x.ar.length ∧ i = .int .i64 n ∧ Hid (wr.heap[w.heap.size]? = some (.cells #[.string x.n, .slice a x.ar.length c, .int .i64 x.l, .int .i64 x.c] 47 (0, 0))) ∧ Hid (wr.heap[w.heap.size + 1]? = some (.cells #[.string ⟨#[]⟩, .slice none 0 0, .int .i64 0, .int .i64 0] 47 (0, 0))) ∧ Hid (wr.heap[w.heap.size + 1 + 1]? = some (.cells #[.string x.n, v, .int .i64 0, .int .i64 0] 47 (0, 0))) ∧ Hid (Row rAg 101 8 w.heap.size wr v ((x.ar.take n).map plA)) ∧ Hid (Below w.heap.size w wr)) (fun i _ => x.ar.length - (intOf i).toNat)
  case atStart => exact ⟨0, .slice none 0 0, Nat.zero_le _, rfl, HX0, HY0, HO0, Lib.hid Row.nil, HB0⟩
  case round =>
    clear HX0 HY0 HO0 HB0
    obtain ⟨n, v, hn, rfl, HX, HY, HO, HR, HB⟩ := hrel
    have z1 : wr.cell? ⟨w.heap.size, 1, none⟩ = some (.slice a x.ar.length c) := by rw [cell_of_row _ _ 1 _ _ _ HX.out]; rfl
    by_cases h : n < x.ar.length
    case neg =>
      have HR2 : Hid (Row rAg 101 8 w.heap.size wr v (x.ar.map plA)) := Lib.hid (by have := HR.out; rwa [List.take_of_length_le (by omega)] at this)
      obtain ⟨va, vc, rfl⟩ := HR2.out.slice
      obtain ⟨M, hM⟩ : ∃ M, M = x.ar.map plA := ⟨_, rfl⟩
      rw [← hM] at HR2 HO
      have HM := Lib.hid hM
      clear hM
      have c0 : wr.cell? ⟨w.heap.size + 1 + 1, 0, none⟩ = some (.string x.n) := by rw [cell_of_row _ _ 0 _ _ _ HO.out]; rfl
      have c1 : wr.cell? ⟨w.heap.size + 1 + 1, 1, none⟩ = some (.slice va M.length vc) := by rw [cell_of_row _ _ 1 _ _ _ HO.out]; rfl
      have c2 : wr.cell? ⟨w.heap.size + 1 + 1, 2, none⟩ = some (.int .i64 0) := by rw [cell_of_row _ _ 2 _ _ _ HO.out]; rfl
      have c3 : wr.cell? ⟨w.heap.size + 1 + 1, 3, none⟩ = some (.int .i64 0) := by rw [cell_of_row _ _ 3 _ _ _ HO.out]; rfl
      have d0 : wr.cell? ⟨w.heap.size + 1, 0, none⟩ = some (.string ⟨#[]⟩) := by rw [cell_of_row _ _ 0 _ _ _ HY.out]; rfl
      have f0 : wr.frozen? ⟨w.heap.size + 1, 0, none⟩ = false := frozen_of_row _ _ 0 _ _ HY.out
      have d1 : wr.cell? ⟨w.heap.size + 1, 1, none⟩ = some (.slice none 0 0) := by rw [cell_of_row _ _ 1 _ _ _ HY.out]; rfl
      have f1 : wr.frozen? ⟨w.heap.size + 1, 1, none⟩ = false := frozen_of_row _ _ 1 _ _ HY.out
      have d2 : wr.cell? ⟨w.heap.size + 1, 2, none⟩ = some (.int .i64 0) := by rw [cell_of_row _ _ 2 _ _ _ HY.out]; rfl
      have f2 : wr.frozen? ⟨w.heap.size + 1, 2, none⟩ = false := frozen_of_row _ _ 2 _ _ HY.out
      have d3 : wr.cell? ⟨w.heap.size + 1, 3, none⟩ = some (.int .i64 0) := by rw [cell_of_row _ _ 3 _ _ _ HY.out]; rfl
      have f3 : wr.frozen? ⟨w.heap.size + 1, 3, none⟩ = false := frozen_of_row _ _ 3 _ _ HY.out
      have HG2 := Lib.hid HR2.out.gin.2
      have HC2 : Hid (CBlk wr (w.heap.size + 1) 47) := Lib.hid ⟨_, _, HY.out⟩
      have hsz : w.heap.size + 1 < wr.heap.size := HC2.out.lt
      go_wp2_with fail
      refine bodyPost_ret (v := .agg #[.string x.n, .slice va M.length vc, .int .i64 0, .int .i64 0]) ?_ rfl ⟨[.string x.n, .slice va M.length vc, .int .i64 0, .int .i64 0], rfl, rSy_mk HM.out (gin_apart HG2.out HC2.out (by decide) 0 [.string x.n, .slice va M.length vc, .int .i64 0, .int .i64 0]) HOK.out, ?_⟩
      · rw [results_cell rfl]
        go_simp
      · refine Below.trans HB.out ?_
        repeat' (first | (with_reducible refine Below.setCell ?_ (by simp <;> omega) _) | (with_reducible refine Below.alloc ?_ (by simp <;> omega) _) | (with_reducible refine Below.drew ?_) | exact (Below.refl wr.heap.size wr).mono (by omega))
    case pos =>
      obtain ⟨y, hy⟩ := at_some (L := x.ar) rfl h
      have HMS := Lib.hid (map_snoc (f := plA) hy)
      obtain ⟨g, off, rfl, hg, hc, hyo⟩ := HG.out.flat hy
      have HYO := Lib.hid hyo
      have c0 : w.cell? ⟨g, off + n * 8, none⟩ = some (.int .i64 y.k) := hc 0 _ rfl
      have c1 : w.cell? ⟨g, off + n * 8 + 1, none⟩ = some (.string y.n) := hc 1 _ rfl
      have c2 : w.cell? ⟨g, off + n * 8 + 2, none⟩ = some (.int .i64 y.v.k) := hc 2 _ rfl
      have c3 : w.cell? ⟨g, off + n * 8 + 3, none⟩ = some (.int .i64 y.v.i) := hc 3 _ rfl
      have c4 : w.cell? ⟨g, off + n * 8 + 4, none⟩ = some (.string y.v.s) := hc 4 _ rfl
      have c5 : w.cell? ⟨g, off + n * 8 + 5, none⟩ = some (.bool y.v.b) := hc 5 _ rfl
      have c6 : w.cell? ⟨g, off + n * 8 + 6, none⟩ = some (.int .i64 y.l) := hc 6 _ rfl
      have c7 : w.cell? ⟨g, off + n * 8 + 7, none⟩ = some (.int .i64 y.c) := hc 7 _ rfl
      obtain ⟨css, ho, hgs⟩ := HR.out
      obtain ⟨va, vc, rfl⟩ := cs_own ho
      obtain ⟨m, hm⟩ : ∃ m, m = ((x.ar.take n).map plA).length := ⟨_, rfl⟩
      have hmn : m ≤ 1000000 := by rw [hm, List.length_map, List.length_take]; omega
      have hml : m + 1 = ((x.ar.take (n + 1)).map plA).length := by rw [HMS.out, List.length_append, ← hm]; rfl
      rw [← hm] at ho HO
      have HOW := Lib.hid ho
      have HGS := Lib.hid hgs
      have HML := Lib.hid hml
      have HMM := Lib.hid hm
      have HD : Hid (Below wr.heap.size wr wr.drew) := Lib.hid ((Below.refl _ _).drew)
      have hwr := HB.out.size
      have HSW : Hid (∀ W, Below w.heap.size w W → W.heap[w.heap.size]? = some (.cells #[.string x.n, .slice (some ⟨g, off, none⟩) x.ar.length c, .int .i64 x.l, .int .i64 x.c] 47 (0, 0)) → W.heap[w.heap.size + 1 + 1]? = some (.cells #[.string x.n, .slice va m vc, .int .i64 0, .int .i64 0] 47 (0, 0)) → (W.cell? ⟨w.heap.size, 1, none⟩ = some (.slice (some ⟨g, off, none⟩) x.ar.length c) ∧ W.cell? ⟨w.heap.size + 1 + 1, 1, none⟩ = some (.slice va m vc) ∧ W.cell? ⟨g, off + n * 8, none⟩ = some (.int .i64 y.k) ∧ W.cell? ⟨g, off + n * 8 + 1, none⟩ = some (.string y.n) ∧ W.cell? ⟨g, off + n * 8 + 2, none⟩ = some (.int .i64 y.v.k) ∧ W.cell? ⟨g, off + n * 8 + 3, none⟩ = some (.int .i64 y.v.i) ∧ W.cell? ⟨g, off + n * 8 + 4, none⟩ = some (.string y.v.s) ∧ W.cell? ⟨g, off + n * 8 + 5, none⟩ = some (.bool y.v.b))) := Lib.hid (fun W hb h1 h2 => ⟨by rw [cell_of_row _ _ 1 _ _ _ h1]; rfl, by rw [cell_of_row _ _ 1 _ _ _ h2]; rfl, (hb.cell (p := ⟨g, off + n * 8, none⟩) hg).trans c0, (hb.cell (p := ⟨g, off + n * 8 + 1, none⟩) hg).trans c1, (hb.cell (p := ⟨g, off + n * 8 + 2, none⟩) hg).trans c2, (hb.cell (p := ⟨g, off + n * 8 + 3, none⟩) hg).trans c3, (hb.cell (p := ⟨g, off + n * 8 + 4, none⟩) hg).trans c4, (hb.cell (p := ⟨g, off + n * 8 + 5, none⟩) hg).trans c5⟩)
      clear hc hy hyo ho hgs hm hml c0 c1 c2 c3 c4 c5 c6 c7
      go_wp2_with fail
      clear z1
      refine wp_region_B (S := (fun W => W.cell? ⟨w.heap.size, 1, none⟩ = some (.slice (some ⟨g, off, none⟩) x.ar.length c) ∧ W.cell? ⟨w.heap.size + 1 + 1, 1, none⟩ = some (.slice va m vc) ∧ W.cell? ⟨g, off + n * 8, none⟩ = some (.int .i64 y.k) ∧ W.cell? ⟨g, off + n * 8 + 1, none⟩ = some (.string y.n) ∧ W.cell? ⟨g, off + n * 8 + 2, none⟩ = some (.int .i64 y.v.k) ∧ W.cell? ⟨g, off + n * 8 + 3, none⟩ = some (.int .i64 y.v.i) ∧ W.cell? ⟨g, off + n * 8 + 4, none⟩ = some (.string y.v.s) ∧ W.cell? ⟨g, off + n * 8 + 5, none⟩ = some (.bool y.v.b))) [24] (by kernel_rfl) (HSW.out _ HB.out.drew HX.out HO.out) (fun hH0 => ?_)
      refine wpB_take (i := 0) (v := .pointer (some ⟨w.heap.size + 1 + 1, 1, none⟩)) [24] rfl (by kernel_rfl) (by kernel_rfl) (by kernel_rfl) (by kernel_rfl) (fun _ _ _ h => h) (Or.inl ⟨by kernel_rfl, fun wS hSw => by (try dsimp only at hSw); go_simp⟩) hH0 ?_
      refine wpB_take (i := 1) (v := .slice va m vc) [24] rfl (by kernel_rfl) (by kernel_rfl) (by kernel_rfl) (by kernel_rfl) (fun _ _ _ h => h) (Or.inl ⟨by kernel_rfl, fun wS hSw => by (try dsimp only at hSw); go_simp⟩) hH0 ?_
      refine wpB_take (i := 2) (v := .pointer (some ⟨w.heap.size, 1, none⟩)) [24] rfl (by kernel_rfl) (by kernel_rfl) (by kernel_rfl) (by kernel_rfl) (fun _ _ _ h => h) (Or.inl ⟨by kernel_rfl, fun wS hSw => by (try dsimp only at hSw); go_simp⟩) hH0 ?_
      refine wpB_take (i := 3) (v := .slice (some ⟨g, off, none⟩) x.ar.length c) [24] rfl (by kernel_rfl) (by kernel_rfl) (by kernel_rfl) (by kernel_rfl) (fun _ _ _ h => h) (Or.inl ⟨by kernel_rfl, fun wS hSw => by (try dsimp only at hSw); go_simp⟩) hH0 ?_
      refine wpB_take (i := 4) (v := .int .i64 (n : Nat)) [24] rfl (by kernel_rfl) (by kernel_rfl) (by kernel_rfl) (by kernel_rfl) (fun _ _ _ h => h) (Or.inl ⟨by kernel_rfl, fun wS hSw => by (try dsimp only at hSw); go_simp⟩) hH0 ?_
      refine wpB_take (i := 5) (v := .pointer (some ⟨g, off + n * 8, none⟩)) [24] rfl (by kernel_rfl) (by kernel_rfl) (by kernel_rfl) (by kernel_rfl) (fun _ _ _ h => h) (Or.inl ⟨by kernel_rfl, fun wS hSw => by (try dsimp only at hSw); go_simp⟩) hH0 ?_
      refine wpB_take (i := 6) (v := .pointer (some ⟨g, off + n * 8, none⟩)) [24] rfl (by kernel_rfl) (by kernel_rfl) (by kernel_rfl) (by kernel_rfl) (fun _ _ _ h => h) (Or.inl ⟨by kernel_rfl, fun wS hSw => by (try dsimp only at hSw); go_simp⟩) hH0 ?_
      refine wpB_take (i := 7) (v := .int .i64 y.k) [24] rfl (by kernel_rfl) (by kernel_rfl) (by kernel_rfl) (by kernel_rfl) (fun _ _ _ h => h) (Or.inl ⟨by kernel_rfl, fun wS hSw => by (try dsimp only at hSw); go_simp⟩) hH0 ?_
      refine wpB_take (i := 8) (v := .pointer (some ⟨w.heap.size, 1, none⟩)) [24] rfl (by kernel_rfl) (by kernel_rfl) (by kernel_rfl) (by kernel_rfl) (fun _ _ _ h => h) (Or.inl ⟨by kernel_rfl, fun wS hSw => by (try dsimp only at hSw); go_simp⟩) hH0 ?_
      refine wpB_take (i := 9) (v := .slice (some ⟨g, off, none⟩) x.ar.length c) [24] rfl (by kernel_rfl) (by kernel_rfl) (by kernel_rfl) (by kernel_rfl) (fun _ _ _ h => h) (Or.inl ⟨by kernel_rfl, fun wS hSw => by (try dsimp only at hSw); go_simp⟩) hH0 ?_
      refine wpB_take (i := 10) (v := .int .i64 (n : Nat)) [24] rfl (by kernel_rfl) (by kernel_rfl) (by kernel_rfl) (by kernel_rfl) (fun _ _ _ h => h) (Or.inl ⟨by kernel_rfl, fun wS hSw => by (try dsimp only at hSw); go_simp⟩) hH0 ?_
      refine wpB_take (i := 11) (v := .pointer (some ⟨g, off + n * 8, none⟩)) [24] rfl (by kernel_rfl) (by kernel_rfl) (by kernel_rfl) (by kernel_rfl) (fun _ _ _ h => h) (Or.inl ⟨by kernel_rfl, fun wS hSw => by (try dsimp only at hSw); go_simp⟩) hH0 ?_
      refine wpB_take (i := 12) (v := .pointer (some ⟨g, off + n * 8 + 1, none⟩)) [24] rfl (by kernel_rfl) (by kernel_rfl) (by kernel_rfl) (by kernel_rfl) (fun _ _ _ h => h) (Or.inl ⟨by kernel_rfl, fun wS hSw => by (try dsimp only at hSw); go_simp⟩) hH0 ?_
      refine wpB_take (i := 13) (v := .string y.n) [24] rfl (by kernel_rfl) (by kernel_rfl) (by kernel_rfl) (by kernel_rfl) (fun _ _ _ h => h) (Or.inl ⟨by kernel_rfl, fun wS hSw => by (try dsimp only at hSw); go_simp⟩) hH0 ?_
      refine wpB_take (i := 14) (v := .pointer (some ⟨w.heap.size, 1, none⟩)) [24] rfl (by kernel_rfl) (by kernel_rfl) (by kernel_rfl) (by kernel_rfl) (fun _ _ _ h => h) (Or.inl ⟨by kernel_rfl, fun wS hSw => by (try dsimp only at hSw); go_simp⟩) hH0 ?_
      refine wpB_take (i := 15) (v := .slice (some ⟨g, off, none⟩) x.ar.length c) [24] rfl (by kernel_rfl) (by kernel_rfl) (by kernel_rfl) (by kernel_rfl) (fun _ _ _ h => h) (Or.inl ⟨by kernel_rfl, fun wS hSw => by (try dsimp only at hSw); go_simp⟩) hH0 ?_
      refine wpB_take (i := 16) (v := .int .i64 (n : Nat)) [24] rfl (by kernel_rfl) (by kernel_rfl) (by kernel_rfl) (by kernel_rfl) (fun _ _ _ h => h) (Or.inl ⟨by kernel_rfl, fun wS hSw => by (try dsimp only at hSw); go_simp⟩) hH0 ?_
      refine wpB_take (i := 17) (v := .pointer (some ⟨g, off + n * 8, none⟩)) [24] rfl (by kernel_rfl) (by kernel_rfl) (by kernel_rfl) (by kernel_rfl) (fun _ _ _ h => h) (Or.inl ⟨by kernel_rfl, fun wS hSw => by (try dsimp only at hSw); go_simp⟩) hH0 ?_
      refine wpB_take (i := 18) (v := .pointer (some ⟨g, off + n * 8 + 2, none⟩)) [24] rfl (by kernel_rfl) (by kernel_rfl) (by kernel_rfl) (by kernel_rfl) (fun _ _ _ h => h) (Or.inl ⟨by kernel_rfl, fun wS hSw => by (try dsimp only at hSw); go_simp⟩) hH0 ?_
      refine wpB_take (i := 19) (v := .agg #[.int .i64 y.v.k, .int .i64 y.v.i, .string y.v.s, .bool y.v.b]) [24] rfl (by kernel_rfl) (by kernel_rfl) (by kernel_rfl) (by kernel_rfl) (fun _ _ _ h => h) (Or.inl ⟨by kernel_rfl, fun wS hSw => by (try dsimp only at hSw); go_simp⟩) hH0 ?_
      refine wpB_take (i := 20) (v := .agg #[.int .i64 y.k, .string y.n, .int .i64 y.v.k, .int .i64 y.v.i, .string y.v.s, .bool y.v.b, .int .i64 0, .int .i64 0]) [24] rfl (by kernel_rfl) (by kernel_rfl) (by kernel_rfl) (by kernel_rfl) (fun _ _ _ h => h) (Or.inl ⟨by kernel_rfl, fun wS hSw => by (try dsimp only at hSw); go_simp⟩) hH0 ?_
      have HA1 : Hid (Below wr.heap.size wr (wr.drew.alloc (.cells #[.int .i64 y.k, .string y.n, .int .i64 y.v.k, .int .i64 y.v.i, .string y.v.s, .bool y.v.b, .int .i64 0, .int .i64 0] 101))) := Lib.hid (HD.out.alloc (by simp) _)
      have HKA := Lib.hid (KU.of_below (U := 101) HA1.out)
      have HBA := Lib.hid (HB.out.trans (HA1.out.mono HB.out.size))
      have HOW2 := Lib.hid (ownsRow_heap HOW.out (fun g hc => HA1.out.block g hc.lt))
      have nw := new_cells wr.drew [.int .i64 y.k, .string y.n, .int .i64 y.v.k, .int .i64 y.v.i, .string y.v.s, .bool y.v.b, .int .i64 0, .int .i64 0] 101
      refine wpB_step (i := 21) rfl (by kernel_rfl) (fun K hK => ?_)
      rw [if_pos (by kernel_rfl)]
      go_simp
      refine hK.out _ _ (HSW.out _ HBA.out (HKA.out.obj HX.out (by decide)) (HKA.out.obj HO.out (by decide))) (fun hH1 => ?_)
      clear hK K
      refine wpB_step (i := 22) rfl (by kernel_rfl) (fun K hK => ?_)
      rw [if_pos (by kernel_rfl)]
      refine wp_append_own _ _ _ 45 rfl w.heap.size 101 i0 _ 8 80 Tryz.underlying45 HI.out HZ0.out HZ1.out HZ2.out rfl (by decide) (.slice va m vc) _ _ rfl HOW2.out ⟨wr.heap.size, 0, none⟩ 1 1 [.int .i64 y.k, .string y.n, .int .i64 y.v.k, .int .i64 y.v.i, .string y.v.s, .bool y.v.b, .int .i64 0, .int .i64 0] rfl rfl nw (by intro u hu; simp only [List.mem_cons, List.not_mem_nil, or_false] at hu; rcases hu with rfl | rfl | rfl | rfl | rfl | rfl | rfl | rfl <;> rfl) (by unfold maxLen; omega) (by omega) (by simp; omega) ?_
      intro v4 w4 ho4 hg4 _
      have HK4 : Hid (KU 101 wr w4) := Lib.hid (HKA.out.trans (KU.grown HOW2.out hg4))
      have HB4 : Hid (Below w.heap.size w w4) := Lib.hid (HBA.out.grown hg4 (by simp; omega) (fun k hk => (HOW2.out.lt k hk).1))
      have HX4 := Lib.hid (HK4.out.obj HX.out (by decide))
      have HY4 := Lib.hid (HK4.out.obj HY.out (by decide))
      have HO4 := Lib.hid (HK4.out.obj HO.out (by decide))
      obtain ⟨va4, vc4, rfl⟩ := cs_own ho4
      have HW4 := Lib.hid ho4
      clear ho4 hg4 nw
      refine hK.out _ _ (HSW.out _ HB4.out HX4.out HO4.out) (fun hH2 => ?_)
      clear hK K
      refine wpB_take (i := 23) (v := .pointer (some ⟨w.heap.size + 1 + 1, 1, none⟩)) [24] rfl (by kernel_rfl) (by kernel_rfl) (by kernel_rfl) (by kernel_rfl) (fun _ _ _ h => h) (Or.inl ⟨by kernel_rfl, fun wS hSw => by (try dsimp only at hSw); go_simp⟩) hH2 ?_
      clear hH0 hH1 hH2
      have c1 : w4.cell? ⟨w.heap.size + 1 + 1, 1, none⟩ = some (.slice va m vc) := by rw [cell_of_row _ _ 1 _ _ _ HO4.out]; rfl
      have f1 : w4.frozen? ⟨w.heap.size + 1 + 1, 1, none⟩ = false := frozen_of_row _ _ 1 _ _ HO4.out
      refine wpB_past (i := 24) rfl (by kernel_rfl) (by kernel_rfl) (fun K hK => ?_)
      rw [if_pos (by kernel_rfl)]
      go_simp
      refine hK.out _ _ ?_
      clear hK K
      refine wpB_done (by kernel_rfl) ?_ _
      go_simp
      have HC4 : Hid (CBlk w4 (w.heap.size + 1 + 1) 47) := Lib.hid ⟨_, _, HO4.out⟩
      have HK5 := Lib.hid (KU.set HC4.out 1 (.slice va4 (m + 1) vc4))
      have HR5 : Hid (Row rAg 101 8 w.heap.size (w4.setCell ⟨w.heap.size + 1 + 1, 1, none⟩ (.slice va4 (m + 1) vc4)) (.slice va4 (m + 1) vc4) ((x.ar.take (n + 1)).map plA)) := Lib.hid (by
        rw [HMS.out]
        refine Row.ku (Row.snoc (cs := [.int .i64 y.k, .string y.n, .int .i64 y.v.k, .int .i64 y.v.i, .string y.v.s, .bool y.v.b, .int .i64 0, .int .i64 0]) (x := plA y) ?_ (HGS.out.kept (fun _ _ _ h => RF.any h)) rfl ⟨rfl, HYO.out⟩) HK5.out (by decide) (fun _ _ _ h => RF.any h)
        rw [← HMM.out]
        exact HW4.out)
      have hs4 := HB4.out.size
      go_wp2_with fail
      go_roundw
      case rel => exact ⟨n + 1, .slice va4 (m + 1) vc4, by omega, by go_num, Lib.hid ((heap_setCell_other _ _ _ _ (show w.heap.size ≠ w.heap.size + 1 + 1 by omega)).trans HX4.out), Lib.hid ((heap_setCell_other _ _ _ _ (show w.heap.size + 1 ≠ w.heap.size + 1 + 1 by omega)).trans HY4.out), Lib.hid (heap_setCell_same _ _ 1 _ _ _ HO4.out), HR5, Lib.hid (HB4.out.setCell (by show w.heap.size ≤ w.heap.size + 1 + 1; omega) _)⟩
      case measure => simp [intOf] <;> omega
end Go.Proofs.YtojabkhfkbfeaaaGreatDoor
