/- Trees without their places, by the reference: Plain's last loop, over transitions, and its end. -/
import Derived.Test.YtojabkhfkbfeaaaGreatDoorLowTrBare
import Derived.Deep.CutRange
namespace Go.Proofs.YtojabkhfkbfeaaaGreatDoor
open Go.RowKit
set_option linter.unusedVariables false

/-- What is left of a row of statements behind some of them. -/
def dropSeq : Nat → Code → Code
  | 0, c => c
  | n + 1, .seq _ b => dropSeq n b
  | _, c => c
theorem pls_new {w W1 : World} {x : Tr} {C : Array Value} {q : Nat} (hb : Below (w.heap.size + 2) ((w.alloc (.cells C 31)).alloc (.cells #[.string ⟨#[]⟩, .int .i64 0, .int .i64 0, .slice none 0 0, .slice none 0 0, .slice none 0 0, .slice none 0 0, .string ⟨#[]⟩, .int .i64 0, .int .i64 0, .slice none 0 0, .slice none 0 0] 31)) W1) (hq : w.heap.size + 1 < q) (ho : W1.heap[q]? = some (.cells #[.string x.n.t, .int .i64 0, .int .i64 0, .slice none 0 0, .slice none 0 0, .slice none 0 0, .slice none 0 0, .string x.s.t, .int .i64 0, .int .i64 0, .slice none 0 0, .slice none 0 0] 31 (0, 0))) :
    PlS C w x q (.slice none 0 0) (.slice none 0 0) (.slice none 0 0) (.slice none 0 0) (.slice none 0 0) (.slice none 0 0) [] [] [] [] [] [] W1 :=
  ⟨(((Below.refl w.heap.size w).alloc (Nat.le_refl _) _).alloc (by simp) _).trans (hb.mono (Nat.le_add_right _ 2)), hq, (hb.block w.heap.size (by omega)).trans (heap_alloc2_old w _ _), (hb.block (w.heap.size + 1) (by omega)).trans (heap_alloc2_new w _ _), ho, Row.nil, Row.nil, Row.nil, Row.nil, Row.nil, Row.nil⟩
theorem tss_new {CY : Array Value} {wr W : World} {y : Ts} {p : Nat} {oa : Option Addr} {M : List Ag} {oc : Nat} (hb : Below wr.heap.size wr W) (hp : wr.heap.size < p) (h1 : W.heap[wr.heap.size]? = some (.cells CY 51 (0, 0))) (h2 : W.heap[p]? = some (.cells (XC y oa M oc (.slice none 0 0) (.slice none 0 0)) 51 (0, 0))) (hg : GIn rAg tyT.ag True 8 W oa M.length M) :
    TsS CY wr y wr.heap.size p oa M oc (.slice none 0 0) (.slice none 0 0) [] [] W := ⟨hb, Nat.le_refl _, hp, h1, h2, hg, Row.nil, Row.nil⟩
theorem row_len {α β : Type} {f : α → β} {L : List α} {n m : Nat} {y : α} (hy : L[n]? = some y) (hm : m = ((L.take n).map f).length) : m + 1 = ((L.take (n + 1)).map f).length := by
  rw [map_snoc hy, List.length_append, ← hm]; rfl
theorem take_le {α β : Type} {f : α → β} {L : List α} {n m : Nat} (hl : L.length ≤ 1000000) (hm : m = ((L.take n).map f).length) : m ≤ 1000000 := by
  rw [hm, List.length_map, List.length_take]; omega

set_option maxHeartbeats 80000000 in
set_option maxRecDepth 1000000 in
theorem tail6 {Y : TyT} {O : Prop} (x : Tr) (w : World) (da : Option Addr) (dc : Nat) (qa : Option Addr) (qc : Nat) (fa : Option Addr) (fc : Nat) (ta : Option Addr) (tc : Nat) (la : Option Addr) (lc : Nat) (xa : Option Addr) (xc : Nat) (g0 : GIn (rDe Y O) Y.de O 4 w da x.ds.length x.ds) (g1 : GIn rQu Y.qu O 5 w qa x.qs.length x.qs) (g2 : GIn rFr Y.fr O 7 w fa x.fs.length x.fs) (g3 : GIn rSta Y.st O 5 w ta x.st.length x.st) (g4 : GIn (rSy Y O) Y.sy O 4 w la x.al.length x.al) (g5 : GIn (rTs Y O) Y.ts O 13 w xa x.ts.length x.ts) (hok : okS x.n.t ∧ okS x.s.t) (hs : SmT x) {q : Nat} {v0 v1 v2 v3 v4 v5 : Value} {wr : World}
    (HP0 : Hid (PlS #[.string x.n.t, .int .i64 x.n.l, .int .i64 x.n.c, .slice da x.ds.length dc, .slice qa x.qs.length qc, .slice fa x.fs.length fc, .slice ta x.st.length tc, .string x.s.t, .int .i64 x.s.l, .int .i64 x.s.c, .slice la x.al.length lc, .slice xa x.ts.length xc] w x q v0 v1 v2 v3 v4 v5 (x.ds.map plDe) (x.qs.map plQu) (x.fs.map plFr) (x.st.map plSta) (x.al.map plS) (x.ts.map plTs) wr)) {s0 s4 s5 s6 s7 s8 s9 s10 s11 s12 s13 s14 s15 s16 s17 s18 s19 s20 s21 s22 s23 s24 s25 s26 s27 s28 s29 s30 s31 s32 s33 s34 s35 s36 s37 s38 s39 s40 s41 s42 s43 s44 s45 s46 s47 s48 s49 s50 s51 s52 s53 s54 s55 s56 s57 s58 s59 s60 s61 s62 s63 s64 s65 s66 s67 s68 s69 s70 s71 s72 s73 s74 s75 s76 s77 s78 s79 s80 s81 s82 s83 s84 s85 s86 s87 s88 s89 s90 s91 s92 s93 s94 s95 s96 s97 s98 s99 s100 s101 s102 s103 s104 s105 s106 s107 s108 s109 s110 s111 s112 s113 s114 s115 s116 s117 s118 s119 s120 s121 s122 s123 s124 s125 s126 s127 s128 s129 s130 s131 s132 s133 s134 s135 s136 s137 s138 s139 s140 s141 s142 s143 s144 s145 s146 s147 s148 s149 s150 s151 s152 s153 s154 s155 s156 s157 s158 s159 s160 s161 s162 s163 s164 s165 s166 s167 s168 s169 s170 s171 s172 s173 s174 s175 s176 s177 s178 s179 s180 s181 s182 s183 s184 s185 s186 s187 s188 s189 s190 s191 s192 s193 s194 s195 s196 s197 s198 s199 s200 s201 s202 s203 s204 s205 s206 s207 s208 s209 s210 s211 s212 s213 s214 s215 s216 s217 s218 s219 s220 s221 s222 s223 s224 s225 s226 s227 s228 s229 s230 : Value} : Code.wp Tryz.prog (dropSeq 8 (Tryz.f10.body.getD .skip)) (bodyPost Tryz.prog Tryz.f10 (MadeTr (plT x) w)) ⟨#[s0, .pointer (some ⟨w.heap.size, 0, none⟩), .pointer (some ⟨w.heap.size + 1, 0, none⟩), .pointer (some ⟨q, 0, none⟩), s4, s5, s6, s7, s8, s9, s10, s11, s12, s13, s14, s15, s16, s17, s18, s19, s20, s21, s22, s23, s24, s25, s26, s27, s28, s29, s30, s31, s32, s33, s34, s35, s36, s37, s38, s39, s40, s41, s42, s43, s44, s45, s46, s47, s48, s49, s50, s51, s52, s53, s54, s55, s56, s57, s58, s59, s60, s61, s62, s63, s64, s65, s66, s67, s68, s69, s70, s71, s72, s73, s74, s75, s76, s77, s78, s79, s80, s81, s82, s83, s84, s85, s86, s87, s88, s89, s90, s91, s92, s93, s94, s95, s96, s97, s98, s99, s100, s101, s102, s103, s104, s105, s106, s107, s108, s109, s110, s111, s112, s113, s114, s115, s116, s117, s118, s119, s120, s121, s122, s123, s124, s125, s126, s127, s128, s129, s130, s131, s132, s133, s134, s135, s136, s137, s138, s139, s140, s141, s142, s143, s144, s145, s146, s147, s148, s149, s150, s151, s152, s153, s154, s155, s156, s157, s158, s159, s160, s161, s162, s163, s164, s165, s166, s167, s168, s169, s170, s171, s172, s173, s174, s175, s176, s177, s178, s179, s180, s181, s182, s183, s184, s185, s186, s187, s188, s189, s190, s191, s192, s193, s194, s195, s196, s197, s198, s199, s200, s201, s202, s203, s204, s205, s206, s207, s208, s209, s210, s211, s212, s213, s214, s215, s216, s217, s218, s219, s220, s221, s222, s223, s224, s225, s226, s227, s228, s229, s230], []⟩ wr := by
  have HOK := Lib.hid hok
  have HSM := Lib.hid hs
  have HN := Lib.hid (fun (z : Id3) w1 => ident_calls z w1)
  have s_0 := g0.small
  have G0 := Lib.hid g0
  have l0 := hs.l0
  have s_1 := g1.small
  have G1 := Lib.hid g1
  have l1 := hs.l1
  have s_2 := g2.small
  have G2 := Lib.hid g2
  have l2 := hs.l2
  have s_3 := g3.small
  have G3 := Lib.hid g3
  have l3 := hs.l3
  have s_4 := g4.small
  have G4 := Lib.hid g4
  have l4 := hs.l4
  have s_5 := g5.small
  have G5 := Lib.hid g5
  have l5 := hs.l5
  obtain ⟨i0De, hi, hz0, hz1, hz2⟩ := info_parts infoDe
  have HIDe := Lib.hid hi
  have HZ0De := Lib.hid hz0
  have HZ1De := Lib.hid hz1
  have HZ2De := Lib.hid hz2
  clear hi hz0 hz1 hz2
  obtain ⟨i0Qu, hi, hz0, hz1, hz2⟩ := info_parts infoQu
  have HIQu := Lib.hid hi
  have HZ0Qu := Lib.hid hz0
  have HZ1Qu := Lib.hid hz1
  have HZ2Qu := Lib.hid hz2
  clear hi hz0 hz1 hz2
  obtain ⟨i0Fr, hi, hz0, hz1, hz2⟩ := info_parts infoFr
  have HIFr := Lib.hid hi
  have HZ0Fr := Lib.hid hz0
  have HZ1Fr := Lib.hid hz1
  have HZ2Fr := Lib.hid hz2
  clear hi hz0 hz1 hz2
  obtain ⟨i0Sta, hi, hz0, hz1, hz2⟩ := info_parts infoSta
  have HISta := Lib.hid hi
  have HZ0Sta := Lib.hid hz0
  have HZ1Sta := Lib.hid hz1
  have HZ2Sta := Lib.hid hz2
  clear hi hz0 hz1 hz2
  obtain ⟨i0Sy, hi, hz0, hz1, hz2⟩ := info_parts infoSy
  have HISy := Lib.hid hi
  have HZ0Sy := Lib.hid hz0
  have HZ1Sy := Lib.hid hz1
  have HZ2Sy := Lib.hid hz2
  clear hi hz0 hz1 hz2
  obtain ⟨i0Ts, hi, hz0, hz1, hz2⟩ := info_parts infoTs
  have HITs := Lib.hid hi
  have HZ0Ts := Lib.hid hz0
  have HZ1Ts := Lib.hid hz1
  have HZ2Ts := Lib.hid hz2
  clear hi hz0 hz1 hz2
  obtain ⟨i0Ex, hi, hz0, hz1, hz2⟩ := info_parts infoEx
  have HIEx := Lib.hid hi
  have HZ0Ex := Lib.hid hz0
  have HZ1Ex := Lib.hid hz1
  have HZ2Ex := Lib.hid hz2
  clear hi hz0 hz1 hz2
  obtain ⟨i0Se, hi, hz0, hz1, hz2⟩ := info_parts infoSe
  have HISe := Lib.hid hi
  have HZ0Se := Lib.hid hz0
  have HZ1Se := Lib.hid hz1
  have HZ2Se := Lib.hid hz2
  clear hi hz0 hz1 hz2
  obtain ⟨i0Int, hi, hz0, hz1, hz2⟩ := info_parts infoInt
  have HIInt := Lib.hid hi
  have HZ0Int := Lib.hid hz0
  have HZ1Int := Lib.hid hz1
  have HZ2Int := Lib.hid hz2
  clear hi hz0 hz1 hz2
  clear g0 g1 g2 g3 g4 g5 hok hs
  conv => arg 2; whnf
  obtain ⟨da', dc', rfl⟩ := HP0.out.r0.slice
  obtain ⟨qa', qc', rfl⟩ := HP0.out.r1.slice
  obtain ⟨fa', fc', rfl⟩ := HP0.out.r2.slice
  obtain ⟨ta', tc', rfl⟩ := HP0.out.r3.slice
  obtain ⟨la', lc', rfl⟩ := HP0.out.r4.slice
  obtain ⟨xa', xc', rfl⟩ := HP0.out.r5.slice
  obtain ⟨M0, hM0⟩ : ∃ M, M = x.ds.map plDe := ⟨_, rfl⟩
  rw [← hM0] at HP0
  have HM0 := Lib.hid hM0
  obtain ⟨M1, hM1⟩ : ∃ M, M = x.qs.map plQu := ⟨_, rfl⟩
  rw [← hM1] at HP0
  have HM1 := Lib.hid hM1
  obtain ⟨M2, hM2⟩ : ∃ M, M = x.fs.map plFr := ⟨_, rfl⟩
  rw [← hM2] at HP0
  have HM2 := Lib.hid hM2
  obtain ⟨M3, hM3⟩ : ∃ M, M = x.st.map plSta := ⟨_, rfl⟩
  rw [← hM3] at HP0
  have HM3 := Lib.hid hM3
  obtain ⟨M4, hM4⟩ : ∃ M, M = x.al.map plS := ⟨_, rfl⟩
  rw [← hM4] at HP0
  have HM4 := Lib.hid hM4
  obtain ⟨M5, hM5⟩ : ∃ M, M = x.ts.map plTs := ⟨_, rfl⟩
  rw [← hM5] at HP0
  have HM5 := Lib.hid hM5
  clear hM0 hM1 hM2 hM3 hM4 hM5
  have HG0 := Lib.hid HP0.out.r0.gin.2
  have HG1 := Lib.hid HP0.out.r1.gin.2
  have HG2 := Lib.hid HP0.out.r2.gin.2
  have HG3 := Lib.hid HP0.out.r3.gin.2
  have HG4 := Lib.hid HP0.out.r4.gin.2
  have HG5 := Lib.hid HP0.out.r5.gin.2
  have c0 : wr.cell? ⟨q, 0, none⟩ = some (.string x.n.t) := by rw [cell_of_row _ _ 0 _ _ _ HP0.out.out]; rfl
  have c1 : wr.cell? ⟨q, 1, none⟩ = some (.int .i64 0) := by rw [cell_of_row _ _ 1 _ _ _ HP0.out.out]; rfl
  have c2 : wr.cell? ⟨q, 2, none⟩ = some (.int .i64 0) := by rw [cell_of_row _ _ 2 _ _ _ HP0.out.out]; rfl
  have c3 : wr.cell? ⟨q, 3, none⟩ = some (.slice da' M0.length dc') := by rw [cell_of_row _ _ 3 _ _ _ HP0.out.out]; rfl
  have c4 : wr.cell? ⟨q, 4, none⟩ = some (.slice qa' M1.length qc') := by rw [cell_of_row _ _ 4 _ _ _ HP0.out.out]; rfl
  have c5 : wr.cell? ⟨q, 5, none⟩ = some (.slice fa' M2.length fc') := by rw [cell_of_row _ _ 5 _ _ _ HP0.out.out]; rfl
  have c6 : wr.cell? ⟨q, 6, none⟩ = some (.slice ta' M3.length tc') := by rw [cell_of_row _ _ 6 _ _ _ HP0.out.out]; rfl
  have c7 : wr.cell? ⟨q, 7, none⟩ = some (.string x.s.t) := by rw [cell_of_row _ _ 7 _ _ _ HP0.out.out]; rfl
  have c8 : wr.cell? ⟨q, 8, none⟩ = some (.int .i64 0) := by rw [cell_of_row _ _ 8 _ _ _ HP0.out.out]; rfl
  have c9 : wr.cell? ⟨q, 9, none⟩ = some (.int .i64 0) := by rw [cell_of_row _ _ 9 _ _ _ HP0.out.out]; rfl
  have c10 : wr.cell? ⟨q, 10, none⟩ = some (.slice la' M4.length lc') := by rw [cell_of_row _ _ 10 _ _ _ HP0.out.out]; rfl
  have c11 : wr.cell? ⟨q, 11, none⟩ = some (.slice xa' M5.length xc') := by rw [cell_of_row _ _ 11 _ _ _ HP0.out.out]; rfl
  have d0 : wr.cell? ⟨w.heap.size + 1, 0, none⟩ = some (.string ⟨#[]⟩) := by rw [cell_of_row _ _ 0 _ _ _ HP0.out.res]; rfl
  have f0 : wr.frozen? ⟨w.heap.size + 1, 0, none⟩ = false := frozen_of_row _ _ 0 _ _ HP0.out.res
  have d1 : wr.cell? ⟨w.heap.size + 1, 1, none⟩ = some (.int .i64 0) := by rw [cell_of_row _ _ 1 _ _ _ HP0.out.res]; rfl
  have f1 : wr.frozen? ⟨w.heap.size + 1, 1, none⟩ = false := frozen_of_row _ _ 1 _ _ HP0.out.res
  have d2 : wr.cell? ⟨w.heap.size + 1, 2, none⟩ = some (.int .i64 0) := by rw [cell_of_row _ _ 2 _ _ _ HP0.out.res]; rfl
  have f2 : wr.frozen? ⟨w.heap.size + 1, 2, none⟩ = false := frozen_of_row _ _ 2 _ _ HP0.out.res
  have d3 : wr.cell? ⟨w.heap.size + 1, 3, none⟩ = some (.slice none 0 0) := by rw [cell_of_row _ _ 3 _ _ _ HP0.out.res]; rfl
  have f3 : wr.frozen? ⟨w.heap.size + 1, 3, none⟩ = false := frozen_of_row _ _ 3 _ _ HP0.out.res
  have d4 : wr.cell? ⟨w.heap.size + 1, 4, none⟩ = some (.slice none 0 0) := by rw [cell_of_row _ _ 4 _ _ _ HP0.out.res]; rfl
  have f4 : wr.frozen? ⟨w.heap.size + 1, 4, none⟩ = false := frozen_of_row _ _ 4 _ _ HP0.out.res
  have d5 : wr.cell? ⟨w.heap.size + 1, 5, none⟩ = some (.slice none 0 0) := by rw [cell_of_row _ _ 5 _ _ _ HP0.out.res]; rfl
  have f5 : wr.frozen? ⟨w.heap.size + 1, 5, none⟩ = false := frozen_of_row _ _ 5 _ _ HP0.out.res
  have d6 : wr.cell? ⟨w.heap.size + 1, 6, none⟩ = some (.slice none 0 0) := by rw [cell_of_row _ _ 6 _ _ _ HP0.out.res]; rfl
  have f6 : wr.frozen? ⟨w.heap.size + 1, 6, none⟩ = false := frozen_of_row _ _ 6 _ _ HP0.out.res
  have d7 : wr.cell? ⟨w.heap.size + 1, 7, none⟩ = some (.string ⟨#[]⟩) := by rw [cell_of_row _ _ 7 _ _ _ HP0.out.res]; rfl
  have f7 : wr.frozen? ⟨w.heap.size + 1, 7, none⟩ = false := frozen_of_row _ _ 7 _ _ HP0.out.res
  have d8 : wr.cell? ⟨w.heap.size + 1, 8, none⟩ = some (.int .i64 0) := by rw [cell_of_row _ _ 8 _ _ _ HP0.out.res]; rfl
  have f8 : wr.frozen? ⟨w.heap.size + 1, 8, none⟩ = false := frozen_of_row _ _ 8 _ _ HP0.out.res
  have d9 : wr.cell? ⟨w.heap.size + 1, 9, none⟩ = some (.int .i64 0) := by rw [cell_of_row _ _ 9 _ _ _ HP0.out.res]; rfl
  have f9 : wr.frozen? ⟨w.heap.size + 1, 9, none⟩ = false := frozen_of_row _ _ 9 _ _ HP0.out.res
  have d10 : wr.cell? ⟨w.heap.size + 1, 10, none⟩ = some (.slice none 0 0) := by rw [cell_of_row _ _ 10 _ _ _ HP0.out.res]; rfl
  have f10 : wr.frozen? ⟨w.heap.size + 1, 10, none⟩ = false := frozen_of_row _ _ 10 _ _ HP0.out.res
  have d11 : wr.cell? ⟨w.heap.size + 1, 11, none⟩ = some (.slice none 0 0) := by rw [cell_of_row _ _ 11 _ _ _ HP0.out.res]; rfl
  have f11 : wr.frozen? ⟨w.heap.size + 1, 11, none⟩ = false := frozen_of_row _ _ 11 _ _ HP0.out.res
  have HC : Hid (CBlk wr (w.heap.size + 1) 31) := Lib.hid ⟨_, _, HP0.out.res⟩
  have hsz : w.heap.size + 1 < wr.heap.size := HC.out.lt
  have HBF := Lib.hid HP0.out.below
  go_wp2_with fail
  refine bodyPost_ret (v := .agg #[.string x.n.t, .int .i64 0, .int .i64 0, .slice da' M0.length dc', .slice qa' M1.length qc', .slice fa' M2.length fc', .slice ta' M3.length tc', .string x.s.t, .int .i64 0, .int .i64 0, .slice la' M4.length lc', .slice xa' M5.length xc']) ?_ rfl ⟨[.string x.n.t, .int .i64 0, .int .i64 0, .slice da' M0.length dc', .slice qa' M1.length qc', .slice fa' M2.length fc', .slice ta' M3.length tc', .string x.s.t, .int .i64 0, .int .i64 0, .slice la' M4.length lc', .slice xa' M5.length xc'], rfl, tr_mk HM0.out HM1.out HM2.out HM3.out HM4.out HM5.out (gin_putD HG0.out HC.out (by decide) (by decide) 0 [.string x.n.t, .int .i64 0, .int .i64 0, .slice da' M0.length dc', .slice qa' M1.length qc', .slice fa' M2.length fc', .slice ta' M3.length tc', .string x.s.t, .int .i64 0, .int .i64 0, .slice la' M4.length lc', .slice xa' M5.length xc']) (gin_apart HG1.out HC.out (by decide) 0 [.string x.n.t, .int .i64 0, .int .i64 0, .slice da' M0.length dc', .slice qa' M1.length qc', .slice fa' M2.length fc', .slice ta' M3.length tc', .string x.s.t, .int .i64 0, .int .i64 0, .slice la' M4.length lc', .slice xa' M5.length xc']) (gin_apart HG2.out HC.out (by decide) 0 [.string x.n.t, .int .i64 0, .int .i64 0, .slice da' M0.length dc', .slice qa' M1.length qc', .slice fa' M2.length fc', .slice ta' M3.length tc', .string x.s.t, .int .i64 0, .int .i64 0, .slice la' M4.length lc', .slice xa' M5.length xc']) (gin_apart HG3.out HC.out (by decide) 0 [.string x.n.t, .int .i64 0, .int .i64 0, .slice da' M0.length dc', .slice qa' M1.length qc', .slice fa' M2.length fc', .slice ta' M3.length tc', .string x.s.t, .int .i64 0, .int .i64 0, .slice la' M4.length lc', .slice xa' M5.length xc']) (gin_putS HG4.out HC.out (by decide) (by decide) 0 [.string x.n.t, .int .i64 0, .int .i64 0, .slice da' M0.length dc', .slice qa' M1.length qc', .slice fa' M2.length fc', .slice ta' M3.length tc', .string x.s.t, .int .i64 0, .int .i64 0, .slice la' M4.length lc', .slice xa' M5.length xc']) (gin_putT HG5.out HC.out (by decide) (by decide) (by decide) (by decide) 0 [.string x.n.t, .int .i64 0, .int .i64 0, .slice da' M0.length dc', .slice qa' M1.length qc', .slice fa' M2.length fc', .slice ta' M3.length tc', .string x.s.t, .int .i64 0, .int .i64 0, .slice la' M4.length lc', .slice xa' M5.length xc']) HOK.out, ?_⟩
  · rw [results_cell rfl]
    go_simp
  · refine Below.trans HBF.out ?_
    repeat' (first | (with_reducible refine Below.setCell ?_ (by simp <;> omega) _) | (with_reducible refine Below.alloc ?_ (by simp <;> omega) _) | (with_reducible refine Below.drew ?_) | exact (Below.refl wr.heap.size wr).mono (by omega))

set_option maxHeartbeats 80000000 in
set_option maxRecDepth 1000000 in
theorem tail5 {Y : TyT} {O : Prop} (x : Tr) (w : World) (da : Option Addr) (dc : Nat) (qa : Option Addr) (qc : Nat) (fa : Option Addr) (fc : Nat) (ta : Option Addr) (tc : Nat) (la : Option Addr) (lc : Nat) (xa : Option Addr) (xc : Nat) (g0 : GIn (rDe Y O) Y.de O 4 w da x.ds.length x.ds) (g1 : GIn rQu Y.qu O 5 w qa x.qs.length x.qs) (g2 : GIn rFr Y.fr O 7 w fa x.fs.length x.fs) (g3 : GIn rSta Y.st O 5 w ta x.st.length x.st) (g4 : GIn (rSy Y O) Y.sy O 4 w la x.al.length x.al) (g5 : GIn (rTs Y O) Y.ts O 13 w xa x.ts.length x.ts) (hok : okS x.n.t ∧ okS x.s.t) (hs : SmT x) {q : Nat} {v0 v1 v2 v3 v4 v5 : Value} {wr : World}
    (HP0 : Hid (PlS #[.string x.n.t, .int .i64 x.n.l, .int .i64 x.n.c, .slice da x.ds.length dc, .slice qa x.qs.length qc, .slice fa x.fs.length fc, .slice ta x.st.length tc, .string x.s.t, .int .i64 x.s.l, .int .i64 x.s.c, .slice la x.al.length lc, .slice xa x.ts.length xc] w x q v0 v1 v2 v3 v4 v5 (x.ds.map plDe) (x.qs.map plQu) (x.fs.map plFr) (x.st.map plSta) (x.al.map plS) [] wr)) {s0 s4 s5 s6 s7 s8 s9 s10 s11 s12 s13 s14 s15 s16 s17 s18 s19 s20 s21 s22 s23 s24 s25 s26 s27 s28 s29 s30 s31 s32 s33 s34 s35 s36 s37 s38 s39 s40 s41 s42 s43 s44 s45 s46 s47 s48 s49 s50 s51 s52 s53 s54 s55 s56 s57 s58 s59 s60 s61 s62 s63 s64 s65 s66 s67 s68 s69 s70 s71 s72 s73 s74 s75 s76 s77 s78 s79 s80 s81 s82 s83 s84 s85 s86 s87 s88 s89 s90 s91 s92 s93 s94 s95 s96 s97 s98 s99 s100 s101 s102 s103 s104 s105 s106 s107 s108 s109 s110 s111 s112 s113 s114 s115 s116 s117 s118 s119 s120 s121 s122 s123 s124 s125 s126 s127 s128 s129 s130 s131 s132 s133 s134 s135 s136 s137 s138 s139 s140 s141 s142 s143 s144 s145 s146 s147 s148 s149 s150 s151 s152 s153 s154 s155 s156 s157 s158 s159 s160 s161 s162 s163 s164 s165 s166 s167 s168 s169 s170 s171 s172 s173 s174 s175 s176 s177 s178 s179 s180 s181 s182 s183 s184 s185 s186 s187 s188 s189 s190 s191 s192 s193 s194 s195 s196 s197 s198 s199 s200 s201 s202 s203 s204 s205 s206 s207 s208 s209 s210 s211 s212 s213 s214 s215 s216 s217 s218 s219 s220 s221 s222 s223 s224 s225 s226 s227 s228 s229 s230 : Value} : Code.wp Tryz.prog (dropSeq 7 (Tryz.f10.body.getD .skip)) (bodyPost Tryz.prog Tryz.f10 (MadeTr (plT x) w)) ⟨#[s0, .pointer (some ⟨w.heap.size, 0, none⟩), .pointer (some ⟨w.heap.size + 1, 0, none⟩), .pointer (some ⟨q, 0, none⟩), s4, s5, s6, s7, s8, s9, s10, s11, s12, s13, s14, s15, s16, s17, s18, s19, s20, s21, s22, s23, s24, s25, s26, s27, s28, s29, s30, s31, s32, s33, s34, s35, s36, s37, s38, s39, s40, s41, s42, s43, s44, s45, s46, s47, s48, s49, s50, s51, s52, s53, s54, s55, s56, s57, s58, s59, s60, s61, s62, s63, s64, s65, s66, s67, s68, s69, s70, s71, s72, s73, s74, s75, s76, s77, s78, s79, s80, s81, s82, s83, s84, s85, s86, s87, s88, s89, s90, s91, s92, s93, s94, s95, s96, s97, s98, s99, s100, s101, s102, s103, s104, s105, s106, s107, s108, s109, s110, s111, s112, s113, s114, s115, s116, s117, s118, s119, s120, s121, s122, s123, s124, s125, s126, s127, s128, s129, s130, s131, s132, s133, s134, s135, s136, s137, s138, s139, s140, s141, s142, s143, s144, s145, s146, s147, s148, s149, s150, s151, s152, s153, s154, s155, s156, s157, s158, s159, s160, s161, s162, s163, s164, s165, s166, s167, s168, s169, s170, s171, s172, s173, s174, s175, s176, s177, s178, s179, s180, s181, s182, s183, s184, s185, s186, s187, s188, s189, s190, s191, s192, s193, s194, s195, s196, s197, s198, s199, s200, s201, s202, s203, s204, s205, s206, s207, s208, s209, s210, s211, s212, s213, s214, s215, s216, s217, s218, s219, s220, s221, s222, s223, s224, s225, s226, s227, s228, s229, s230], []⟩ wr := by
  have HOK := Lib.hid hok
  have HSM := Lib.hid hs
  have HN := Lib.hid (fun (z : Id3) w1 => ident_calls z w1)
  have s_0 := g0.small
  have G0 := Lib.hid g0
  have l0 := hs.l0
  have s_1 := g1.small
  have G1 := Lib.hid g1
  have l1 := hs.l1
  have s_2 := g2.small
  have G2 := Lib.hid g2
  have l2 := hs.l2
  have s_3 := g3.small
  have G3 := Lib.hid g3
  have l3 := hs.l3
  have s_4 := g4.small
  have G4 := Lib.hid g4
  have l4 := hs.l4
  have s_5 := g5.small
  have G5 := Lib.hid g5
  have l5 := hs.l5
  obtain ⟨i0De, hi, hz0, hz1, hz2⟩ := info_parts infoDe
  have HIDe := Lib.hid hi
  have HZ0De := Lib.hid hz0
  have HZ1De := Lib.hid hz1
  have HZ2De := Lib.hid hz2
  clear hi hz0 hz1 hz2
  obtain ⟨i0Qu, hi, hz0, hz1, hz2⟩ := info_parts infoQu
  have HIQu := Lib.hid hi
  have HZ0Qu := Lib.hid hz0
  have HZ1Qu := Lib.hid hz1
  have HZ2Qu := Lib.hid hz2
  clear hi hz0 hz1 hz2
  obtain ⟨i0Fr, hi, hz0, hz1, hz2⟩ := info_parts infoFr
  have HIFr := Lib.hid hi
  have HZ0Fr := Lib.hid hz0
  have HZ1Fr := Lib.hid hz1
  have HZ2Fr := Lib.hid hz2
  clear hi hz0 hz1 hz2
  obtain ⟨i0Sta, hi, hz0, hz1, hz2⟩ := info_parts infoSta
  have HISta := Lib.hid hi
  have HZ0Sta := Lib.hid hz0
  have HZ1Sta := Lib.hid hz1
  have HZ2Sta := Lib.hid hz2
  clear hi hz0 hz1 hz2
  obtain ⟨i0Sy, hi, hz0, hz1, hz2⟩ := info_parts infoSy
  have HISy := Lib.hid hi
  have HZ0Sy := Lib.hid hz0
  have HZ1Sy := Lib.hid hz1
  have HZ2Sy := Lib.hid hz2
  clear hi hz0 hz1 hz2
  obtain ⟨i0Ts, hi, hz0, hz1, hz2⟩ := info_parts infoTs
  have HITs := Lib.hid hi
  have HZ0Ts := Lib.hid hz0
  have HZ1Ts := Lib.hid hz1
  have HZ2Ts := Lib.hid hz2
  clear hi hz0 hz1 hz2
  obtain ⟨i0Ex, hi, hz0, hz1, hz2⟩ := info_parts infoEx
  have HIEx := Lib.hid hi
  have HZ0Ex := Lib.hid hz0
  have HZ1Ex := Lib.hid hz1
  have HZ2Ex := Lib.hid hz2
  clear hi hz0 hz1 hz2
  obtain ⟨i0Se, hi, hz0, hz1, hz2⟩ := info_parts infoSe
  have HISe := Lib.hid hi
  have HZ0Se := Lib.hid hz0
  have HZ1Se := Lib.hid hz1
  have HZ2Se := Lib.hid hz2
  clear hi hz0 hz1 hz2
  obtain ⟨i0Int, hi, hz0, hz1, hz2⟩ := info_parts infoInt
  have HIInt := Lib.hid hi
  have HZ0Int := Lib.hid hz0
  have HZ1Int := Lib.hid hz1
  have HZ2Int := Lib.hid hz2
  clear hi hz0 hz1 hz2
  clear g0 g1 g2 g3 g4 g5 hok hs
  conv => arg 2; whnf
  go_wp2_with fail
  rename_i hcont
  have HCONT := Lib.hid hcont
  clear hcont
  go_loopw [11] (fun i wr => ∃ (n : Nat) (v0 v1 v2 v3 v4 v5 : Value), n ≤ x.ts.length ∧ i = .int .i64 n ∧ Hid (PlS #[.string x.n.t, .int .i64 x.n.l, .int .i64 x.n.c, .slice da x.ds.length dc, .slice qa x.qs.length qc, .slice fa x.fs.length fc, .slice ta x.st.length tc, .string x.s.t, .int .i64 x.s.l, .int .i64 x.s.c, .slice la x.al.length lc, .slice xa x.ts.length xc] w x q v0 v1 v2 v3 v4 v5 (x.ds.map plDe) (x.qs.map plQu) (x.fs.map plFr) (x.st.map plSta) (x.al.map plS) ((x.ts.take n).map plTs) wr)) (fun i _ => x.ts.length - (intOf i).toNat)
  case atStart => exact ⟨0, _, _, _, _, _, _, Nat.zero_le _, rfl, Lib.hid HP0.out⟩
  case round =>
    obtain ⟨n, v0, v1, v2, v3, v4, v5, hn, rfl, HP⟩ := hrel
    have zb : wr.cell? ⟨w.heap.size, 11, none⟩ = some (.slice xa x.ts.length xc) := by rw [cell_of_row _ _ 11 _ _ _ HP.out.box]; rfl
    by_cases h : n < x.ts.length
    case neg =>
      have HPn : Hid (PlS #[.string x.n.t, .int .i64 x.n.l, .int .i64 x.n.c, .slice da x.ds.length dc, .slice qa x.qs.length qc, .slice fa x.fs.length fc, .slice ta x.st.length tc, .string x.s.t, .int .i64 x.s.l, .int .i64 x.s.c, .slice la x.al.length lc, .slice xa x.ts.length xc] w x q v0 v1 v2 v3 v4 v5 (x.ds.map plDe) (x.qs.map plQu) (x.fs.map plFr) (x.st.map plSta) (x.al.map plS) (x.ts.map plTs) wr) := Lib.hid (by have := HP.out; rwa [List.take_of_length_le (by omega)] at this)
      go_wp2_with fail
      refine HCONT.out _ _ ?_
      exact tail6 x w da dc qa qc fa fc ta tc la lc xa xc G0.out G1.out G2.out G3.out G4.out G5.out HOK.out HSM.out HPn
    case pos =>
      obtain ⟨y, hy⟩ := at_some (L := x.ts) rfl h
      have HYY := Lib.hid hy
      obtain ⟨g, off, csy, rfl, hg, _, hc, hry, _⟩ := G5.out.at' n y hy
      have HRY := Lib.hid hry
      obtain ⟨oa1, oc1, na1, nc1, sa1, sc1, rfl, g11, g21, g31, g41⟩ := hry
      have c0_ : w.cell? ⟨g, off + n * 13, none⟩ = some (.string y.f.t) := hc 0 _ rfl
      have c1_ : w.cell? ⟨g, off + n * 13 + 1, none⟩ = some (.int .i64 y.f.l) := hc 1 _ rfl
      have c2_ : w.cell? ⟨g, off + n * 13 + 2, none⟩ = some (.int .i64 y.f.c) := hc 2 _ rfl
      have c3_ : w.cell? ⟨g, off + n * 13 + 3, none⟩ = some (.string y.t.t) := hc 3 _ rfl
      have c4_ : w.cell? ⟨g, off + n * 13 + 4, none⟩ = some (.int .i64 y.t.l) := hc 4 _ rfl
      have c5_ : w.cell? ⟨g, off + n * 13 + 5, none⟩ = some (.int .i64 y.t.c) := hc 5 _ rfl
      have c6_ : w.cell? ⟨g, off + n * 13 + 6, none⟩ = some (.string y.on.n) := hc 6 _ rfl
      have c7_ : w.cell? ⟨g, off + n * 13 + 7, none⟩ = some (.slice oa1 y.on.ar.length oc1) := hc 7 _ rfl
      have c8_ : w.cell? ⟨g, off + n * 13 + 8, none⟩ = some (.int .i64 y.on.l) := hc 8 _ rfl
      have c9_ : w.cell? ⟨g, off + n * 13 + 9, none⟩ = some (.int .i64 y.on.c) := hc 9 _ rfl
      have c10_ : w.cell? ⟨g, off + n * 13 + 10, none⟩ = some (.slice na1 y.ns.length nc1) := hc 10 _ rfl
      have c11_ : w.cell? ⟨g, off + n * 13 + 11, none⟩ = some (.int .i64 y.g) := hc 11 _ rfl
      have c12_ : w.cell? ⟨g, off + n * 13 + 12, none⟩ = some (.slice sa1 y.ss.length sc1) := hc 12 _ rfl
      obtain ⟨va, vc, rfl⟩ := HP.out.r5.slice
      obtain ⟨m, hm⟩ : ∃ m, m = ((x.ts.take n).map plTs).length := ⟨_, rfl⟩
      have hmn := take_le l5 hm
      have HML := Lib.hid (row_len hy hm)
      rw [← hm] at HP
      have HMM := Lib.hid hm
      have HOLT : Hid (∀ k, (Value.slice va m vc).ownBlock = some k → k < wr.heap.size) := Lib.hid (fun k hk => by obtain ⟨css, ho, _⟩ := HP.out.r5; rw [← hm] at ho; exact (ho.lt k hk).2)
      obtain ⟨wo, hwo⟩ : ∃ u, u = wr := ⟨_, rfl⟩
      subst hwo
      have HYOK := Lib.hid g41
      have t1 := g11.small
      have t2 := g21.small
      have t3 := g31.small
      have HSMT := Lib.hid (HSM.out.t y (List.mem_of_getElem? hy))
      have HBr := Lib.hid (fun w1 (hb : Below w.heap.size w w1) => bare_calls y.on [.string y.on.n, .slice oa1 y.on.ar.length oc1, .int .i64 y.on.l, .int .i64 y.on.c] w1 (⟨oa1, oc1, rfl, g11.belowF hb, g41.2.2⟩ : rSy Y O w1 _ y.on) HSMT.out.1)
      have HGN := Lib.hid g21
      have HGS_ := Lib.hid g31
      have a0_ : wo.cell? ⟨g, off + n * 13, none⟩ = some (.string y.f.t) := (HP.out.below.cell (p := ⟨g, off + n * 13, none⟩) hg).trans c0_
      have a1_ : wo.cell? ⟨g, off + n * 13 + 1, none⟩ = some (.int .i64 y.f.l) := (HP.out.below.cell (p := ⟨g, off + n * 13 + 1, none⟩) hg).trans c1_
      have a2_ : wo.cell? ⟨g, off + n * 13 + 2, none⟩ = some (.int .i64 y.f.c) := (HP.out.below.cell (p := ⟨g, off + n * 13 + 2, none⟩) hg).trans c2_
      have a3_ : wo.cell? ⟨g, off + n * 13 + 3, none⟩ = some (.string y.t.t) := (HP.out.below.cell (p := ⟨g, off + n * 13 + 3, none⟩) hg).trans c3_
      have a4_ : wo.cell? ⟨g, off + n * 13 + 4, none⟩ = some (.int .i64 y.t.l) := (HP.out.below.cell (p := ⟨g, off + n * 13 + 4, none⟩) hg).trans c4_
      have a5_ : wo.cell? ⟨g, off + n * 13 + 5, none⟩ = some (.int .i64 y.t.c) := (HP.out.below.cell (p := ⟨g, off + n * 13 + 5, none⟩) hg).trans c5_
      have a6_ : wo.cell? ⟨g, off + n * 13 + 6, none⟩ = some (.string y.on.n) := (HP.out.below.cell (p := ⟨g, off + n * 13 + 6, none⟩) hg).trans c6_
      have a7_ : wo.cell? ⟨g, off + n * 13 + 7, none⟩ = some (.slice oa1 y.on.ar.length oc1) := (HP.out.below.cell (p := ⟨g, off + n * 13 + 7, none⟩) hg).trans c7_
      have a8_ : wo.cell? ⟨g, off + n * 13 + 8, none⟩ = some (.int .i64 y.on.l) := (HP.out.below.cell (p := ⟨g, off + n * 13 + 8, none⟩) hg).trans c8_
      have a9_ : wo.cell? ⟨g, off + n * 13 + 9, none⟩ = some (.int .i64 y.on.c) := (HP.out.below.cell (p := ⟨g, off + n * 13 + 9, none⟩) hg).trans c9_
      have a10_ : wo.cell? ⟨g, off + n * 13 + 10, none⟩ = some (.slice na1 y.ns.length nc1) := (HP.out.below.cell (p := ⟨g, off + n * 13 + 10, none⟩) hg).trans c10_
      have a11_ : wo.cell? ⟨g, off + n * 13 + 11, none⟩ = some (.int .i64 y.g) := (HP.out.below.cell (p := ⟨g, off + n * 13 + 11, none⟩) hg).trans c11_
      have a12_ : wo.cell? ⟨g, off + n * 13 + 12, none⟩ = some (.slice sa1 y.ss.length sc1) := (HP.out.below.cell (p := ⟨g, off + n * 13 + 12, none⟩) hg).trans c12_
      have HBa := Lib.hid ((Below.refl wo.heap.size wo).alloc (Nat.le_refl _) (.cells #[.string y.f.t, .int .i64 y.f.l, .int .i64 y.f.c, .string y.t.t, .int .i64 y.t.l, .int .i64 y.t.c, .string y.on.n, .slice oa1 y.on.ar.length oc1, .int .i64 y.on.l, .int .i64 y.on.c, .slice na1 y.ns.length nc1, .int .i64 y.g, .slice sa1 y.ss.length sc1] 51))
      have HB0 := Lib.hid (HBa.out.drew)
      have HC0 : Hid ((wo.alloc (.cells #[.string y.f.t, .int .i64 y.f.l, .int .i64 y.f.c, .string y.t.t, .int .i64 y.t.l, .int .i64 y.t.c, .string y.on.n, .slice oa1 y.on.ar.length oc1, .int .i64 y.on.l, .int .i64 y.on.c, .slice na1 y.ns.length nc1, .int .i64 y.g, .slice sa1 y.ss.length sc1] 51)).drew.heap[wo.heap.size]? = some (.cells #[.string y.f.t, .int .i64 y.f.l, .int .i64 y.f.c, .string y.t.t, .int .i64 y.t.l, .int .i64 y.t.c, .string y.on.n, .slice oa1 y.on.ar.length oc1, .int .i64 y.on.l, .int .i64 y.on.c, .slice na1 y.ns.length nc1, .int .i64 y.g, .slice sa1 y.ss.length sc1] 51 (0, 0))) := Lib.hid (heap_alloc_new wo _)
      have HSC : Hid (∀ W : World, W.heap[wo.heap.size]? = some (.cells #[.string y.f.t, .int .i64 y.f.l, .int .i64 y.f.c, .string y.t.t, .int .i64 y.t.l, .int .i64 y.t.c, .string y.on.n, .slice oa1 y.on.ar.length oc1, .int .i64 y.on.l, .int .i64 y.on.c, .slice na1 y.ns.length nc1, .int .i64 y.g, .slice sa1 y.ss.length sc1] 51 (0, 0)) → (W.cell? ⟨wo.heap.size, 0, none⟩ = some (.string y.f.t) ∧ W.cell? ⟨wo.heap.size, 1, none⟩ = some (.int .i64 y.f.l) ∧ W.cell? ⟨wo.heap.size, 2, none⟩ = some (.int .i64 y.f.c) ∧ W.cell? ⟨wo.heap.size, 3, none⟩ = some (.string y.t.t) ∧ W.cell? ⟨wo.heap.size, 4, none⟩ = some (.int .i64 y.t.l) ∧ W.cell? ⟨wo.heap.size, 5, none⟩ = some (.int .i64 y.t.c) ∧ W.cell? ⟨wo.heap.size, 6, none⟩ = some (.string y.on.n) ∧ W.cell? ⟨wo.heap.size, 7, none⟩ = some (.slice oa1 y.on.ar.length oc1) ∧ W.cell? ⟨wo.heap.size, 8, none⟩ = some (.int .i64 y.on.l) ∧ W.cell? ⟨wo.heap.size, 9, none⟩ = some (.int .i64 y.on.c) ∧ W.cell? ⟨wo.heap.size, 11, none⟩ = some (.int .i64 y.g))) := Lib.hid (fun W h => ⟨by rw [cell_of_row _ _ 0 _ _ _ h]; rfl, by rw [cell_of_row _ _ 1 _ _ _ h]; rfl, by rw [cell_of_row _ _ 2 _ _ _ h]; rfl, by rw [cell_of_row _ _ 3 _ _ _ h]; rfl, by rw [cell_of_row _ _ 4 _ _ _ h]; rfl, by rw [cell_of_row _ _ 5 _ _ _ h]; rfl, by rw [cell_of_row _ _ 6 _ _ _ h]; rfl, by rw [cell_of_row _ _ 7 _ _ _ h]; rfl, by rw [cell_of_row _ _ 8 _ _ _ h]; rfl, by rw [cell_of_row _ _ 9 _ _ _ h]; rfl, by rw [cell_of_row _ _ 11 _ _ _ h]; rfl⟩)
      have hwo := HP.out.below.size
      clear hc hy hm g11 g21 g31 g41 c0_ c1_ c2_ c3_ c4_ c5_ c6_ c7_ c8_ c9_ c10_ c11_ c12_
      go_upto_region 28 with (fail)
      clear zb a0_ a1_ a2_ a3_ a4_ a5_ a6_ a7_ a8_ a9_ a10_ a11_ a12_
      go_cut [13] from 146 to 229 (fun s13 wx => ∃ (p : Nat) (oa' : Option Addr) (M : List Ag) (oc' : Nat), s13 = .pointer (some ⟨p, 0, none⟩) ∧ Hid (M = y.on.ar.map plA) ∧ Hid (TsS #[.string y.f.t, .int .i64 y.f.l, .int .i64 y.f.c, .string y.t.t, .int .i64 y.t.l, .int .i64 y.t.c, .string y.on.n, .slice oa1 y.on.ar.length oc1, .int .i64 y.on.l, .int .i64 y.on.c, .slice na1 y.ns.length nc1, .int .i64 y.g, .slice sa1 y.ss.length sc1] wo y wo.heap.size p oa' M oc' (.slice none 0 0) (.slice none 0 0) [] [] wx))
      case first =>
        refine wp_region_B (S := (fun W => W.cell? ⟨wo.heap.size, 0, none⟩ = some (.string y.f.t) ∧ W.cell? ⟨wo.heap.size, 1, none⟩ = some (.int .i64 y.f.l) ∧ W.cell? ⟨wo.heap.size, 2, none⟩ = some (.int .i64 y.f.c) ∧ W.cell? ⟨wo.heap.size, 3, none⟩ = some (.string y.t.t) ∧ W.cell? ⟨wo.heap.size, 4, none⟩ = some (.int .i64 y.t.l) ∧ W.cell? ⟨wo.heap.size, 5, none⟩ = some (.int .i64 y.t.c) ∧ W.cell? ⟨wo.heap.size, 6, none⟩ = some (.string y.on.n) ∧ W.cell? ⟨wo.heap.size, 7, none⟩ = some (.slice oa1 y.on.ar.length oc1) ∧ W.cell? ⟨wo.heap.size, 8, none⟩ = some (.int .i64 y.on.l) ∧ W.cell? ⟨wo.heap.size, 9, none⟩ = some (.int .i64 y.on.c) ∧ W.cell? ⟨wo.heap.size, 11, none⟩ = some (.int .i64 y.g))) [13] (by kernel_rfl) (HSC.out _ HC0.out) (fun hH0 => ?_)
        refine wpB_take (i := 0) (v := .pointer (some ⟨wo.heap.size, 0, none⟩)) [13] rfl (by kernel_rfl) (by kernel_rfl) (by kernel_rfl) (by kernel_rfl) (fun _ _ _ h => h) (Or.inl ⟨by kernel_rfl, fun wS hSw => by (try dsimp only at hSw); go_simp⟩) hH0 ?_
        refine wpB_take (i := 1) (v := .agg #[.string y.f.t, .int .i64 y.f.l, .int .i64 y.f.c]) [13] rfl (by kernel_rfl) (by kernel_rfl) (by kernel_rfl) (by kernel_rfl) (fun _ _ _ h => h) (Or.inl ⟨by kernel_rfl, fun wS hSw => by (try dsimp only at hSw); go_simp⟩) hH0 ?_
        refine wpB_take (i := 3) (v := .pointer (some ⟨wo.heap.size, 3, none⟩)) [13] rfl (by kernel_rfl) (by kernel_rfl) (by kernel_rfl) (by kernel_rfl) (fun _ _ _ h => h) (Or.inl ⟨by kernel_rfl, fun wS hSw => by (try dsimp only at hSw); go_simp⟩) hH0 ?_
        refine wpB_take (i := 4) (v := .agg #[.string y.t.t, .int .i64 y.t.l, .int .i64 y.t.c]) [13] rfl (by kernel_rfl) (by kernel_rfl) (by kernel_rfl) (by kernel_rfl) (fun _ _ _ h => h) (Or.inl ⟨by kernel_rfl, fun wS hSw => by (try dsimp only at hSw); go_simp⟩) hH0 ?_
        refine wpB_take (i := 6) (v := .pointer (some ⟨wo.heap.size, 6, none⟩)) [13] rfl (by kernel_rfl) (by kernel_rfl) (by kernel_rfl) (by kernel_rfl) (fun _ _ _ h => h) (Or.inl ⟨by kernel_rfl, fun wS hSw => by (try dsimp only at hSw); go_simp⟩) hH0 ?_
        refine wpB_take (i := 7) (v := .agg #[.string y.on.n, .slice oa1 y.on.ar.length oc1, .int .i64 y.on.l, .int .i64 y.on.c]) [13] rfl (by kernel_rfl) (by kernel_rfl) (by kernel_rfl) (by kernel_rfl) (fun _ _ _ h => h) (Or.inl ⟨by kernel_rfl, fun wS hSw => by (try dsimp only at hSw); go_simp⟩) hH0 ?_
        refine wpB_take (i := 9) (v := .pointer (some ⟨wo.heap.size, 11, none⟩)) [13] rfl (by kernel_rfl) (by kernel_rfl) (by kernel_rfl) (by kernel_rfl) (fun _ _ _ h => h) (Or.inl ⟨by kernel_rfl, fun wS hSw => by (try dsimp only at hSw); go_simp⟩) hH0 ?_
        refine wpB_take (i := 10) (v := .int .i64 y.g) [13] rfl (by kernel_rfl) (by kernel_rfl) (by kernel_rfl) (by kernel_rfl) (fun _ _ _ h => h) (Or.inl ⟨by kernel_rfl, fun wS hSw => by (try dsimp only at hSw); go_simp⟩) hH0 ?_
        refine wpB_two (i := 2) (j := 12) rfl rfl (by kernel_rfl) (fun K hK => ?_) (fun K hK => ?_)
        · rw [if_pos (by kernel_rfl)]
          go_simp
          refine (HN.out y.f _).mono ?_
          rintro e w1 ⟨rfl, k⟩
          have HB1 := Lib.hid (HB0.out.trans (k.mono HB0.out.size))
          have HC1 := Lib.hid ((k.block _ (CBlk.lt ⟨_, _, HC0.out⟩)).trans HC0.out)
          clear k
          refine hK.out _ _ (HSC.out _ HC1.out) (fun hHs1 => ?_)
          clear hK K
          refine wpB_two (i := 5) (j := 12) rfl rfl (by kernel_rfl) (fun K hK => ?_) (fun K hK => ?_)
          · rw [if_pos (by kernel_rfl)]
            go_simp
            refine (HN.out y.t _).mono ?_
            rintro e w2 ⟨rfl, k⟩
            have HB2 := Lib.hid (HB1.out.trans (k.mono HB1.out.size))
            have HC2 := Lib.hid ((k.block _ (CBlk.lt ⟨_, _, HC1.out⟩)).trans HC1.out)
            clear k
            refine hK.out _ _ (HSC.out _ HC2.out) (fun hHs2 => ?_)
            clear hK K
            refine wpB_two (i := 8) (j := 12) rfl rfl (by kernel_rfl) (fun K hK => ?_) (fun K hK => ?_)
            · rw [if_pos (by kernel_rfl)]
              go_simp
              refine (HBr.out _ (HP.out.below.trans (HB2.out.mono hwo))).mono ?_
              rintro e w3 ⟨_, rfl, ⟨oa', oc', rfl, hg2, _⟩, k⟩
              have hM : (plS y.on).ar = y.on.ar.map plA := rfl
              generalize (plS y.on).ar = M at hg2 hM ⊢
              rw [show (plS y.on).n = y.on.n from rfl, show (plS y.on).l = 0 from rfl, show (plS y.on).c = 0 from rfl]
              have HM := Lib.hid hM
              have HG3 := Lib.hid hg2
              clear hM hg2
              have HB3 := Lib.hid (HB2.out.trans (k.mono HB2.out.size))
              have HC3 := Lib.hid ((k.block _ (CBlk.lt ⟨_, _, HC2.out⟩)).trans HC2.out)
              clear k
              refine hK.out _ _ (HSC.out _ HC3.out) (fun hHs3 => ?_)
              clear hK K
              refine wpB_take (i := 11) (v := .agg #[.string y.f.t, .int .i64 0, .int .i64 0, .string y.t.t, .int .i64 0, .int .i64 0, .string y.on.n, .slice oa' M.length oc', .int .i64 0, .int .i64 0, .slice none 0 0, .int .i64 y.g, .slice none 0 0]) [13] rfl (by kernel_rfl) (by kernel_rfl) (by kernel_rfl) (by kernel_rfl) (fun _ _ _ h => h) (Or.inl ⟨by kernel_rfl, fun wS hSw => by (try dsimp only at hSw); go_simp⟩) hHs3 ?_
              refine wpB_step (i := 12) rfl (by kernel_rfl) (fun K hK => ?_)
              rw [if_pos (by kernel_rfl)]
              go_simp
              have HB4 : Hid (Below wo.heap.size wo (w3.alloc (.cells #[.string ⟨#[]⟩, .int .i64 0, .int .i64 0, .string ⟨#[]⟩, .int .i64 0, .int .i64 0, .string ⟨#[]⟩, .slice none 0 0, .int .i64 0, .int .i64 0, .slice none 0 0, .int .i64 0, .slice none 0 0] 51))) := Lib.hid (HB3.out.alloc HB3.out.size _)
              have HC4 : Hid ((w3.alloc (.cells #[.string ⟨#[]⟩, .int .i64 0, .int .i64 0, .string ⟨#[]⟩, .int .i64 0, .int .i64 0, .string ⟨#[]⟩, .slice none 0 0, .int .i64 0, .int .i64 0, .slice none 0 0, .int .i64 0, .slice none 0 0] 51)).heap[wo.heap.size]? = some (.cells #[.string y.f.t, .int .i64 y.f.l, .int .i64 y.f.c, .string y.t.t, .int .i64 y.t.l, .int .i64 y.t.c, .string y.on.n, .slice oa1 y.on.ar.length oc1, .int .i64 y.on.l, .int .i64 y.on.c, .slice na1 y.ns.length nc1, .int .i64 y.g, .slice sa1 y.ss.length sc1] 51 (0, 0))) := Lib.hid ((heap_alloc_old _ _ (CBlk.lt ⟨_, _, HC3.out⟩)).trans HC3.out)
              have hpp : wo.heap.size < w3.heap.size := CBlk.lt ⟨_, _, HC3.out⟩
              have HA4 : Hid ((w3.alloc (.cells #[.string ⟨#[]⟩, .int .i64 0, .int .i64 0, .string ⟨#[]⟩, .int .i64 0, .int .i64 0, .string ⟨#[]⟩, .slice none 0 0, .int .i64 0, .int .i64 0, .slice none 0 0, .int .i64 0, .slice none 0 0] 51)).heap[w3.heap.size]? = some (.cells #[.string ⟨#[]⟩, .int .i64 0, .int .i64 0, .string ⟨#[]⟩, .int .i64 0, .int .i64 0, .string ⟨#[]⟩, .slice none 0 0, .int .i64 0, .int .i64 0, .slice none 0 0, .int .i64 0, .slice none 0 0] 51 (0, 0))) := Lib.hid (heap_alloc_new w3 (.cells #[.string ⟨#[]⟩, .int .i64 0, .int .i64 0, .string ⟨#[]⟩, .int .i64 0, .int .i64 0, .string ⟨#[]⟩, .slice none 0 0, .int .i64 0, .int .i64 0, .slice none 0 0, .int .i64 0, .slice none 0 0] 51))
              have HG4 := Lib.hid (HG3.out.belowF ((Below.refl w3.heap.size w3).alloc (Nat.le_refl _) (.cells #[.string ⟨#[]⟩, .int .i64 0, .int .i64 0, .string ⟨#[]⟩, .int .i64 0, .int .i64 0, .string ⟨#[]⟩, .slice none 0 0, .int .i64 0, .int .i64 0, .slice none 0 0, .int .i64 0, .slice none 0 0] 51)))
              refine hK.out _ _ (HSC.out _ HC4.out) (fun hHs4 => ?_)
              clear hK K
              refine wpB_past (i := 13) rfl (by kernel_rfl) (by kernel_rfl) (fun K hK => ?_)
              rw [if_pos (by kernel_rfl)]
              go_simp
              refine hK.out _ _ ?_
              clear hK K
              refine wpB_done (by kernel_rfl) ?_ _
              go_simp
              go_wp2_with fail
              go_meet
              case rel => exact ⟨w3.heap.size, oa', M, oc', rfl, HM, Lib.hid (tss_new (HB3.out.alloc HB3.out.size _) hpp ((heap_alloc_old _ _ (CBlk.lt ⟨_, _, HC3.out⟩)).trans HC3.out) (heap_alloc_new _ _) (HG3.out.belowF ((Below.refl w3.heap.size w3).alloc (Nat.le_refl _) _)))⟩
            · rw [if_pos (by kernel_rfl)]
              go_simp
              have HB3 : Hid (Below wo.heap.size wo (w2.alloc (.cells #[.string ⟨#[]⟩, .int .i64 0, .int .i64 0, .string ⟨#[]⟩, .int .i64 0, .int .i64 0, .string ⟨#[]⟩, .slice none 0 0, .int .i64 0, .int .i64 0, .slice none 0 0, .int .i64 0, .slice none 0 0] 51))) := Lib.hid (HB2.out.alloc HB2.out.size _)
              have HC3 : Hid ((w2.alloc (.cells #[.string ⟨#[]⟩, .int .i64 0, .int .i64 0, .string ⟨#[]⟩, .int .i64 0, .int .i64 0, .string ⟨#[]⟩, .slice none 0 0, .int .i64 0, .int .i64 0, .slice none 0 0, .int .i64 0, .slice none 0 0] 51)).heap[wo.heap.size]? = some (.cells #[.string y.f.t, .int .i64 y.f.l, .int .i64 y.f.c, .string y.t.t, .int .i64 y.t.l, .int .i64 y.t.c, .string y.on.n, .slice oa1 y.on.ar.length oc1, .int .i64 y.on.l, .int .i64 y.on.c, .slice na1 y.ns.length nc1, .int .i64 y.g, .slice sa1 y.ss.length sc1] 51 (0, 0))) := Lib.hid ((heap_alloc_old _ _ (CBlk.lt ⟨_, _, HC2.out⟩)).trans HC2.out)
              have hpp : wo.heap.size < w2.heap.size := CBlk.lt ⟨_, _, HC2.out⟩
              have HA3 : Hid ((w2.alloc (.cells #[.string ⟨#[]⟩, .int .i64 0, .int .i64 0, .string ⟨#[]⟩, .int .i64 0, .int .i64 0, .string ⟨#[]⟩, .slice none 0 0, .int .i64 0, .int .i64 0, .slice none 0 0, .int .i64 0, .slice none 0 0] 51)).heap[w2.heap.size]? = some (.cells #[.string ⟨#[]⟩, .int .i64 0, .int .i64 0, .string ⟨#[]⟩, .int .i64 0, .int .i64 0, .string ⟨#[]⟩, .slice none 0 0, .int .i64 0, .int .i64 0, .slice none 0 0, .int .i64 0, .slice none 0 0] 51 (0, 0))) := Lib.hid (heap_alloc_new w2 (.cells #[.string ⟨#[]⟩, .int .i64 0, .int .i64 0, .string ⟨#[]⟩, .int .i64 0, .int .i64 0, .string ⟨#[]⟩, .slice none 0 0, .int .i64 0, .int .i64 0, .slice none 0 0, .int .i64 0, .slice none 0 0] 51))
              refine hK.out _ _ (HSC.out _ HC3.out) (fun hHs3 => ?_)
              clear hK K
              refine wpB_step (i := 8) rfl (by kernel_rfl) (fun K hK => ?_)
              rw [if_pos (by kernel_rfl)]
              go_simp
              refine (HBr.out _ (HP.out.below.trans (HB3.out.mono hwo))).mono ?_
              rintro e w4 ⟨_, rfl, ⟨oa', oc', rfl, hg2, _⟩, k⟩
              have hM : (plS y.on).ar = y.on.ar.map plA := rfl
              generalize (plS y.on).ar = M at hg2 hM ⊢
              rw [show (plS y.on).n = y.on.n from rfl, show (plS y.on).l = 0 from rfl, show (plS y.on).c = 0 from rfl]
              have HM := Lib.hid hM
              have HG4 := Lib.hid hg2
              clear hM hg2
              have HB4 := Lib.hid (HB3.out.trans (k.mono HB3.out.size))
              have HC4 := Lib.hid ((k.block _ (CBlk.lt ⟨_, _, HC3.out⟩)).trans HC3.out)
              have HA4 := Lib.hid ((k.block _ (CBlk.lt ⟨_, _, HA3.out⟩)).trans HA3.out)
              clear k
              refine hK.out _ _ (HSC.out _ HC4.out) (fun hHs4 => ?_)
              clear hK K
              refine wpB_take (i := 11) (v := .agg #[.string y.f.t, .int .i64 0, .int .i64 0, .string y.t.t, .int .i64 0, .int .i64 0, .string y.on.n, .slice oa' M.length oc', .int .i64 0, .int .i64 0, .slice none 0 0, .int .i64 y.g, .slice none 0 0]) [13] rfl (by kernel_rfl) (by kernel_rfl) (by kernel_rfl) (by kernel_rfl) (fun _ _ _ h => h) (Or.inl ⟨by kernel_rfl, fun wS hSw => by (try dsimp only at hSw); go_simp⟩) hHs4 ?_
              have e0 : w4.cell? ⟨w2.heap.size, 0, none⟩ = some (.string ⟨#[]⟩) := by rw [cell_of_row _ _ 0 _ _ _ HA4.out]; rfl
              have f0 : w4.frozen? ⟨w2.heap.size, 0, none⟩ = false := frozen_of_row _ _ 0 _ _ HA4.out
              have e1 : w4.cell? ⟨w2.heap.size, 1, none⟩ = some (.int .i64 0) := by rw [cell_of_row _ _ 1 _ _ _ HA4.out]; rfl
              have f1 : w4.frozen? ⟨w2.heap.size, 1, none⟩ = false := frozen_of_row _ _ 1 _ _ HA4.out
              have e2 : w4.cell? ⟨w2.heap.size, 2, none⟩ = some (.int .i64 0) := by rw [cell_of_row _ _ 2 _ _ _ HA4.out]; rfl
              have f2 : w4.frozen? ⟨w2.heap.size, 2, none⟩ = false := frozen_of_row _ _ 2 _ _ HA4.out
              have e3 : w4.cell? ⟨w2.heap.size, 3, none⟩ = some (.string ⟨#[]⟩) := by rw [cell_of_row _ _ 3 _ _ _ HA4.out]; rfl
              have f3 : w4.frozen? ⟨w2.heap.size, 3, none⟩ = false := frozen_of_row _ _ 3 _ _ HA4.out
              have e4 : w4.cell? ⟨w2.heap.size, 4, none⟩ = some (.int .i64 0) := by rw [cell_of_row _ _ 4 _ _ _ HA4.out]; rfl
              have f4 : w4.frozen? ⟨w2.heap.size, 4, none⟩ = false := frozen_of_row _ _ 4 _ _ HA4.out
              have e5 : w4.cell? ⟨w2.heap.size, 5, none⟩ = some (.int .i64 0) := by rw [cell_of_row _ _ 5 _ _ _ HA4.out]; rfl
              have f5 : w4.frozen? ⟨w2.heap.size, 5, none⟩ = false := frozen_of_row _ _ 5 _ _ HA4.out
              have e6 : w4.cell? ⟨w2.heap.size, 6, none⟩ = some (.string ⟨#[]⟩) := by rw [cell_of_row _ _ 6 _ _ _ HA4.out]; rfl
              have f6 : w4.frozen? ⟨w2.heap.size, 6, none⟩ = false := frozen_of_row _ _ 6 _ _ HA4.out
              have e7 : w4.cell? ⟨w2.heap.size, 7, none⟩ = some (.slice none 0 0) := by rw [cell_of_row _ _ 7 _ _ _ HA4.out]; rfl
              have f7 : w4.frozen? ⟨w2.heap.size, 7, none⟩ = false := frozen_of_row _ _ 7 _ _ HA4.out
              have e8 : w4.cell? ⟨w2.heap.size, 8, none⟩ = some (.int .i64 0) := by rw [cell_of_row _ _ 8 _ _ _ HA4.out]; rfl
              have f8 : w4.frozen? ⟨w2.heap.size, 8, none⟩ = false := frozen_of_row _ _ 8 _ _ HA4.out
              have e9 : w4.cell? ⟨w2.heap.size, 9, none⟩ = some (.int .i64 0) := by rw [cell_of_row _ _ 9 _ _ _ HA4.out]; rfl
              have f9 : w4.frozen? ⟨w2.heap.size, 9, none⟩ = false := frozen_of_row _ _ 9 _ _ HA4.out
              have e10 : w4.cell? ⟨w2.heap.size, 10, none⟩ = some (.slice none 0 0) := by rw [cell_of_row _ _ 10 _ _ _ HA4.out]; rfl
              have f10 : w4.frozen? ⟨w2.heap.size, 10, none⟩ = false := frozen_of_row _ _ 10 _ _ HA4.out
              have e11 : w4.cell? ⟨w2.heap.size, 11, none⟩ = some (.int .i64 0) := by rw [cell_of_row _ _ 11 _ _ _ HA4.out]; rfl
              have f11 : w4.frozen? ⟨w2.heap.size, 11, none⟩ = false := frozen_of_row _ _ 11 _ _ HA4.out
              have e12 : w4.cell? ⟨w2.heap.size, 12, none⟩ = some (.slice none 0 0) := by rw [cell_of_row _ _ 12 _ _ _ HA4.out]; rfl
              have f12 : w4.frozen? ⟨w2.heap.size, 12, none⟩ = false := frozen_of_row _ _ 12 _ _ HA4.out
              have hqq : wo.heap.size ≤ w2.heap.size := by omega
              have HAC : Hid (CBlk w4 (w2.heap.size) 51) := Lib.hid ⟨_, _, HA4.out⟩
              refine wpB_past (i := 13) rfl (by kernel_rfl) (by kernel_rfl) (fun K hK => ?_)
              rw [if_pos (by kernel_rfl)]
              go_simp
              refine hK.out _ _ ?_
              clear hK K
              refine wpB_done (by kernel_rfl) ?_ _
              go_simp
              go_wp2_with fail
              go_meet
              have x0 : (w4.setCell ⟨w2.heap.size, 0, none⟩ (.string y.f.t)).heap[w2.heap.size]? = some (.cells #[.string y.f.t, .int .i64 0, .int .i64 0, .string ⟨#[]⟩, .int .i64 0, .int .i64 0, .string ⟨#[]⟩, .slice none 0 0, .int .i64 0, .int .i64 0, .slice none 0 0, .int .i64 0, .slice none 0 0] 51 (0, 0)) := heap_setCell_same w4 (w2.heap.size) 0 _ _ (.string y.f.t) HA4.out
              have x1 : ((w4.setCell ⟨w2.heap.size, 0, none⟩ (.string y.f.t)).setCell ⟨w2.heap.size, 1, none⟩ (.int .i64 0)).heap[w2.heap.size]? = some (.cells #[.string y.f.t, .int .i64 0, .int .i64 0, .string ⟨#[]⟩, .int .i64 0, .int .i64 0, .string ⟨#[]⟩, .slice none 0 0, .int .i64 0, .int .i64 0, .slice none 0 0, .int .i64 0, .slice none 0 0] 51 (0, 0)) := heap_setCell_same (w4.setCell ⟨w2.heap.size, 0, none⟩ (.string y.f.t)) (w2.heap.size) 1 _ _ (.int .i64 0) x0
              have x2 : (((w4.setCell ⟨w2.heap.size, 0, none⟩ (.string y.f.t)).setCell ⟨w2.heap.size, 1, none⟩ (.int .i64 0)).setCell ⟨w2.heap.size, 2, none⟩ (.int .i64 0)).heap[w2.heap.size]? = some (.cells #[.string y.f.t, .int .i64 0, .int .i64 0, .string ⟨#[]⟩, .int .i64 0, .int .i64 0, .string ⟨#[]⟩, .slice none 0 0, .int .i64 0, .int .i64 0, .slice none 0 0, .int .i64 0, .slice none 0 0] 51 (0, 0)) := heap_setCell_same ((w4.setCell ⟨w2.heap.size, 0, none⟩ (.string y.f.t)).setCell ⟨w2.heap.size, 1, none⟩ (.int .i64 0)) (w2.heap.size) 2 _ _ (.int .i64 0) x1
              have x3 : ((((w4.setCell ⟨w2.heap.size, 0, none⟩ (.string y.f.t)).setCell ⟨w2.heap.size, 1, none⟩ (.int .i64 0)).setCell ⟨w2.heap.size, 2, none⟩ (.int .i64 0)).setCell ⟨w2.heap.size, 3, none⟩ (.string y.t.t)).heap[w2.heap.size]? = some (.cells #[.string y.f.t, .int .i64 0, .int .i64 0, .string y.t.t, .int .i64 0, .int .i64 0, .string ⟨#[]⟩, .slice none 0 0, .int .i64 0, .int .i64 0, .slice none 0 0, .int .i64 0, .slice none 0 0] 51 (0, 0)) := heap_setCell_same (((w4.setCell ⟨w2.heap.size, 0, none⟩ (.string y.f.t)).setCell ⟨w2.heap.size, 1, none⟩ (.int .i64 0)).setCell ⟨w2.heap.size, 2, none⟩ (.int .i64 0)) (w2.heap.size) 3 _ _ (.string y.t.t) x2
              have x4 : (((((w4.setCell ⟨w2.heap.size, 0, none⟩ (.string y.f.t)).setCell ⟨w2.heap.size, 1, none⟩ (.int .i64 0)).setCell ⟨w2.heap.size, 2, none⟩ (.int .i64 0)).setCell ⟨w2.heap.size, 3, none⟩ (.string y.t.t)).setCell ⟨w2.heap.size, 4, none⟩ (.int .i64 0)).heap[w2.heap.size]? = some (.cells #[.string y.f.t, .int .i64 0, .int .i64 0, .string y.t.t, .int .i64 0, .int .i64 0, .string ⟨#[]⟩, .slice none 0 0, .int .i64 0, .int .i64 0, .slice none 0 0, .int .i64 0, .slice none 0 0] 51 (0, 0)) := heap_setCell_same ((((w4.setCell ⟨w2.heap.size, 0, none⟩ (.string y.f.t)).setCell ⟨w2.heap.size, 1, none⟩ (.int .i64 0)).setCell ⟨w2.heap.size, 2, none⟩ (.int .i64 0)).setCell ⟨w2.heap.size, 3, none⟩ (.string y.t.t)) (w2.heap.size) 4 _ _ (.int .i64 0) x3
              have x5 : ((((((w4.setCell ⟨w2.heap.size, 0, none⟩ (.string y.f.t)).setCell ⟨w2.heap.size, 1, none⟩ (.int .i64 0)).setCell ⟨w2.heap.size, 2, none⟩ (.int .i64 0)).setCell ⟨w2.heap.size, 3, none⟩ (.string y.t.t)).setCell ⟨w2.heap.size, 4, none⟩ (.int .i64 0)).setCell ⟨w2.heap.size, 5, none⟩ (.int .i64 0)).heap[w2.heap.size]? = some (.cells #[.string y.f.t, .int .i64 0, .int .i64 0, .string y.t.t, .int .i64 0, .int .i64 0, .string ⟨#[]⟩, .slice none 0 0, .int .i64 0, .int .i64 0, .slice none 0 0, .int .i64 0, .slice none 0 0] 51 (0, 0)) := heap_setCell_same (((((w4.setCell ⟨w2.heap.size, 0, none⟩ (.string y.f.t)).setCell ⟨w2.heap.size, 1, none⟩ (.int .i64 0)).setCell ⟨w2.heap.size, 2, none⟩ (.int .i64 0)).setCell ⟨w2.heap.size, 3, none⟩ (.string y.t.t)).setCell ⟨w2.heap.size, 4, none⟩ (.int .i64 0)) (w2.heap.size) 5 _ _ (.int .i64 0) x4
              have x6 : (((((((w4.setCell ⟨w2.heap.size, 0, none⟩ (.string y.f.t)).setCell ⟨w2.heap.size, 1, none⟩ (.int .i64 0)).setCell ⟨w2.heap.size, 2, none⟩ (.int .i64 0)).setCell ⟨w2.heap.size, 3, none⟩ (.string y.t.t)).setCell ⟨w2.heap.size, 4, none⟩ (.int .i64 0)).setCell ⟨w2.heap.size, 5, none⟩ (.int .i64 0)).setCell ⟨w2.heap.size, 6, none⟩ (.string y.on.n)).heap[w2.heap.size]? = some (.cells #[.string y.f.t, .int .i64 0, .int .i64 0, .string y.t.t, .int .i64 0, .int .i64 0, .string y.on.n, .slice none 0 0, .int .i64 0, .int .i64 0, .slice none 0 0, .int .i64 0, .slice none 0 0] 51 (0, 0)) := heap_setCell_same ((((((w4.setCell ⟨w2.heap.size, 0, none⟩ (.string y.f.t)).setCell ⟨w2.heap.size, 1, none⟩ (.int .i64 0)).setCell ⟨w2.heap.size, 2, none⟩ (.int .i64 0)).setCell ⟨w2.heap.size, 3, none⟩ (.string y.t.t)).setCell ⟨w2.heap.size, 4, none⟩ (.int .i64 0)).setCell ⟨w2.heap.size, 5, none⟩ (.int .i64 0)) (w2.heap.size) 6 _ _ (.string y.on.n) x5
              have x7 : ((((((((w4.setCell ⟨w2.heap.size, 0, none⟩ (.string y.f.t)).setCell ⟨w2.heap.size, 1, none⟩ (.int .i64 0)).setCell ⟨w2.heap.size, 2, none⟩ (.int .i64 0)).setCell ⟨w2.heap.size, 3, none⟩ (.string y.t.t)).setCell ⟨w2.heap.size, 4, none⟩ (.int .i64 0)).setCell ⟨w2.heap.size, 5, none⟩ (.int .i64 0)).setCell ⟨w2.heap.size, 6, none⟩ (.string y.on.n)).setCell ⟨w2.heap.size, 7, none⟩ (.slice oa' M.length oc')).heap[w2.heap.size]? = some (.cells #[.string y.f.t, .int .i64 0, .int .i64 0, .string y.t.t, .int .i64 0, .int .i64 0, .string y.on.n, .slice oa' M.length oc', .int .i64 0, .int .i64 0, .slice none 0 0, .int .i64 0, .slice none 0 0] 51 (0, 0)) := heap_setCell_same (((((((w4.setCell ⟨w2.heap.size, 0, none⟩ (.string y.f.t)).setCell ⟨w2.heap.size, 1, none⟩ (.int .i64 0)).setCell ⟨w2.heap.size, 2, none⟩ (.int .i64 0)).setCell ⟨w2.heap.size, 3, none⟩ (.string y.t.t)).setCell ⟨w2.heap.size, 4, none⟩ (.int .i64 0)).setCell ⟨w2.heap.size, 5, none⟩ (.int .i64 0)).setCell ⟨w2.heap.size, 6, none⟩ (.string y.on.n)) (w2.heap.size) 7 _ _ (.slice oa' M.length oc') x6
              have x8 : (((((((((w4.setCell ⟨w2.heap.size, 0, none⟩ (.string y.f.t)).setCell ⟨w2.heap.size, 1, none⟩ (.int .i64 0)).setCell ⟨w2.heap.size, 2, none⟩ (.int .i64 0)).setCell ⟨w2.heap.size, 3, none⟩ (.string y.t.t)).setCell ⟨w2.heap.size, 4, none⟩ (.int .i64 0)).setCell ⟨w2.heap.size, 5, none⟩ (.int .i64 0)).setCell ⟨w2.heap.size, 6, none⟩ (.string y.on.n)).setCell ⟨w2.heap.size, 7, none⟩ (.slice oa' M.length oc')).setCell ⟨w2.heap.size, 8, none⟩ (.int .i64 0)).heap[w2.heap.size]? = some (.cells #[.string y.f.t, .int .i64 0, .int .i64 0, .string y.t.t, .int .i64 0, .int .i64 0, .string y.on.n, .slice oa' M.length oc', .int .i64 0, .int .i64 0, .slice none 0 0, .int .i64 0, .slice none 0 0] 51 (0, 0)) := heap_setCell_same ((((((((w4.setCell ⟨w2.heap.size, 0, none⟩ (.string y.f.t)).setCell ⟨w2.heap.size, 1, none⟩ (.int .i64 0)).setCell ⟨w2.heap.size, 2, none⟩ (.int .i64 0)).setCell ⟨w2.heap.size, 3, none⟩ (.string y.t.t)).setCell ⟨w2.heap.size, 4, none⟩ (.int .i64 0)).setCell ⟨w2.heap.size, 5, none⟩ (.int .i64 0)).setCell ⟨w2.heap.size, 6, none⟩ (.string y.on.n)).setCell ⟨w2.heap.size, 7, none⟩ (.slice oa' M.length oc')) (w2.heap.size) 8 _ _ (.int .i64 0) x7
              have x9 : ((((((((((w4.setCell ⟨w2.heap.size, 0, none⟩ (.string y.f.t)).setCell ⟨w2.heap.size, 1, none⟩ (.int .i64 0)).setCell ⟨w2.heap.size, 2, none⟩ (.int .i64 0)).setCell ⟨w2.heap.size, 3, none⟩ (.string y.t.t)).setCell ⟨w2.heap.size, 4, none⟩ (.int .i64 0)).setCell ⟨w2.heap.size, 5, none⟩ (.int .i64 0)).setCell ⟨w2.heap.size, 6, none⟩ (.string y.on.n)).setCell ⟨w2.heap.size, 7, none⟩ (.slice oa' M.length oc')).setCell ⟨w2.heap.size, 8, none⟩ (.int .i64 0)).setCell ⟨w2.heap.size, 9, none⟩ (.int .i64 0)).heap[w2.heap.size]? = some (.cells #[.string y.f.t, .int .i64 0, .int .i64 0, .string y.t.t, .int .i64 0, .int .i64 0, .string y.on.n, .slice oa' M.length oc', .int .i64 0, .int .i64 0, .slice none 0 0, .int .i64 0, .slice none 0 0] 51 (0, 0)) := heap_setCell_same (((((((((w4.setCell ⟨w2.heap.size, 0, none⟩ (.string y.f.t)).setCell ⟨w2.heap.size, 1, none⟩ (.int .i64 0)).setCell ⟨w2.heap.size, 2, none⟩ (.int .i64 0)).setCell ⟨w2.heap.size, 3, none⟩ (.string y.t.t)).setCell ⟨w2.heap.size, 4, none⟩ (.int .i64 0)).setCell ⟨w2.heap.size, 5, none⟩ (.int .i64 0)).setCell ⟨w2.heap.size, 6, none⟩ (.string y.on.n)).setCell ⟨w2.heap.size, 7, none⟩ (.slice oa' M.length oc')).setCell ⟨w2.heap.size, 8, none⟩ (.int .i64 0)) (w2.heap.size) 9 _ _ (.int .i64 0) x8
              have x10 : (((((((((((w4.setCell ⟨w2.heap.size, 0, none⟩ (.string y.f.t)).setCell ⟨w2.heap.size, 1, none⟩ (.int .i64 0)).setCell ⟨w2.heap.size, 2, none⟩ (.int .i64 0)).setCell ⟨w2.heap.size, 3, none⟩ (.string y.t.t)).setCell ⟨w2.heap.size, 4, none⟩ (.int .i64 0)).setCell ⟨w2.heap.size, 5, none⟩ (.int .i64 0)).setCell ⟨w2.heap.size, 6, none⟩ (.string y.on.n)).setCell ⟨w2.heap.size, 7, none⟩ (.slice oa' M.length oc')).setCell ⟨w2.heap.size, 8, none⟩ (.int .i64 0)).setCell ⟨w2.heap.size, 9, none⟩ (.int .i64 0)).setCell ⟨w2.heap.size, 10, none⟩ (.slice none 0 0)).heap[w2.heap.size]? = some (.cells #[.string y.f.t, .int .i64 0, .int .i64 0, .string y.t.t, .int .i64 0, .int .i64 0, .string y.on.n, .slice oa' M.length oc', .int .i64 0, .int .i64 0, .slice none 0 0, .int .i64 0, .slice none 0 0] 51 (0, 0)) := heap_setCell_same ((((((((((w4.setCell ⟨w2.heap.size, 0, none⟩ (.string y.f.t)).setCell ⟨w2.heap.size, 1, none⟩ (.int .i64 0)).setCell ⟨w2.heap.size, 2, none⟩ (.int .i64 0)).setCell ⟨w2.heap.size, 3, none⟩ (.string y.t.t)).setCell ⟨w2.heap.size, 4, none⟩ (.int .i64 0)).setCell ⟨w2.heap.size, 5, none⟩ (.int .i64 0)).setCell ⟨w2.heap.size, 6, none⟩ (.string y.on.n)).setCell ⟨w2.heap.size, 7, none⟩ (.slice oa' M.length oc')).setCell ⟨w2.heap.size, 8, none⟩ (.int .i64 0)).setCell ⟨w2.heap.size, 9, none⟩ (.int .i64 0)) (w2.heap.size) 10 _ _ (.slice none 0 0) x9
              have x11 : ((((((((((((w4.setCell ⟨w2.heap.size, 0, none⟩ (.string y.f.t)).setCell ⟨w2.heap.size, 1, none⟩ (.int .i64 0)).setCell ⟨w2.heap.size, 2, none⟩ (.int .i64 0)).setCell ⟨w2.heap.size, 3, none⟩ (.string y.t.t)).setCell ⟨w2.heap.size, 4, none⟩ (.int .i64 0)).setCell ⟨w2.heap.size, 5, none⟩ (.int .i64 0)).setCell ⟨w2.heap.size, 6, none⟩ (.string y.on.n)).setCell ⟨w2.heap.size, 7, none⟩ (.slice oa' M.length oc')).setCell ⟨w2.heap.size, 8, none⟩ (.int .i64 0)).setCell ⟨w2.heap.size, 9, none⟩ (.int .i64 0)).setCell ⟨w2.heap.size, 10, none⟩ (.slice none 0 0)).setCell ⟨w2.heap.size, 11, none⟩ (.int .i64 y.g)).heap[w2.heap.size]? = some (.cells #[.string y.f.t, .int .i64 0, .int .i64 0, .string y.t.t, .int .i64 0, .int .i64 0, .string y.on.n, .slice oa' M.length oc', .int .i64 0, .int .i64 0, .slice none 0 0, .int .i64 y.g, .slice none 0 0] 51 (0, 0)) := heap_setCell_same (((((((((((w4.setCell ⟨w2.heap.size, 0, none⟩ (.string y.f.t)).setCell ⟨w2.heap.size, 1, none⟩ (.int .i64 0)).setCell ⟨w2.heap.size, 2, none⟩ (.int .i64 0)).setCell ⟨w2.heap.size, 3, none⟩ (.string y.t.t)).setCell ⟨w2.heap.size, 4, none⟩ (.int .i64 0)).setCell ⟨w2.heap.size, 5, none⟩ (.int .i64 0)).setCell ⟨w2.heap.size, 6, none⟩ (.string y.on.n)).setCell ⟨w2.heap.size, 7, none⟩ (.slice oa' M.length oc')).setCell ⟨w2.heap.size, 8, none⟩ (.int .i64 0)).setCell ⟨w2.heap.size, 9, none⟩ (.int .i64 0)).setCell ⟨w2.heap.size, 10, none⟩ (.slice none 0 0)) (w2.heap.size) 11 _ _ (.int .i64 y.g) x10
              have x12 : (((((((((((((w4.setCell ⟨w2.heap.size, 0, none⟩ (.string y.f.t)).setCell ⟨w2.heap.size, 1, none⟩ (.int .i64 0)).setCell ⟨w2.heap.size, 2, none⟩ (.int .i64 0)).setCell ⟨w2.heap.size, 3, none⟩ (.string y.t.t)).setCell ⟨w2.heap.size, 4, none⟩ (.int .i64 0)).setCell ⟨w2.heap.size, 5, none⟩ (.int .i64 0)).setCell ⟨w2.heap.size, 6, none⟩ (.string y.on.n)).setCell ⟨w2.heap.size, 7, none⟩ (.slice oa' M.length oc')).setCell ⟨w2.heap.size, 8, none⟩ (.int .i64 0)).setCell ⟨w2.heap.size, 9, none⟩ (.int .i64 0)).setCell ⟨w2.heap.size, 10, none⟩ (.slice none 0 0)).setCell ⟨w2.heap.size, 11, none⟩ (.int .i64 y.g)).setCell ⟨w2.heap.size, 12, none⟩ (.slice none 0 0)).heap[w2.heap.size]? = some (.cells #[.string y.f.t, .int .i64 0, .int .i64 0, .string y.t.t, .int .i64 0, .int .i64 0, .string y.on.n, .slice oa' M.length oc', .int .i64 0, .int .i64 0, .slice none 0 0, .int .i64 y.g, .slice none 0 0] 51 (0, 0)) := heap_setCell_same ((((((((((((w4.setCell ⟨w2.heap.size, 0, none⟩ (.string y.f.t)).setCell ⟨w2.heap.size, 1, none⟩ (.int .i64 0)).setCell ⟨w2.heap.size, 2, none⟩ (.int .i64 0)).setCell ⟨w2.heap.size, 3, none⟩ (.string y.t.t)).setCell ⟨w2.heap.size, 4, none⟩ (.int .i64 0)).setCell ⟨w2.heap.size, 5, none⟩ (.int .i64 0)).setCell ⟨w2.heap.size, 6, none⟩ (.string y.on.n)).setCell ⟨w2.heap.size, 7, none⟩ (.slice oa' M.length oc')).setCell ⟨w2.heap.size, 8, none⟩ (.int .i64 0)).setCell ⟨w2.heap.size, 9, none⟩ (.int .i64 0)).setCell ⟨w2.heap.size, 10, none⟩ (.slice none 0 0)).setCell ⟨w2.heap.size, 11, none⟩ (.int .i64 y.g)) (w2.heap.size) 12 _ _ (.slice none 0 0) x11
              case rel => exact ⟨w2.heap.size, oa', M, oc', rfl, HM, Lib.hid (tss_new ((((((((((((((HB4.out).setCell hqq (.string y.f.t)).setCell hqq (.int .i64 0)).setCell hqq (.int .i64 0)).setCell hqq (.string y.t.t)).setCell hqq (.int .i64 0)).setCell hqq (.int .i64 0)).setCell hqq (.string y.on.n)).setCell hqq (.slice oa' M.length oc')).setCell hqq (.int .i64 0)).setCell hqq (.int .i64 0)).setCell hqq (.slice none 0 0)).setCell hqq (.int .i64 y.g)).setCell hqq (.slice none 0 0)) hpp (by (repeat rw [heap_setCell_other _ _ _ _ (show wo.heap.size ≠ w2.heap.size by omega)]); exact HC4.out) x12 (gin_apart HG4.out HAC.out (by decide) 0 [.string y.f.t, .int .i64 0, .int .i64 0, .string y.t.t, .int .i64 0, .int .i64 0, .string y.on.n, .slice oa' M.length oc', .int .i64 0, .int .i64 0, .slice none 0 0, .int .i64 y.g, .slice none 0 0]))⟩
          · rw [if_pos (by kernel_rfl)]
            go_simp
            have HB2 : Hid (Below wo.heap.size wo (w1.alloc (.cells #[.string ⟨#[]⟩, .int .i64 0, .int .i64 0, .string ⟨#[]⟩, .int .i64 0, .int .i64 0, .string ⟨#[]⟩, .slice none 0 0, .int .i64 0, .int .i64 0, .slice none 0 0, .int .i64 0, .slice none 0 0] 51))) := Lib.hid (HB1.out.alloc HB1.out.size _)
            have HC2 : Hid ((w1.alloc (.cells #[.string ⟨#[]⟩, .int .i64 0, .int .i64 0, .string ⟨#[]⟩, .int .i64 0, .int .i64 0, .string ⟨#[]⟩, .slice none 0 0, .int .i64 0, .int .i64 0, .slice none 0 0, .int .i64 0, .slice none 0 0] 51)).heap[wo.heap.size]? = some (.cells #[.string y.f.t, .int .i64 y.f.l, .int .i64 y.f.c, .string y.t.t, .int .i64 y.t.l, .int .i64 y.t.c, .string y.on.n, .slice oa1 y.on.ar.length oc1, .int .i64 y.on.l, .int .i64 y.on.c, .slice na1 y.ns.length nc1, .int .i64 y.g, .slice sa1 y.ss.length sc1] 51 (0, 0))) := Lib.hid ((heap_alloc_old _ _ (CBlk.lt ⟨_, _, HC1.out⟩)).trans HC1.out)
            have hpp : wo.heap.size < w1.heap.size := CBlk.lt ⟨_, _, HC1.out⟩
            have HA2 : Hid ((w1.alloc (.cells #[.string ⟨#[]⟩, .int .i64 0, .int .i64 0, .string ⟨#[]⟩, .int .i64 0, .int .i64 0, .string ⟨#[]⟩, .slice none 0 0, .int .i64 0, .int .i64 0, .slice none 0 0, .int .i64 0, .slice none 0 0] 51)).heap[w1.heap.size]? = some (.cells #[.string ⟨#[]⟩, .int .i64 0, .int .i64 0, .string ⟨#[]⟩, .int .i64 0, .int .i64 0, .string ⟨#[]⟩, .slice none 0 0, .int .i64 0, .int .i64 0, .slice none 0 0, .int .i64 0, .slice none 0 0] 51 (0, 0))) := Lib.hid (heap_alloc_new w1 (.cells #[.string ⟨#[]⟩, .int .i64 0, .int .i64 0, .string ⟨#[]⟩, .int .i64 0, .int .i64 0, .string ⟨#[]⟩, .slice none 0 0, .int .i64 0, .int .i64 0, .slice none 0 0, .int .i64 0, .slice none 0 0] 51))
            refine hK.out _ _ (HSC.out _ HC2.out) (fun hHs2 => ?_)
            clear hK K
            refine wpB_step (i := 5) rfl (by kernel_rfl) (fun K hK => ?_)
            rw [if_pos (by kernel_rfl)]
            go_simp
            refine (HN.out y.t _).mono ?_
            rintro e w3 ⟨rfl, k⟩
            have HB3 := Lib.hid (HB2.out.trans (k.mono HB2.out.size))
            have HC3 := Lib.hid ((k.block _ (CBlk.lt ⟨_, _, HC2.out⟩)).trans HC2.out)
            have HA3 := Lib.hid ((k.block _ (CBlk.lt ⟨_, _, HA2.out⟩)).trans HA2.out)
            clear k
            refine hK.out _ _ (HSC.out _ HC3.out) (fun hHs3 => ?_)
            clear hK K
            refine wpB_step (i := 8) rfl (by kernel_rfl) (fun K hK => ?_)
            rw [if_pos (by kernel_rfl)]
            go_simp
            refine (HBr.out _ (HP.out.below.trans (HB3.out.mono hwo))).mono ?_
            rintro e w4 ⟨_, rfl, ⟨oa', oc', rfl, hg2, _⟩, k⟩
            have hM : (plS y.on).ar = y.on.ar.map plA := rfl
            generalize (plS y.on).ar = M at hg2 hM ⊢
            rw [show (plS y.on).n = y.on.n from rfl, show (plS y.on).l = 0 from rfl, show (plS y.on).c = 0 from rfl]
            have HM := Lib.hid hM
            have HG4 := Lib.hid hg2
            clear hM hg2
            have HB4 := Lib.hid (HB3.out.trans (k.mono HB3.out.size))
            have HC4 := Lib.hid ((k.block _ (CBlk.lt ⟨_, _, HC3.out⟩)).trans HC3.out)
            have HA4 := Lib.hid ((k.block _ (CBlk.lt ⟨_, _, HA3.out⟩)).trans HA3.out)
            clear k
            refine hK.out _ _ (HSC.out _ HC4.out) (fun hHs4 => ?_)
            clear hK K
            refine wpB_take (i := 11) (v := .agg #[.string y.f.t, .int .i64 0, .int .i64 0, .string y.t.t, .int .i64 0, .int .i64 0, .string y.on.n, .slice oa' M.length oc', .int .i64 0, .int .i64 0, .slice none 0 0, .int .i64 y.g, .slice none 0 0]) [13] rfl (by kernel_rfl) (by kernel_rfl) (by kernel_rfl) (by kernel_rfl) (fun _ _ _ h => h) (Or.inl ⟨by kernel_rfl, fun wS hSw => by (try dsimp only at hSw); go_simp⟩) hHs4 ?_
            have e0 : w4.cell? ⟨w1.heap.size, 0, none⟩ = some (.string ⟨#[]⟩) := by rw [cell_of_row _ _ 0 _ _ _ HA4.out]; rfl
            have f0 : w4.frozen? ⟨w1.heap.size, 0, none⟩ = false := frozen_of_row _ _ 0 _ _ HA4.out
            have e1 : w4.cell? ⟨w1.heap.size, 1, none⟩ = some (.int .i64 0) := by rw [cell_of_row _ _ 1 _ _ _ HA4.out]; rfl
            have f1 : w4.frozen? ⟨w1.heap.size, 1, none⟩ = false := frozen_of_row _ _ 1 _ _ HA4.out
            have e2 : w4.cell? ⟨w1.heap.size, 2, none⟩ = some (.int .i64 0) := by rw [cell_of_row _ _ 2 _ _ _ HA4.out]; rfl
            have f2 : w4.frozen? ⟨w1.heap.size, 2, none⟩ = false := frozen_of_row _ _ 2 _ _ HA4.out
            have e3 : w4.cell? ⟨w1.heap.size, 3, none⟩ = some (.string ⟨#[]⟩) := by rw [cell_of_row _ _ 3 _ _ _ HA4.out]; rfl
            have f3 : w4.frozen? ⟨w1.heap.size, 3, none⟩ = false := frozen_of_row _ _ 3 _ _ HA4.out
            have e4 : w4.cell? ⟨w1.heap.size, 4, none⟩ = some (.int .i64 0) := by rw [cell_of_row _ _ 4 _ _ _ HA4.out]; rfl
            have f4 : w4.frozen? ⟨w1.heap.size, 4, none⟩ = false := frozen_of_row _ _ 4 _ _ HA4.out
            have e5 : w4.cell? ⟨w1.heap.size, 5, none⟩ = some (.int .i64 0) := by rw [cell_of_row _ _ 5 _ _ _ HA4.out]; rfl
            have f5 : w4.frozen? ⟨w1.heap.size, 5, none⟩ = false := frozen_of_row _ _ 5 _ _ HA4.out
            have e6 : w4.cell? ⟨w1.heap.size, 6, none⟩ = some (.string ⟨#[]⟩) := by rw [cell_of_row _ _ 6 _ _ _ HA4.out]; rfl
            have f6 : w4.frozen? ⟨w1.heap.size, 6, none⟩ = false := frozen_of_row _ _ 6 _ _ HA4.out
            have e7 : w4.cell? ⟨w1.heap.size, 7, none⟩ = some (.slice none 0 0) := by rw [cell_of_row _ _ 7 _ _ _ HA4.out]; rfl
            have f7 : w4.frozen? ⟨w1.heap.size, 7, none⟩ = false := frozen_of_row _ _ 7 _ _ HA4.out
            have e8 : w4.cell? ⟨w1.heap.size, 8, none⟩ = some (.int .i64 0) := by rw [cell_of_row _ _ 8 _ _ _ HA4.out]; rfl
            have f8 : w4.frozen? ⟨w1.heap.size, 8, none⟩ = false := frozen_of_row _ _ 8 _ _ HA4.out
            have e9 : w4.cell? ⟨w1.heap.size, 9, none⟩ = some (.int .i64 0) := by rw [cell_of_row _ _ 9 _ _ _ HA4.out]; rfl
            have f9 : w4.frozen? ⟨w1.heap.size, 9, none⟩ = false := frozen_of_row _ _ 9 _ _ HA4.out
            have e10 : w4.cell? ⟨w1.heap.size, 10, none⟩ = some (.slice none 0 0) := by rw [cell_of_row _ _ 10 _ _ _ HA4.out]; rfl
            have f10 : w4.frozen? ⟨w1.heap.size, 10, none⟩ = false := frozen_of_row _ _ 10 _ _ HA4.out
            have e11 : w4.cell? ⟨w1.heap.size, 11, none⟩ = some (.int .i64 0) := by rw [cell_of_row _ _ 11 _ _ _ HA4.out]; rfl
            have f11 : w4.frozen? ⟨w1.heap.size, 11, none⟩ = false := frozen_of_row _ _ 11 _ _ HA4.out
            have e12 : w4.cell? ⟨w1.heap.size, 12, none⟩ = some (.slice none 0 0) := by rw [cell_of_row _ _ 12 _ _ _ HA4.out]; rfl
            have f12 : w4.frozen? ⟨w1.heap.size, 12, none⟩ = false := frozen_of_row _ _ 12 _ _ HA4.out
            have hqq : wo.heap.size ≤ w1.heap.size := by omega
            have HAC : Hid (CBlk w4 (w1.heap.size) 51) := Lib.hid ⟨_, _, HA4.out⟩
            refine wpB_past (i := 13) rfl (by kernel_rfl) (by kernel_rfl) (fun K hK => ?_)
            rw [if_pos (by kernel_rfl)]
            go_simp
            refine hK.out _ _ ?_
            clear hK K
            refine wpB_done (by kernel_rfl) ?_ _
            go_simp
            go_wp2_with fail
            go_meet
            have x0 : (w4.setCell ⟨w1.heap.size, 0, none⟩ (.string y.f.t)).heap[w1.heap.size]? = some (.cells #[.string y.f.t, .int .i64 0, .int .i64 0, .string ⟨#[]⟩, .int .i64 0, .int .i64 0, .string ⟨#[]⟩, .slice none 0 0, .int .i64 0, .int .i64 0, .slice none 0 0, .int .i64 0, .slice none 0 0] 51 (0, 0)) := heap_setCell_same w4 (w1.heap.size) 0 _ _ (.string y.f.t) HA4.out
            have x1 : ((w4.setCell ⟨w1.heap.size, 0, none⟩ (.string y.f.t)).setCell ⟨w1.heap.size, 1, none⟩ (.int .i64 0)).heap[w1.heap.size]? = some (.cells #[.string y.f.t, .int .i64 0, .int .i64 0, .string ⟨#[]⟩, .int .i64 0, .int .i64 0, .string ⟨#[]⟩, .slice none 0 0, .int .i64 0, .int .i64 0, .slice none 0 0, .int .i64 0, .slice none 0 0] 51 (0, 0)) := heap_setCell_same (w4.setCell ⟨w1.heap.size, 0, none⟩ (.string y.f.t)) (w1.heap.size) 1 _ _ (.int .i64 0) x0
            have x2 : (((w4.setCell ⟨w1.heap.size, 0, none⟩ (.string y.f.t)).setCell ⟨w1.heap.size, 1, none⟩ (.int .i64 0)).setCell ⟨w1.heap.size, 2, none⟩ (.int .i64 0)).heap[w1.heap.size]? = some (.cells #[.string y.f.t, .int .i64 0, .int .i64 0, .string ⟨#[]⟩, .int .i64 0, .int .i64 0, .string ⟨#[]⟩, .slice none 0 0, .int .i64 0, .int .i64 0, .slice none 0 0, .int .i64 0, .slice none 0 0] 51 (0, 0)) := heap_setCell_same ((w4.setCell ⟨w1.heap.size, 0, none⟩ (.string y.f.t)).setCell ⟨w1.heap.size, 1, none⟩ (.int .i64 0)) (w1.heap.size) 2 _ _ (.int .i64 0) x1
            have x3 : ((((w4.setCell ⟨w1.heap.size, 0, none⟩ (.string y.f.t)).setCell ⟨w1.heap.size, 1, none⟩ (.int .i64 0)).setCell ⟨w1.heap.size, 2, none⟩ (.int .i64 0)).setCell ⟨w1.heap.size, 3, none⟩ (.string y.t.t)).heap[w1.heap.size]? = some (.cells #[.string y.f.t, .int .i64 0, .int .i64 0, .string y.t.t, .int .i64 0, .int .i64 0, .string ⟨#[]⟩, .slice none 0 0, .int .i64 0, .int .i64 0, .slice none 0 0, .int .i64 0, .slice none 0 0] 51 (0, 0)) := heap_setCell_same (((w4.setCell ⟨w1.heap.size, 0, none⟩ (.string y.f.t)).setCell ⟨w1.heap.size, 1, none⟩ (.int .i64 0)).setCell ⟨w1.heap.size, 2, none⟩ (.int .i64 0)) (w1.heap.size) 3 _ _ (.string y.t.t) x2
            have x4 : (((((w4.setCell ⟨w1.heap.size, 0, none⟩ (.string y.f.t)).setCell ⟨w1.heap.size, 1, none⟩ (.int .i64 0)).setCell ⟨w1.heap.size, 2, none⟩ (.int .i64 0)).setCell ⟨w1.heap.size, 3, none⟩ (.string y.t.t)).setCell ⟨w1.heap.size, 4, none⟩ (.int .i64 0)).heap[w1.heap.size]? = some (.cells #[.string y.f.t, .int .i64 0, .int .i64 0, .string y.t.t, .int .i64 0, .int .i64 0, .string ⟨#[]⟩, .slice none 0 0, .int .i64 0, .int .i64 0, .slice none 0 0, .int .i64 0, .slice none 0 0] 51 (0, 0)) := heap_setCell_same ((((w4.setCell ⟨w1.heap.size, 0, none⟩ (.string y.f.t)).setCell ⟨w1.heap.size, 1, none⟩ (.int .i64 0)).setCell ⟨w1.heap.size, 2, none⟩ (.int .i64 0)).setCell ⟨w1.heap.size, 3, none⟩ (.string y.t.t)) (w1.heap.size) 4 _ _ (.int .i64 0) x3
            have x5 : ((((((w4.setCell ⟨w1.heap.size, 0, none⟩ (.string y.f.t)).setCell ⟨w1.heap.size, 1, none⟩ (.int .i64 0)).setCell ⟨w1.heap.size, 2, none⟩ (.int .i64 0)).setCell ⟨w1.heap.size, 3, none⟩ (.string y.t.t)).setCell ⟨w1.heap.size, 4, none⟩ (.int .i64 0)).setCell ⟨w1.heap.size, 5, none⟩ (.int .i64 0)).heap[w1.heap.size]? = some (.cells #[.string y.f.t, .int .i64 0, .int .i64 0, .string y.t.t, .int .i64 0, .int .i64 0, .string ⟨#[]⟩, .slice none 0 0, .int .i64 0, .int .i64 0, .slice none 0 0, .int .i64 0, .slice none 0 0] 51 (0, 0)) := heap_setCell_same (((((w4.setCell ⟨w1.heap.size, 0, none⟩ (.string y.f.t)).setCell ⟨w1.heap.size, 1, none⟩ (.int .i64 0)).setCell ⟨w1.heap.size, 2, none⟩ (.int .i64 0)).setCell ⟨w1.heap.size, 3, none⟩ (.string y.t.t)).setCell ⟨w1.heap.size, 4, none⟩ (.int .i64 0)) (w1.heap.size) 5 _ _ (.int .i64 0) x4
            have x6 : (((((((w4.setCell ⟨w1.heap.size, 0, none⟩ (.string y.f.t)).setCell ⟨w1.heap.size, 1, none⟩ (.int .i64 0)).setCell ⟨w1.heap.size, 2, none⟩ (.int .i64 0)).setCell ⟨w1.heap.size, 3, none⟩ (.string y.t.t)).setCell ⟨w1.heap.size, 4, none⟩ (.int .i64 0)).setCell ⟨w1.heap.size, 5, none⟩ (.int .i64 0)).setCell ⟨w1.heap.size, 6, none⟩ (.string y.on.n)).heap[w1.heap.size]? = some (.cells #[.string y.f.t, .int .i64 0, .int .i64 0, .string y.t.t, .int .i64 0, .int .i64 0, .string y.on.n, .slice none 0 0, .int .i64 0, .int .i64 0, .slice none 0 0, .int .i64 0, .slice none 0 0] 51 (0, 0)) := heap_setCell_same ((((((w4.setCell ⟨w1.heap.size, 0, none⟩ (.string y.f.t)).setCell ⟨w1.heap.size, 1, none⟩ (.int .i64 0)).setCell ⟨w1.heap.size, 2, none⟩ (.int .i64 0)).setCell ⟨w1.heap.size, 3, none⟩ (.string y.t.t)).setCell ⟨w1.heap.size, 4, none⟩ (.int .i64 0)).setCell ⟨w1.heap.size, 5, none⟩ (.int .i64 0)) (w1.heap.size) 6 _ _ (.string y.on.n) x5
            have x7 : ((((((((w4.setCell ⟨w1.heap.size, 0, none⟩ (.string y.f.t)).setCell ⟨w1.heap.size, 1, none⟩ (.int .i64 0)).setCell ⟨w1.heap.size, 2, none⟩ (.int .i64 0)).setCell ⟨w1.heap.size, 3, none⟩ (.string y.t.t)).setCell ⟨w1.heap.size, 4, none⟩ (.int .i64 0)).setCell ⟨w1.heap.size, 5, none⟩ (.int .i64 0)).setCell ⟨w1.heap.size, 6, none⟩ (.string y.on.n)).setCell ⟨w1.heap.size, 7, none⟩ (.slice oa' M.length oc')).heap[w1.heap.size]? = some (.cells #[.string y.f.t, .int .i64 0, .int .i64 0, .string y.t.t, .int .i64 0, .int .i64 0, .string y.on.n, .slice oa' M.length oc', .int .i64 0, .int .i64 0, .slice none 0 0, .int .i64 0, .slice none 0 0] 51 (0, 0)) := heap_setCell_same (((((((w4.setCell ⟨w1.heap.size, 0, none⟩ (.string y.f.t)).setCell ⟨w1.heap.size, 1, none⟩ (.int .i64 0)).setCell ⟨w1.heap.size, 2, none⟩ (.int .i64 0)).setCell ⟨w1.heap.size, 3, none⟩ (.string y.t.t)).setCell ⟨w1.heap.size, 4, none⟩ (.int .i64 0)).setCell ⟨w1.heap.size, 5, none⟩ (.int .i64 0)).setCell ⟨w1.heap.size, 6, none⟩ (.string y.on.n)) (w1.heap.size) 7 _ _ (.slice oa' M.length oc') x6
            have x8 : (((((((((w4.setCell ⟨w1.heap.size, 0, none⟩ (.string y.f.t)).setCell ⟨w1.heap.size, 1, none⟩ (.int .i64 0)).setCell ⟨w1.heap.size, 2, none⟩ (.int .i64 0)).setCell ⟨w1.heap.size, 3, none⟩ (.string y.t.t)).setCell ⟨w1.heap.size, 4, none⟩ (.int .i64 0)).setCell ⟨w1.heap.size, 5, none⟩ (.int .i64 0)).setCell ⟨w1.heap.size, 6, none⟩ (.string y.on.n)).setCell ⟨w1.heap.size, 7, none⟩ (.slice oa' M.length oc')).setCell ⟨w1.heap.size, 8, none⟩ (.int .i64 0)).heap[w1.heap.size]? = some (.cells #[.string y.f.t, .int .i64 0, .int .i64 0, .string y.t.t, .int .i64 0, .int .i64 0, .string y.on.n, .slice oa' M.length oc', .int .i64 0, .int .i64 0, .slice none 0 0, .int .i64 0, .slice none 0 0] 51 (0, 0)) := heap_setCell_same ((((((((w4.setCell ⟨w1.heap.size, 0, none⟩ (.string y.f.t)).setCell ⟨w1.heap.size, 1, none⟩ (.int .i64 0)).setCell ⟨w1.heap.size, 2, none⟩ (.int .i64 0)).setCell ⟨w1.heap.size, 3, none⟩ (.string y.t.t)).setCell ⟨w1.heap.size, 4, none⟩ (.int .i64 0)).setCell ⟨w1.heap.size, 5, none⟩ (.int .i64 0)).setCell ⟨w1.heap.size, 6, none⟩ (.string y.on.n)).setCell ⟨w1.heap.size, 7, none⟩ (.slice oa' M.length oc')) (w1.heap.size) 8 _ _ (.int .i64 0) x7
            have x9 : ((((((((((w4.setCell ⟨w1.heap.size, 0, none⟩ (.string y.f.t)).setCell ⟨w1.heap.size, 1, none⟩ (.int .i64 0)).setCell ⟨w1.heap.size, 2, none⟩ (.int .i64 0)).setCell ⟨w1.heap.size, 3, none⟩ (.string y.t.t)).setCell ⟨w1.heap.size, 4, none⟩ (.int .i64 0)).setCell ⟨w1.heap.size, 5, none⟩ (.int .i64 0)).setCell ⟨w1.heap.size, 6, none⟩ (.string y.on.n)).setCell ⟨w1.heap.size, 7, none⟩ (.slice oa' M.length oc')).setCell ⟨w1.heap.size, 8, none⟩ (.int .i64 0)).setCell ⟨w1.heap.size, 9, none⟩ (.int .i64 0)).heap[w1.heap.size]? = some (.cells #[.string y.f.t, .int .i64 0, .int .i64 0, .string y.t.t, .int .i64 0, .int .i64 0, .string y.on.n, .slice oa' M.length oc', .int .i64 0, .int .i64 0, .slice none 0 0, .int .i64 0, .slice none 0 0] 51 (0, 0)) := heap_setCell_same (((((((((w4.setCell ⟨w1.heap.size, 0, none⟩ (.string y.f.t)).setCell ⟨w1.heap.size, 1, none⟩ (.int .i64 0)).setCell ⟨w1.heap.size, 2, none⟩ (.int .i64 0)).setCell ⟨w1.heap.size, 3, none⟩ (.string y.t.t)).setCell ⟨w1.heap.size, 4, none⟩ (.int .i64 0)).setCell ⟨w1.heap.size, 5, none⟩ (.int .i64 0)).setCell ⟨w1.heap.size, 6, none⟩ (.string y.on.n)).setCell ⟨w1.heap.size, 7, none⟩ (.slice oa' M.length oc')).setCell ⟨w1.heap.size, 8, none⟩ (.int .i64 0)) (w1.heap.size) 9 _ _ (.int .i64 0) x8
            have x10 : (((((((((((w4.setCell ⟨w1.heap.size, 0, none⟩ (.string y.f.t)).setCell ⟨w1.heap.size, 1, none⟩ (.int .i64 0)).setCell ⟨w1.heap.size, 2, none⟩ (.int .i64 0)).setCell ⟨w1.heap.size, 3, none⟩ (.string y.t.t)).setCell ⟨w1.heap.size, 4, none⟩ (.int .i64 0)).setCell ⟨w1.heap.size, 5, none⟩ (.int .i64 0)).setCell ⟨w1.heap.size, 6, none⟩ (.string y.on.n)).setCell ⟨w1.heap.size, 7, none⟩ (.slice oa' M.length oc')).setCell ⟨w1.heap.size, 8, none⟩ (.int .i64 0)).setCell ⟨w1.heap.size, 9, none⟩ (.int .i64 0)).setCell ⟨w1.heap.size, 10, none⟩ (.slice none 0 0)).heap[w1.heap.size]? = some (.cells #[.string y.f.t, .int .i64 0, .int .i64 0, .string y.t.t, .int .i64 0, .int .i64 0, .string y.on.n, .slice oa' M.length oc', .int .i64 0, .int .i64 0, .slice none 0 0, .int .i64 0, .slice none 0 0] 51 (0, 0)) := heap_setCell_same ((((((((((w4.setCell ⟨w1.heap.size, 0, none⟩ (.string y.f.t)).setCell ⟨w1.heap.size, 1, none⟩ (.int .i64 0)).setCell ⟨w1.heap.size, 2, none⟩ (.int .i64 0)).setCell ⟨w1.heap.size, 3, none⟩ (.string y.t.t)).setCell ⟨w1.heap.size, 4, none⟩ (.int .i64 0)).setCell ⟨w1.heap.size, 5, none⟩ (.int .i64 0)).setCell ⟨w1.heap.size, 6, none⟩ (.string y.on.n)).setCell ⟨w1.heap.size, 7, none⟩ (.slice oa' M.length oc')).setCell ⟨w1.heap.size, 8, none⟩ (.int .i64 0)).setCell ⟨w1.heap.size, 9, none⟩ (.int .i64 0)) (w1.heap.size) 10 _ _ (.slice none 0 0) x9
            have x11 : ((((((((((((w4.setCell ⟨w1.heap.size, 0, none⟩ (.string y.f.t)).setCell ⟨w1.heap.size, 1, none⟩ (.int .i64 0)).setCell ⟨w1.heap.size, 2, none⟩ (.int .i64 0)).setCell ⟨w1.heap.size, 3, none⟩ (.string y.t.t)).setCell ⟨w1.heap.size, 4, none⟩ (.int .i64 0)).setCell ⟨w1.heap.size, 5, none⟩ (.int .i64 0)).setCell ⟨w1.heap.size, 6, none⟩ (.string y.on.n)).setCell ⟨w1.heap.size, 7, none⟩ (.slice oa' M.length oc')).setCell ⟨w1.heap.size, 8, none⟩ (.int .i64 0)).setCell ⟨w1.heap.size, 9, none⟩ (.int .i64 0)).setCell ⟨w1.heap.size, 10, none⟩ (.slice none 0 0)).setCell ⟨w1.heap.size, 11, none⟩ (.int .i64 y.g)).heap[w1.heap.size]? = some (.cells #[.string y.f.t, .int .i64 0, .int .i64 0, .string y.t.t, .int .i64 0, .int .i64 0, .string y.on.n, .slice oa' M.length oc', .int .i64 0, .int .i64 0, .slice none 0 0, .int .i64 y.g, .slice none 0 0] 51 (0, 0)) := heap_setCell_same (((((((((((w4.setCell ⟨w1.heap.size, 0, none⟩ (.string y.f.t)).setCell ⟨w1.heap.size, 1, none⟩ (.int .i64 0)).setCell ⟨w1.heap.size, 2, none⟩ (.int .i64 0)).setCell ⟨w1.heap.size, 3, none⟩ (.string y.t.t)).setCell ⟨w1.heap.size, 4, none⟩ (.int .i64 0)).setCell ⟨w1.heap.size, 5, none⟩ (.int .i64 0)).setCell ⟨w1.heap.size, 6, none⟩ (.string y.on.n)).setCell ⟨w1.heap.size, 7, none⟩ (.slice oa' M.length oc')).setCell ⟨w1.heap.size, 8, none⟩ (.int .i64 0)).setCell ⟨w1.heap.size, 9, none⟩ (.int .i64 0)).setCell ⟨w1.heap.size, 10, none⟩ (.slice none 0 0)) (w1.heap.size) 11 _ _ (.int .i64 y.g) x10
            have x12 : (((((((((((((w4.setCell ⟨w1.heap.size, 0, none⟩ (.string y.f.t)).setCell ⟨w1.heap.size, 1, none⟩ (.int .i64 0)).setCell ⟨w1.heap.size, 2, none⟩ (.int .i64 0)).setCell ⟨w1.heap.size, 3, none⟩ (.string y.t.t)).setCell ⟨w1.heap.size, 4, none⟩ (.int .i64 0)).setCell ⟨w1.heap.size, 5, none⟩ (.int .i64 0)).setCell ⟨w1.heap.size, 6, none⟩ (.string y.on.n)).setCell ⟨w1.heap.size, 7, none⟩ (.slice oa' M.length oc')).setCell ⟨w1.heap.size, 8, none⟩ (.int .i64 0)).setCell ⟨w1.heap.size, 9, none⟩ (.int .i64 0)).setCell ⟨w1.heap.size, 10, none⟩ (.slice none 0 0)).setCell ⟨w1.heap.size, 11, none⟩ (.int .i64 y.g)).setCell ⟨w1.heap.size, 12, none⟩ (.slice none 0 0)).heap[w1.heap.size]? = some (.cells #[.string y.f.t, .int .i64 0, .int .i64 0, .string y.t.t, .int .i64 0, .int .i64 0, .string y.on.n, .slice oa' M.length oc', .int .i64 0, .int .i64 0, .slice none 0 0, .int .i64 y.g, .slice none 0 0] 51 (0, 0)) := heap_setCell_same ((((((((((((w4.setCell ⟨w1.heap.size, 0, none⟩ (.string y.f.t)).setCell ⟨w1.heap.size, 1, none⟩ (.int .i64 0)).setCell ⟨w1.heap.size, 2, none⟩ (.int .i64 0)).setCell ⟨w1.heap.size, 3, none⟩ (.string y.t.t)).setCell ⟨w1.heap.size, 4, none⟩ (.int .i64 0)).setCell ⟨w1.heap.size, 5, none⟩ (.int .i64 0)).setCell ⟨w1.heap.size, 6, none⟩ (.string y.on.n)).setCell ⟨w1.heap.size, 7, none⟩ (.slice oa' M.length oc')).setCell ⟨w1.heap.size, 8, none⟩ (.int .i64 0)).setCell ⟨w1.heap.size, 9, none⟩ (.int .i64 0)).setCell ⟨w1.heap.size, 10, none⟩ (.slice none 0 0)).setCell ⟨w1.heap.size, 11, none⟩ (.int .i64 y.g)) (w1.heap.size) 12 _ _ (.slice none 0 0) x11
            case rel => exact ⟨w1.heap.size, oa', M, oc', rfl, HM, Lib.hid (tss_new ((((((((((((((HB4.out).setCell hqq (.string y.f.t)).setCell hqq (.int .i64 0)).setCell hqq (.int .i64 0)).setCell hqq (.string y.t.t)).setCell hqq (.int .i64 0)).setCell hqq (.int .i64 0)).setCell hqq (.string y.on.n)).setCell hqq (.slice oa' M.length oc')).setCell hqq (.int .i64 0)).setCell hqq (.int .i64 0)).setCell hqq (.slice none 0 0)).setCell hqq (.int .i64 y.g)).setCell hqq (.slice none 0 0)) hpp (by (repeat rw [heap_setCell_other _ _ _ _ (show wo.heap.size ≠ w1.heap.size by omega)]); exact HC4.out) x12 (gin_apart HG4.out HAC.out (by decide) 0 [.string y.f.t, .int .i64 0, .int .i64 0, .string y.t.t, .int .i64 0, .int .i64 0, .string y.on.n, .slice oa' M.length oc', .int .i64 0, .int .i64 0, .slice none 0 0, .int .i64 y.g, .slice none 0 0]))⟩
        · rw [if_pos (by kernel_rfl)]
          go_simp
          have HB1 : Hid (Below wo.heap.size wo ((wo.alloc (.cells #[.string y.f.t, .int .i64 y.f.l, .int .i64 y.f.c, .string y.t.t, .int .i64 y.t.l, .int .i64 y.t.c, .string y.on.n, .slice oa1 y.on.ar.length oc1, .int .i64 y.on.l, .int .i64 y.on.c, .slice na1 y.ns.length nc1, .int .i64 y.g, .slice sa1 y.ss.length sc1] 51)).drew.alloc (.cells #[.string ⟨#[]⟩, .int .i64 0, .int .i64 0, .string ⟨#[]⟩, .int .i64 0, .int .i64 0, .string ⟨#[]⟩, .slice none 0 0, .int .i64 0, .int .i64 0, .slice none 0 0, .int .i64 0, .slice none 0 0] 51))) := Lib.hid (HB0.out.alloc HB0.out.size _)
          have HC1 : Hid (((wo.alloc (.cells #[.string y.f.t, .int .i64 y.f.l, .int .i64 y.f.c, .string y.t.t, .int .i64 y.t.l, .int .i64 y.t.c, .string y.on.n, .slice oa1 y.on.ar.length oc1, .int .i64 y.on.l, .int .i64 y.on.c, .slice na1 y.ns.length nc1, .int .i64 y.g, .slice sa1 y.ss.length sc1] 51)).drew.alloc (.cells #[.string ⟨#[]⟩, .int .i64 0, .int .i64 0, .string ⟨#[]⟩, .int .i64 0, .int .i64 0, .string ⟨#[]⟩, .slice none 0 0, .int .i64 0, .int .i64 0, .slice none 0 0, .int .i64 0, .slice none 0 0] 51)).heap[wo.heap.size]? = some (.cells #[.string y.f.t, .int .i64 y.f.l, .int .i64 y.f.c, .string y.t.t, .int .i64 y.t.l, .int .i64 y.t.c, .string y.on.n, .slice oa1 y.on.ar.length oc1, .int .i64 y.on.l, .int .i64 y.on.c, .slice na1 y.ns.length nc1, .int .i64 y.g, .slice sa1 y.ss.length sc1] 51 (0, 0))) := Lib.hid ((heap_alloc_old _ _ (CBlk.lt ⟨_, _, HC0.out⟩)).trans HC0.out)
          have hpp : wo.heap.size < wo.heap.size + 1 := Nat.lt_succ_self _
          have HA1 : Hid (((wo.alloc (.cells #[.string y.f.t, .int .i64 y.f.l, .int .i64 y.f.c, .string y.t.t, .int .i64 y.t.l, .int .i64 y.t.c, .string y.on.n, .slice oa1 y.on.ar.length oc1, .int .i64 y.on.l, .int .i64 y.on.c, .slice na1 y.ns.length nc1, .int .i64 y.g, .slice sa1 y.ss.length sc1] 51)).drew.alloc (.cells #[.string ⟨#[]⟩, .int .i64 0, .int .i64 0, .string ⟨#[]⟩, .int .i64 0, .int .i64 0, .string ⟨#[]⟩, .slice none 0 0, .int .i64 0, .int .i64 0, .slice none 0 0, .int .i64 0, .slice none 0 0] 51)).heap[wo.heap.size + 1]? = some (.cells #[.string ⟨#[]⟩, .int .i64 0, .int .i64 0, .string ⟨#[]⟩, .int .i64 0, .int .i64 0, .string ⟨#[]⟩, .slice none 0 0, .int .i64 0, .int .i64 0, .slice none 0 0, .int .i64 0, .slice none 0 0] 51 (0, 0))) := Lib.hid (by have h := heap_alloc_new (wo.alloc (.cells #[.string y.f.t, .int .i64 y.f.l, .int .i64 y.f.c, .string y.t.t, .int .i64 y.t.l, .int .i64 y.t.c, .string y.on.n, .slice oa1 y.on.ar.length oc1, .int .i64 y.on.l, .int .i64 y.on.c, .slice na1 y.ns.length nc1, .int .i64 y.g, .slice sa1 y.ss.length sc1] 51)).drew (.cells #[.string ⟨#[]⟩, .int .i64 0, .int .i64 0, .string ⟨#[]⟩, .int .i64 0, .int .i64 0, .string ⟨#[]⟩, .slice none 0 0, .int .i64 0, .int .i64 0, .slice none 0 0, .int .i64 0, .slice none 0 0] 51); rwa [show (wo.alloc (.cells #[.string y.f.t, .int .i64 y.f.l, .int .i64 y.f.c, .string y.t.t, .int .i64 y.t.l, .int .i64 y.t.c, .string y.on.n, .slice oa1 y.on.ar.length oc1, .int .i64 y.on.l, .int .i64 y.on.c, .slice na1 y.ns.length nc1, .int .i64 y.g, .slice sa1 y.ss.length sc1] 51)).drew.heap.size = wo.heap.size + 1 by simp] at h)
          refine hK.out _ _ (HSC.out _ HC1.out) (fun hHs1 => ?_)
          clear hK K
          refine wpB_step (i := 2) rfl (by kernel_rfl) (fun K hK => ?_)
          rw [if_pos (by kernel_rfl)]
          go_simp
          refine (HN.out y.f _).mono ?_
          rintro e w2 ⟨rfl, k⟩
          have HB2 := Lib.hid (HB1.out.trans (k.mono HB1.out.size))
          have HC2 := Lib.hid ((k.block _ (CBlk.lt ⟨_, _, HC1.out⟩)).trans HC1.out)
          have HA2 := Lib.hid ((k.block _ (CBlk.lt ⟨_, _, HA1.out⟩)).trans HA1.out)
          clear k
          refine hK.out _ _ (HSC.out _ HC2.out) (fun hHs2 => ?_)
          clear hK K
          refine wpB_step (i := 5) rfl (by kernel_rfl) (fun K hK => ?_)
          rw [if_pos (by kernel_rfl)]
          go_simp
          refine (HN.out y.t _).mono ?_
          rintro e w3 ⟨rfl, k⟩
          have HB3 := Lib.hid (HB2.out.trans (k.mono HB2.out.size))
          have HC3 := Lib.hid ((k.block _ (CBlk.lt ⟨_, _, HC2.out⟩)).trans HC2.out)
          have HA3 := Lib.hid ((k.block _ (CBlk.lt ⟨_, _, HA2.out⟩)).trans HA2.out)
          clear k
          refine hK.out _ _ (HSC.out _ HC3.out) (fun hHs3 => ?_)
          clear hK K
          refine wpB_step (i := 8) rfl (by kernel_rfl) (fun K hK => ?_)
          rw [if_pos (by kernel_rfl)]
          go_simp
          refine (HBr.out _ (HP.out.below.trans (HB3.out.mono hwo))).mono ?_
          rintro e w4 ⟨_, rfl, ⟨oa', oc', rfl, hg2, _⟩, k⟩
          have hM : (plS y.on).ar = y.on.ar.map plA := rfl
          generalize (plS y.on).ar = M at hg2 hM ⊢
          rw [show (plS y.on).n = y.on.n from rfl, show (plS y.on).l = 0 from rfl, show (plS y.on).c = 0 from rfl]
          have HM := Lib.hid hM
          have HG4 := Lib.hid hg2
          clear hM hg2
          have HB4 := Lib.hid (HB3.out.trans (k.mono HB3.out.size))
          have HC4 := Lib.hid ((k.block _ (CBlk.lt ⟨_, _, HC3.out⟩)).trans HC3.out)
          have HA4 := Lib.hid ((k.block _ (CBlk.lt ⟨_, _, HA3.out⟩)).trans HA3.out)
          clear k
          refine hK.out _ _ (HSC.out _ HC4.out) (fun hHs4 => ?_)
          clear hK K
          refine wpB_take (i := 11) (v := .agg #[.string y.f.t, .int .i64 0, .int .i64 0, .string y.t.t, .int .i64 0, .int .i64 0, .string y.on.n, .slice oa' M.length oc', .int .i64 0, .int .i64 0, .slice none 0 0, .int .i64 y.g, .slice none 0 0]) [13] rfl (by kernel_rfl) (by kernel_rfl) (by kernel_rfl) (by kernel_rfl) (fun _ _ _ h => h) (Or.inl ⟨by kernel_rfl, fun wS hSw => by (try dsimp only at hSw); go_simp⟩) hHs4 ?_
          have e0 : w4.cell? ⟨wo.heap.size + 1, 0, none⟩ = some (.string ⟨#[]⟩) := by rw [cell_of_row _ _ 0 _ _ _ HA4.out]; rfl
          have f0 : w4.frozen? ⟨wo.heap.size + 1, 0, none⟩ = false := frozen_of_row _ _ 0 _ _ HA4.out
          have e1 : w4.cell? ⟨wo.heap.size + 1, 1, none⟩ = some (.int .i64 0) := by rw [cell_of_row _ _ 1 _ _ _ HA4.out]; rfl
          have f1 : w4.frozen? ⟨wo.heap.size + 1, 1, none⟩ = false := frozen_of_row _ _ 1 _ _ HA4.out
          have e2 : w4.cell? ⟨wo.heap.size + 1, 2, none⟩ = some (.int .i64 0) := by rw [cell_of_row _ _ 2 _ _ _ HA4.out]; rfl
          have f2 : w4.frozen? ⟨wo.heap.size + 1, 2, none⟩ = false := frozen_of_row _ _ 2 _ _ HA4.out
          have e3 : w4.cell? ⟨wo.heap.size + 1, 3, none⟩ = some (.string ⟨#[]⟩) := by rw [cell_of_row _ _ 3 _ _ _ HA4.out]; rfl
          have f3 : w4.frozen? ⟨wo.heap.size + 1, 3, none⟩ = false := frozen_of_row _ _ 3 _ _ HA4.out
          have e4 : w4.cell? ⟨wo.heap.size + 1, 4, none⟩ = some (.int .i64 0) := by rw [cell_of_row _ _ 4 _ _ _ HA4.out]; rfl
          have f4 : w4.frozen? ⟨wo.heap.size + 1, 4, none⟩ = false := frozen_of_row _ _ 4 _ _ HA4.out
          have e5 : w4.cell? ⟨wo.heap.size + 1, 5, none⟩ = some (.int .i64 0) := by rw [cell_of_row _ _ 5 _ _ _ HA4.out]; rfl
          have f5 : w4.frozen? ⟨wo.heap.size + 1, 5, none⟩ = false := frozen_of_row _ _ 5 _ _ HA4.out
          have e6 : w4.cell? ⟨wo.heap.size + 1, 6, none⟩ = some (.string ⟨#[]⟩) := by rw [cell_of_row _ _ 6 _ _ _ HA4.out]; rfl
          have f6 : w4.frozen? ⟨wo.heap.size + 1, 6, none⟩ = false := frozen_of_row _ _ 6 _ _ HA4.out
          have e7 : w4.cell? ⟨wo.heap.size + 1, 7, none⟩ = some (.slice none 0 0) := by rw [cell_of_row _ _ 7 _ _ _ HA4.out]; rfl
          have f7 : w4.frozen? ⟨wo.heap.size + 1, 7, none⟩ = false := frozen_of_row _ _ 7 _ _ HA4.out
          have e8 : w4.cell? ⟨wo.heap.size + 1, 8, none⟩ = some (.int .i64 0) := by rw [cell_of_row _ _ 8 _ _ _ HA4.out]; rfl
          have f8 : w4.frozen? ⟨wo.heap.size + 1, 8, none⟩ = false := frozen_of_row _ _ 8 _ _ HA4.out
          have e9 : w4.cell? ⟨wo.heap.size + 1, 9, none⟩ = some (.int .i64 0) := by rw [cell_of_row _ _ 9 _ _ _ HA4.out]; rfl
          have f9 : w4.frozen? ⟨wo.heap.size + 1, 9, none⟩ = false := frozen_of_row _ _ 9 _ _ HA4.out
          have e10 : w4.cell? ⟨wo.heap.size + 1, 10, none⟩ = some (.slice none 0 0) := by rw [cell_of_row _ _ 10 _ _ _ HA4.out]; rfl
          have f10 : w4.frozen? ⟨wo.heap.size + 1, 10, none⟩ = false := frozen_of_row _ _ 10 _ _ HA4.out
          have e11 : w4.cell? ⟨wo.heap.size + 1, 11, none⟩ = some (.int .i64 0) := by rw [cell_of_row _ _ 11 _ _ _ HA4.out]; rfl
          have f11 : w4.frozen? ⟨wo.heap.size + 1, 11, none⟩ = false := frozen_of_row _ _ 11 _ _ HA4.out
          have e12 : w4.cell? ⟨wo.heap.size + 1, 12, none⟩ = some (.slice none 0 0) := by rw [cell_of_row _ _ 12 _ _ _ HA4.out]; rfl
          have f12 : w4.frozen? ⟨wo.heap.size + 1, 12, none⟩ = false := frozen_of_row _ _ 12 _ _ HA4.out
          have hqq : wo.heap.size ≤ wo.heap.size + 1 := by omega
          have HAC : Hid (CBlk w4 (wo.heap.size + 1) 51) := Lib.hid ⟨_, _, HA4.out⟩
          refine wpB_past (i := 13) rfl (by kernel_rfl) (by kernel_rfl) (fun K hK => ?_)
          rw [if_pos (by kernel_rfl)]
          go_simp
          refine hK.out _ _ ?_
          clear hK K
          refine wpB_done (by kernel_rfl) ?_ _
          go_simp
          go_wp2_with fail
          go_meet
          have x0 : (w4.setCell ⟨wo.heap.size + 1, 0, none⟩ (.string y.f.t)).heap[wo.heap.size + 1]? = some (.cells #[.string y.f.t, .int .i64 0, .int .i64 0, .string ⟨#[]⟩, .int .i64 0, .int .i64 0, .string ⟨#[]⟩, .slice none 0 0, .int .i64 0, .int .i64 0, .slice none 0 0, .int .i64 0, .slice none 0 0] 51 (0, 0)) := heap_setCell_same w4 (wo.heap.size + 1) 0 _ _ (.string y.f.t) HA4.out
          have x1 : ((w4.setCell ⟨wo.heap.size + 1, 0, none⟩ (.string y.f.t)).setCell ⟨wo.heap.size + 1, 1, none⟩ (.int .i64 0)).heap[wo.heap.size + 1]? = some (.cells #[.string y.f.t, .int .i64 0, .int .i64 0, .string ⟨#[]⟩, .int .i64 0, .int .i64 0, .string ⟨#[]⟩, .slice none 0 0, .int .i64 0, .int .i64 0, .slice none 0 0, .int .i64 0, .slice none 0 0] 51 (0, 0)) := heap_setCell_same (w4.setCell ⟨wo.heap.size + 1, 0, none⟩ (.string y.f.t)) (wo.heap.size + 1) 1 _ _ (.int .i64 0) x0
          have x2 : (((w4.setCell ⟨wo.heap.size + 1, 0, none⟩ (.string y.f.t)).setCell ⟨wo.heap.size + 1, 1, none⟩ (.int .i64 0)).setCell ⟨wo.heap.size + 1, 2, none⟩ (.int .i64 0)).heap[wo.heap.size + 1]? = some (.cells #[.string y.f.t, .int .i64 0, .int .i64 0, .string ⟨#[]⟩, .int .i64 0, .int .i64 0, .string ⟨#[]⟩, .slice none 0 0, .int .i64 0, .int .i64 0, .slice none 0 0, .int .i64 0, .slice none 0 0] 51 (0, 0)) := heap_setCell_same ((w4.setCell ⟨wo.heap.size + 1, 0, none⟩ (.string y.f.t)).setCell ⟨wo.heap.size + 1, 1, none⟩ (.int .i64 0)) (wo.heap.size + 1) 2 _ _ (.int .i64 0) x1
          have x3 : ((((w4.setCell ⟨wo.heap.size + 1, 0, none⟩ (.string y.f.t)).setCell ⟨wo.heap.size + 1, 1, none⟩ (.int .i64 0)).setCell ⟨wo.heap.size + 1, 2, none⟩ (.int .i64 0)).setCell ⟨wo.heap.size + 1, 3, none⟩ (.string y.t.t)).heap[wo.heap.size + 1]? = some (.cells #[.string y.f.t, .int .i64 0, .int .i64 0, .string y.t.t, .int .i64 0, .int .i64 0, .string ⟨#[]⟩, .slice none 0 0, .int .i64 0, .int .i64 0, .slice none 0 0, .int .i64 0, .slice none 0 0] 51 (0, 0)) := heap_setCell_same (((w4.setCell ⟨wo.heap.size + 1, 0, none⟩ (.string y.f.t)).setCell ⟨wo.heap.size + 1, 1, none⟩ (.int .i64 0)).setCell ⟨wo.heap.size + 1, 2, none⟩ (.int .i64 0)) (wo.heap.size + 1) 3 _ _ (.string y.t.t) x2
          have x4 : (((((w4.setCell ⟨wo.heap.size + 1, 0, none⟩ (.string y.f.t)).setCell ⟨wo.heap.size + 1, 1, none⟩ (.int .i64 0)).setCell ⟨wo.heap.size + 1, 2, none⟩ (.int .i64 0)).setCell ⟨wo.heap.size + 1, 3, none⟩ (.string y.t.t)).setCell ⟨wo.heap.size + 1, 4, none⟩ (.int .i64 0)).heap[wo.heap.size + 1]? = some (.cells #[.string y.f.t, .int .i64 0, .int .i64 0, .string y.t.t, .int .i64 0, .int .i64 0, .string ⟨#[]⟩, .slice none 0 0, .int .i64 0, .int .i64 0, .slice none 0 0, .int .i64 0, .slice none 0 0] 51 (0, 0)) := heap_setCell_same ((((w4.setCell ⟨wo.heap.size + 1, 0, none⟩ (.string y.f.t)).setCell ⟨wo.heap.size + 1, 1, none⟩ (.int .i64 0)).setCell ⟨wo.heap.size + 1, 2, none⟩ (.int .i64 0)).setCell ⟨wo.heap.size + 1, 3, none⟩ (.string y.t.t)) (wo.heap.size + 1) 4 _ _ (.int .i64 0) x3
          have x5 : ((((((w4.setCell ⟨wo.heap.size + 1, 0, none⟩ (.string y.f.t)).setCell ⟨wo.heap.size + 1, 1, none⟩ (.int .i64 0)).setCell ⟨wo.heap.size + 1, 2, none⟩ (.int .i64 0)).setCell ⟨wo.heap.size + 1, 3, none⟩ (.string y.t.t)).setCell ⟨wo.heap.size + 1, 4, none⟩ (.int .i64 0)).setCell ⟨wo.heap.size + 1, 5, none⟩ (.int .i64 0)).heap[wo.heap.size + 1]? = some (.cells #[.string y.f.t, .int .i64 0, .int .i64 0, .string y.t.t, .int .i64 0, .int .i64 0, .string ⟨#[]⟩, .slice none 0 0, .int .i64 0, .int .i64 0, .slice none 0 0, .int .i64 0, .slice none 0 0] 51 (0, 0)) := heap_setCell_same (((((w4.setCell ⟨wo.heap.size + 1, 0, none⟩ (.string y.f.t)).setCell ⟨wo.heap.size + 1, 1, none⟩ (.int .i64 0)).setCell ⟨wo.heap.size + 1, 2, none⟩ (.int .i64 0)).setCell ⟨wo.heap.size + 1, 3, none⟩ (.string y.t.t)).setCell ⟨wo.heap.size + 1, 4, none⟩ (.int .i64 0)) (wo.heap.size + 1) 5 _ _ (.int .i64 0) x4
          have x6 : (((((((w4.setCell ⟨wo.heap.size + 1, 0, none⟩ (.string y.f.t)).setCell ⟨wo.heap.size + 1, 1, none⟩ (.int .i64 0)).setCell ⟨wo.heap.size + 1, 2, none⟩ (.int .i64 0)).setCell ⟨wo.heap.size + 1, 3, none⟩ (.string y.t.t)).setCell ⟨wo.heap.size + 1, 4, none⟩ (.int .i64 0)).setCell ⟨wo.heap.size + 1, 5, none⟩ (.int .i64 0)).setCell ⟨wo.heap.size + 1, 6, none⟩ (.string y.on.n)).heap[wo.heap.size + 1]? = some (.cells #[.string y.f.t, .int .i64 0, .int .i64 0, .string y.t.t, .int .i64 0, .int .i64 0, .string y.on.n, .slice none 0 0, .int .i64 0, .int .i64 0, .slice none 0 0, .int .i64 0, .slice none 0 0] 51 (0, 0)) := heap_setCell_same ((((((w4.setCell ⟨wo.heap.size + 1, 0, none⟩ (.string y.f.t)).setCell ⟨wo.heap.size + 1, 1, none⟩ (.int .i64 0)).setCell ⟨wo.heap.size + 1, 2, none⟩ (.int .i64 0)).setCell ⟨wo.heap.size + 1, 3, none⟩ (.string y.t.t)).setCell ⟨wo.heap.size + 1, 4, none⟩ (.int .i64 0)).setCell ⟨wo.heap.size + 1, 5, none⟩ (.int .i64 0)) (wo.heap.size + 1) 6 _ _ (.string y.on.n) x5
          have x7 : ((((((((w4.setCell ⟨wo.heap.size + 1, 0, none⟩ (.string y.f.t)).setCell ⟨wo.heap.size + 1, 1, none⟩ (.int .i64 0)).setCell ⟨wo.heap.size + 1, 2, none⟩ (.int .i64 0)).setCell ⟨wo.heap.size + 1, 3, none⟩ (.string y.t.t)).setCell ⟨wo.heap.size + 1, 4, none⟩ (.int .i64 0)).setCell ⟨wo.heap.size + 1, 5, none⟩ (.int .i64 0)).setCell ⟨wo.heap.size + 1, 6, none⟩ (.string y.on.n)).setCell ⟨wo.heap.size + 1, 7, none⟩ (.slice oa' M.length oc')).heap[wo.heap.size + 1]? = some (.cells #[.string y.f.t, .int .i64 0, .int .i64 0, .string y.t.t, .int .i64 0, .int .i64 0, .string y.on.n, .slice oa' M.length oc', .int .i64 0, .int .i64 0, .slice none 0 0, .int .i64 0, .slice none 0 0] 51 (0, 0)) := heap_setCell_same (((((((w4.setCell ⟨wo.heap.size + 1, 0, none⟩ (.string y.f.t)).setCell ⟨wo.heap.size + 1, 1, none⟩ (.int .i64 0)).setCell ⟨wo.heap.size + 1, 2, none⟩ (.int .i64 0)).setCell ⟨wo.heap.size + 1, 3, none⟩ (.string y.t.t)).setCell ⟨wo.heap.size + 1, 4, none⟩ (.int .i64 0)).setCell ⟨wo.heap.size + 1, 5, none⟩ (.int .i64 0)).setCell ⟨wo.heap.size + 1, 6, none⟩ (.string y.on.n)) (wo.heap.size + 1) 7 _ _ (.slice oa' M.length oc') x6
          have x8 : (((((((((w4.setCell ⟨wo.heap.size + 1, 0, none⟩ (.string y.f.t)).setCell ⟨wo.heap.size + 1, 1, none⟩ (.int .i64 0)).setCell ⟨wo.heap.size + 1, 2, none⟩ (.int .i64 0)).setCell ⟨wo.heap.size + 1, 3, none⟩ (.string y.t.t)).setCell ⟨wo.heap.size + 1, 4, none⟩ (.int .i64 0)).setCell ⟨wo.heap.size + 1, 5, none⟩ (.int .i64 0)).setCell ⟨wo.heap.size + 1, 6, none⟩ (.string y.on.n)).setCell ⟨wo.heap.size + 1, 7, none⟩ (.slice oa' M.length oc')).setCell ⟨wo.heap.size + 1, 8, none⟩ (.int .i64 0)).heap[wo.heap.size + 1]? = some (.cells #[.string y.f.t, .int .i64 0, .int .i64 0, .string y.t.t, .int .i64 0, .int .i64 0, .string y.on.n, .slice oa' M.length oc', .int .i64 0, .int .i64 0, .slice none 0 0, .int .i64 0, .slice none 0 0] 51 (0, 0)) := heap_setCell_same ((((((((w4.setCell ⟨wo.heap.size + 1, 0, none⟩ (.string y.f.t)).setCell ⟨wo.heap.size + 1, 1, none⟩ (.int .i64 0)).setCell ⟨wo.heap.size + 1, 2, none⟩ (.int .i64 0)).setCell ⟨wo.heap.size + 1, 3, none⟩ (.string y.t.t)).setCell ⟨wo.heap.size + 1, 4, none⟩ (.int .i64 0)).setCell ⟨wo.heap.size + 1, 5, none⟩ (.int .i64 0)).setCell ⟨wo.heap.size + 1, 6, none⟩ (.string y.on.n)).setCell ⟨wo.heap.size + 1, 7, none⟩ (.slice oa' M.length oc')) (wo.heap.size + 1) 8 _ _ (.int .i64 0) x7
          have x9 : ((((((((((w4.setCell ⟨wo.heap.size + 1, 0, none⟩ (.string y.f.t)).setCell ⟨wo.heap.size + 1, 1, none⟩ (.int .i64 0)).setCell ⟨wo.heap.size + 1, 2, none⟩ (.int .i64 0)).setCell ⟨wo.heap.size + 1, 3, none⟩ (.string y.t.t)).setCell ⟨wo.heap.size + 1, 4, none⟩ (.int .i64 0)).setCell ⟨wo.heap.size + 1, 5, none⟩ (.int .i64 0)).setCell ⟨wo.heap.size + 1, 6, none⟩ (.string y.on.n)).setCell ⟨wo.heap.size + 1, 7, none⟩ (.slice oa' M.length oc')).setCell ⟨wo.heap.size + 1, 8, none⟩ (.int .i64 0)).setCell ⟨wo.heap.size + 1, 9, none⟩ (.int .i64 0)).heap[wo.heap.size + 1]? = some (.cells #[.string y.f.t, .int .i64 0, .int .i64 0, .string y.t.t, .int .i64 0, .int .i64 0, .string y.on.n, .slice oa' M.length oc', .int .i64 0, .int .i64 0, .slice none 0 0, .int .i64 0, .slice none 0 0] 51 (0, 0)) := heap_setCell_same (((((((((w4.setCell ⟨wo.heap.size + 1, 0, none⟩ (.string y.f.t)).setCell ⟨wo.heap.size + 1, 1, none⟩ (.int .i64 0)).setCell ⟨wo.heap.size + 1, 2, none⟩ (.int .i64 0)).setCell ⟨wo.heap.size + 1, 3, none⟩ (.string y.t.t)).setCell ⟨wo.heap.size + 1, 4, none⟩ (.int .i64 0)).setCell ⟨wo.heap.size + 1, 5, none⟩ (.int .i64 0)).setCell ⟨wo.heap.size + 1, 6, none⟩ (.string y.on.n)).setCell ⟨wo.heap.size + 1, 7, none⟩ (.slice oa' M.length oc')).setCell ⟨wo.heap.size + 1, 8, none⟩ (.int .i64 0)) (wo.heap.size + 1) 9 _ _ (.int .i64 0) x8
          have x10 : (((((((((((w4.setCell ⟨wo.heap.size + 1, 0, none⟩ (.string y.f.t)).setCell ⟨wo.heap.size + 1, 1, none⟩ (.int .i64 0)).setCell ⟨wo.heap.size + 1, 2, none⟩ (.int .i64 0)).setCell ⟨wo.heap.size + 1, 3, none⟩ (.string y.t.t)).setCell ⟨wo.heap.size + 1, 4, none⟩ (.int .i64 0)).setCell ⟨wo.heap.size + 1, 5, none⟩ (.int .i64 0)).setCell ⟨wo.heap.size + 1, 6, none⟩ (.string y.on.n)).setCell ⟨wo.heap.size + 1, 7, none⟩ (.slice oa' M.length oc')).setCell ⟨wo.heap.size + 1, 8, none⟩ (.int .i64 0)).setCell ⟨wo.heap.size + 1, 9, none⟩ (.int .i64 0)).setCell ⟨wo.heap.size + 1, 10, none⟩ (.slice none 0 0)).heap[wo.heap.size + 1]? = some (.cells #[.string y.f.t, .int .i64 0, .int .i64 0, .string y.t.t, .int .i64 0, .int .i64 0, .string y.on.n, .slice oa' M.length oc', .int .i64 0, .int .i64 0, .slice none 0 0, .int .i64 0, .slice none 0 0] 51 (0, 0)) := heap_setCell_same ((((((((((w4.setCell ⟨wo.heap.size + 1, 0, none⟩ (.string y.f.t)).setCell ⟨wo.heap.size + 1, 1, none⟩ (.int .i64 0)).setCell ⟨wo.heap.size + 1, 2, none⟩ (.int .i64 0)).setCell ⟨wo.heap.size + 1, 3, none⟩ (.string y.t.t)).setCell ⟨wo.heap.size + 1, 4, none⟩ (.int .i64 0)).setCell ⟨wo.heap.size + 1, 5, none⟩ (.int .i64 0)).setCell ⟨wo.heap.size + 1, 6, none⟩ (.string y.on.n)).setCell ⟨wo.heap.size + 1, 7, none⟩ (.slice oa' M.length oc')).setCell ⟨wo.heap.size + 1, 8, none⟩ (.int .i64 0)).setCell ⟨wo.heap.size + 1, 9, none⟩ (.int .i64 0)) (wo.heap.size + 1) 10 _ _ (.slice none 0 0) x9
          have x11 : ((((((((((((w4.setCell ⟨wo.heap.size + 1, 0, none⟩ (.string y.f.t)).setCell ⟨wo.heap.size + 1, 1, none⟩ (.int .i64 0)).setCell ⟨wo.heap.size + 1, 2, none⟩ (.int .i64 0)).setCell ⟨wo.heap.size + 1, 3, none⟩ (.string y.t.t)).setCell ⟨wo.heap.size + 1, 4, none⟩ (.int .i64 0)).setCell ⟨wo.heap.size + 1, 5, none⟩ (.int .i64 0)).setCell ⟨wo.heap.size + 1, 6, none⟩ (.string y.on.n)).setCell ⟨wo.heap.size + 1, 7, none⟩ (.slice oa' M.length oc')).setCell ⟨wo.heap.size + 1, 8, none⟩ (.int .i64 0)).setCell ⟨wo.heap.size + 1, 9, none⟩ (.int .i64 0)).setCell ⟨wo.heap.size + 1, 10, none⟩ (.slice none 0 0)).setCell ⟨wo.heap.size + 1, 11, none⟩ (.int .i64 y.g)).heap[wo.heap.size + 1]? = some (.cells #[.string y.f.t, .int .i64 0, .int .i64 0, .string y.t.t, .int .i64 0, .int .i64 0, .string y.on.n, .slice oa' M.length oc', .int .i64 0, .int .i64 0, .slice none 0 0, .int .i64 y.g, .slice none 0 0] 51 (0, 0)) := heap_setCell_same (((((((((((w4.setCell ⟨wo.heap.size + 1, 0, none⟩ (.string y.f.t)).setCell ⟨wo.heap.size + 1, 1, none⟩ (.int .i64 0)).setCell ⟨wo.heap.size + 1, 2, none⟩ (.int .i64 0)).setCell ⟨wo.heap.size + 1, 3, none⟩ (.string y.t.t)).setCell ⟨wo.heap.size + 1, 4, none⟩ (.int .i64 0)).setCell ⟨wo.heap.size + 1, 5, none⟩ (.int .i64 0)).setCell ⟨wo.heap.size + 1, 6, none⟩ (.string y.on.n)).setCell ⟨wo.heap.size + 1, 7, none⟩ (.slice oa' M.length oc')).setCell ⟨wo.heap.size + 1, 8, none⟩ (.int .i64 0)).setCell ⟨wo.heap.size + 1, 9, none⟩ (.int .i64 0)).setCell ⟨wo.heap.size + 1, 10, none⟩ (.slice none 0 0)) (wo.heap.size + 1) 11 _ _ (.int .i64 y.g) x10
          have x12 : (((((((((((((w4.setCell ⟨wo.heap.size + 1, 0, none⟩ (.string y.f.t)).setCell ⟨wo.heap.size + 1, 1, none⟩ (.int .i64 0)).setCell ⟨wo.heap.size + 1, 2, none⟩ (.int .i64 0)).setCell ⟨wo.heap.size + 1, 3, none⟩ (.string y.t.t)).setCell ⟨wo.heap.size + 1, 4, none⟩ (.int .i64 0)).setCell ⟨wo.heap.size + 1, 5, none⟩ (.int .i64 0)).setCell ⟨wo.heap.size + 1, 6, none⟩ (.string y.on.n)).setCell ⟨wo.heap.size + 1, 7, none⟩ (.slice oa' M.length oc')).setCell ⟨wo.heap.size + 1, 8, none⟩ (.int .i64 0)).setCell ⟨wo.heap.size + 1, 9, none⟩ (.int .i64 0)).setCell ⟨wo.heap.size + 1, 10, none⟩ (.slice none 0 0)).setCell ⟨wo.heap.size + 1, 11, none⟩ (.int .i64 y.g)).setCell ⟨wo.heap.size + 1, 12, none⟩ (.slice none 0 0)).heap[wo.heap.size + 1]? = some (.cells #[.string y.f.t, .int .i64 0, .int .i64 0, .string y.t.t, .int .i64 0, .int .i64 0, .string y.on.n, .slice oa' M.length oc', .int .i64 0, .int .i64 0, .slice none 0 0, .int .i64 y.g, .slice none 0 0] 51 (0, 0)) := heap_setCell_same ((((((((((((w4.setCell ⟨wo.heap.size + 1, 0, none⟩ (.string y.f.t)).setCell ⟨wo.heap.size + 1, 1, none⟩ (.int .i64 0)).setCell ⟨wo.heap.size + 1, 2, none⟩ (.int .i64 0)).setCell ⟨wo.heap.size + 1, 3, none⟩ (.string y.t.t)).setCell ⟨wo.heap.size + 1, 4, none⟩ (.int .i64 0)).setCell ⟨wo.heap.size + 1, 5, none⟩ (.int .i64 0)).setCell ⟨wo.heap.size + 1, 6, none⟩ (.string y.on.n)).setCell ⟨wo.heap.size + 1, 7, none⟩ (.slice oa' M.length oc')).setCell ⟨wo.heap.size + 1, 8, none⟩ (.int .i64 0)).setCell ⟨wo.heap.size + 1, 9, none⟩ (.int .i64 0)).setCell ⟨wo.heap.size + 1, 10, none⟩ (.slice none 0 0)).setCell ⟨wo.heap.size + 1, 11, none⟩ (.int .i64 y.g)) (wo.heap.size + 1) 12 _ _ (.slice none 0 0) x11
          case rel => exact ⟨wo.heap.size + 1, oa', M, oc', rfl, HM, Lib.hid (tss_new ((((((((((((((HB4.out).setCell hqq (.string y.f.t)).setCell hqq (.int .i64 0)).setCell hqq (.int .i64 0)).setCell hqq (.string y.t.t)).setCell hqq (.int .i64 0)).setCell hqq (.int .i64 0)).setCell hqq (.string y.on.n)).setCell hqq (.slice oa' M.length oc')).setCell hqq (.int .i64 0)).setCell hqq (.int .i64 0)).setCell hqq (.slice none 0 0)).setCell hqq (.int .i64 y.g)).setCell hqq (.slice none 0 0)) hpp (by (repeat rw [heap_setCell_other _ _ _ _ (show wo.heap.size ≠ wo.heap.size + 1 by omega)]); exact HC4.out) x12 (gin_apart HG4.out HAC.out (by decide) 0 [.string y.f.t, .int .i64 0, .int .i64 0, .string y.t.t, .int .i64 0, .int .i64 0, .string y.on.n, .slice oa' M.length oc', .int .i64 0, .int .i64 0, .slice none 0 0, .int .i64 y.g, .slice none 0 0]))⟩
      case rest =>
        obtain ⟨p, oa', M, oc', rfl, HM, HT0⟩ := hcut
        clear HBa HB0 HC0 HSC HBr
        go_wp2_with fail
        go_loopw [14] (fun i wi => ∃ (j : Nat) (vn : Value), j ≤ y.ns.length ∧ i = .int .i64 j ∧ Hid (TsS #[.string y.f.t, .int .i64 y.f.l, .int .i64 y.f.c, .string y.t.t, .int .i64 y.t.l, .int .i64 y.t.c, .string y.on.n, .slice oa1 y.on.ar.length oc1, .int .i64 y.on.l, .int .i64 y.on.c, .slice na1 y.ns.length nc1, .int .i64 y.g, .slice sa1 y.ss.length sc1] wo y wo.heap.size p oa' M oc' vn (.slice none 0 0) ((y.ns.take j).map plE) [] wi)) (fun i _ => y.ns.length - (intOf i).toNat)
        case atStart => exact ⟨0, _, Nat.zero_le _, rfl, Lib.hid HT0.out⟩
        case round =>
          clear HT0
          obtain ⟨j, vn, hj, rfl, HT⟩ := hrel
          have zc : wr.cell? ⟨wo.heap.size, 10, none⟩ = some (.slice na1 y.ns.length nc1) := by rw [cell_of_row _ _ 10 _ _ _ HT.out.cpo]; rfl
          by_cases hjl : j < y.ns.length
          case neg =>
            have HTn : Hid (TsS #[.string y.f.t, .int .i64 y.f.l, .int .i64 y.f.c, .string y.t.t, .int .i64 y.t.l, .int .i64 y.t.c, .string y.on.n, .slice oa1 y.on.ar.length oc1, .int .i64 y.on.l, .int .i64 y.on.c, .slice na1 y.ns.length nc1, .int .i64 y.g, .slice sa1 y.ss.length sc1] wo y wo.heap.size p oa' M oc' vn (.slice none 0 0) (y.ns.map plE) [] wr) := Lib.hid (by have := HT.out; rwa [List.take_of_length_le (by omega)] at this)
            go_wp2_with fail
            clear zc HT hjl hj
            go_loopw [16] (fun i wi => ∃ (j : Nat) (vn vs : Value), j ≤ y.ss.length ∧ i = .int .i64 j ∧ Hid (TsS #[.string y.f.t, .int .i64 y.f.l, .int .i64 y.f.c, .string y.t.t, .int .i64 y.t.l, .int .i64 y.t.c, .string y.on.n, .slice oa1 y.on.ar.length oc1, .int .i64 y.on.l, .int .i64 y.on.c, .slice na1 y.ns.length nc1, .int .i64 y.g, .slice sa1 y.ss.length sc1] wo y wo.heap.size p oa' M oc' vn vs (y.ns.map plE) ((y.ss.take j).map plSe) wi)) (fun i _ => y.ss.length - (intOf i).toNat)
            case atStart => exact ⟨0, _, _, Nat.zero_le _, rfl, Lib.hid HTn.out⟩
            case round =>
              clear HTn
              obtain ⟨j, vn, vs, hj, rfl, HT⟩ := hrel
              have zc : wr.cell? ⟨wo.heap.size, 12, none⟩ = some (.slice sa1 y.ss.length sc1) := by rw [cell_of_row _ _ 12 _ _ _ HT.out.cpo]; rfl
              by_cases hjl : j < y.ss.length
              case neg =>
                have HTn : Hid (TsS #[.string y.f.t, .int .i64 y.f.l, .int .i64 y.f.c, .string y.t.t, .int .i64 y.t.l, .int .i64 y.t.c, .string y.on.n, .slice oa1 y.on.ar.length oc1, .int .i64 y.on.l, .int .i64 y.on.c, .slice na1 y.ns.length nc1, .int .i64 y.g, .slice sa1 y.ss.length sc1] wo y wo.heap.size p oa' M oc' vn vs (y.ns.map plE) (y.ss.map plSe) wr) := Lib.hid (by have := HT.out; rwa [List.take_of_length_le (by omega)] at this)
                clear HT
                obtain ⟨na', nc', rfl⟩ := HTn.out.rn.slice
                obtain ⟨sa', sc', rfl⟩ := HTn.out.rs.slice
                obtain ⟨N, hN⟩ : ∃ N, N = y.ns.map plE := ⟨_, rfl⟩
                obtain ⟨Z, hZ⟩ : ∃ Z, Z = y.ss.map plSe := ⟨_, rfl⟩
                rw [← hN, ← hZ] at HTn
                have HMN := Lib.hid hN
                have HMZ := Lib.hid hZ
                clear hN hZ
                have HRT : Hid (rTs tyT True wr [.string y.f.t, .int .i64 0, .int .i64 0, .string y.t.t, .int .i64 0, .int .i64 0, .string y.on.n, .slice oa' M.length oc', .int .i64 0, .int .i64 0, .slice na' N.length nc', .int .i64 y.g, .slice sa' Z.length sc'] (plTs y)) := Lib.hid (rTs_mk HM.out HMN.out HMZ.out HTn.out.on HTn.out.rn.gin.2 HTn.out.rs.gin.2 HYOK.out)
                have HQ0 := Lib.hid (HP.out.below' HTn.out.below)
                have HC0 : Hid (wr.heap[p]? = some (.cells #[.string y.f.t, .int .i64 0, .int .i64 0, .string y.t.t, .int .i64 0, .int .i64 0, .string y.on.n, .slice oa' M.length oc', .int .i64 0, .int .i64 0, .slice na' N.length nc', .int .i64 y.g, .slice sa' Z.length sc'] 51 (0, 0))) := Lib.hid HTn.out.po
                have p0 : wr.cell? ⟨p, 0, none⟩ = some (.string y.f.t) := by rw [cell_of_row _ _ 0 _ _ _ HC0.out]; rfl
                have p1 : wr.cell? ⟨p, 1, none⟩ = some (.int .i64 0) := by rw [cell_of_row _ _ 1 _ _ _ HC0.out]; rfl
                have p2 : wr.cell? ⟨p, 2, none⟩ = some (.int .i64 0) := by rw [cell_of_row _ _ 2 _ _ _ HC0.out]; rfl
                have p3 : wr.cell? ⟨p, 3, none⟩ = some (.string y.t.t) := by rw [cell_of_row _ _ 3 _ _ _ HC0.out]; rfl
                have p4 : wr.cell? ⟨p, 4, none⟩ = some (.int .i64 0) := by rw [cell_of_row _ _ 4 _ _ _ HC0.out]; rfl
                have p5 : wr.cell? ⟨p, 5, none⟩ = some (.int .i64 0) := by rw [cell_of_row _ _ 5 _ _ _ HC0.out]; rfl
                have p6 : wr.cell? ⟨p, 6, none⟩ = some (.string y.on.n) := by rw [cell_of_row _ _ 6 _ _ _ HC0.out]; rfl
                have p7 : wr.cell? ⟨p, 7, none⟩ = some (.slice oa' M.length oc') := by rw [cell_of_row _ _ 7 _ _ _ HC0.out]; rfl
                have p8 : wr.cell? ⟨p, 8, none⟩ = some (.int .i64 0) := by rw [cell_of_row _ _ 8 _ _ _ HC0.out]; rfl
                have p9 : wr.cell? ⟨p, 9, none⟩ = some (.int .i64 0) := by rw [cell_of_row _ _ 9 _ _ _ HC0.out]; rfl
                have p10 : wr.cell? ⟨p, 10, none⟩ = some (.slice na' N.length nc') := by rw [cell_of_row _ _ 10 _ _ _ HC0.out]; rfl
                have p11 : wr.cell? ⟨p, 11, none⟩ = some (.int .i64 y.g) := by rw [cell_of_row _ _ 11 _ _ _ HC0.out]; rfl
                have p12 : wr.cell? ⟨p, 12, none⟩ = some (.slice sa' Z.length sc') := by rw [cell_of_row _ _ 12 _ _ _ HC0.out]; rfl
                have p13 : wr.cell? ⟨q, 11, none⟩ = some (.slice va m vc) := by rw [cell_of_row _ _ 11 _ _ _ HQ0.out.out]; rfl
                have HQ2 := Lib.hid (HQ0.out.below' ((Below.refl wr.heap.size wr).alloc (Nat.le_refl _) (.cells #[.string y.f.t, .int .i64 0, .int .i64 0, .string y.t.t, .int .i64 0, .int .i64 0, .string y.on.n, .slice oa' M.length oc', .int .i64 0, .int .i64 0, .slice na' N.length nc', .int .i64 y.g, .slice sa' Z.length sc'] 51)))
                obtain ⟨css, ho, hgs⟩ := HQ2.out.r5
                rw [← HMM.out] at ho
                have HOW := Lib.hid ho
                have HGS := Lib.hid hgs
                clear ho hgs
                have nw := new_cells wr [.string y.f.t, .int .i64 0, .int .i64 0, .string y.t.t, .int .i64 0, .int .i64 0, .string y.on.n, .slice oa' M.length oc', .int .i64 0, .int .i64 0, .slice na' N.length nc', .int .i64 y.g, .slice sa' Z.length sc'] 51
                have hsz2 := HQ2.out.below.size
                go_wp2_with (
                  at_builtin
                  refine wpList_append_own _ rfl _ _ 29 rfl w.heap.size 51 i0Ts _ 13 176 Tryz.underlying29 HITs.out HZ0Ts.out HZ1Ts.out HZ2Ts.out rfl (by decide) _ _ _ rfl HOW.out ⟨wr.heap.size, 0, none⟩ 1 1 [.string y.f.t, .int .i64 0, .int .i64 0, .string y.t.t, .int .i64 0, .int .i64 0, .string y.on.n, .slice oa' M.length oc', .int .i64 0, .int .i64 0, .slice na' N.length nc', .int .i64 y.g, .slice sa' Z.length sc'] rfl rfl nw (by intro u hu; simp only [List.mem_cons, List.not_mem_nil, or_false] at hu; rcases hu with rfl | rfl | rfl | rfl | rfl | rfl | rfl | rfl | rfl | rfl | rfl | rfl | rfl <;> rfl) (by unfold maxLen; omega) (by omega) hsz2 ?_
                  intro v4 w4 ho4 hg4 _
                  have HK4 : Hid (KU 51 (wr.alloc (.cells #[.string y.f.t, .int .i64 0, .int .i64 0, .string y.t.t, .int .i64 0, .int .i64 0, .string y.on.n, .slice oa' M.length oc', .int .i64 0, .int .i64 0, .slice na' N.length nc', .int .i64 y.g, .slice sa' Z.length sc'] 51)) w4) := Lib.hid (KU.grown HOW.out hg4)
                  have HB4 : Hid (Below w.heap.size w w4) := Lib.hid (HQ2.out.below.grown hg4 hsz2 (fun k hk => (HOW.out.lt k hk).1))
                  obtain ⟨va4, vc4, rfl⟩ := cs_own ho4
                  have HO4 := Lib.hid (HK4.out.obj HQ2.out.out (by decide))
                  have HR4 : Hid (Row (rTs tyT True) 51 13 w.heap.size w4 (.slice va4 (m + 1) vc4) ((x.ts.take (n + 1)).map plTs)) := Lib.hid (by
                    rw [map_snoc HYY.out]
                    refine Row.snoc (cs := [.string y.f.t, .int .i64 0, .int .i64 0, .string y.t.t, .int .i64 0, .int .i64 0, .string y.on.n, .slice oa' M.length oc', .int .i64 0, .int .i64 0, .slice na' N.length nc', .int .i64 y.g, .slice sa' Z.length sc']) (x := plTs y) ?_ (HGS.out.kept (fun _ _ _ h => rTs_ku h HK4.out (by decide) (by decide) (by decide))) rfl (rTs_ku (rTs_below HRT.out ((Below.refl wr.heap.size wr).alloc (Nat.le_refl _) _)) HK4.out (by decide) (by decide) (by decide))
                    rw [← HMM.out]
                    exact ho4)
                  have c1 : w4.cell? ⟨q, 11, none⟩ = some (.slice va m vc) := by rw [cell_of_row _ _ 11 _ _ _ HO4.out]; rfl
                  have f1 : w4.frozen? ⟨q, 11, none⟩ = false := frozen_of_row _ _ 11 _ _ HO4.out
                  clear ho4 hg4
                )
                have HP5 := Lib.hid (HQ2.out.put5 HK4.out HB4.out HR4.out)
                go_wp2_with fail
                go_roundw
                case rel => exact ⟨n + 1, _, _, _, _, _, _, by omega, by go_num, HP5⟩
                case measure => simp [intOf] <;> omega
              case pos =>
                obtain ⟨z, hz⟩ := at_some (L := y.ss) rfl hjl
                have HZZ := Lib.hid hz
                obtain ⟨g3, off3, rfl, hg3, hc3, hzo⟩ := HGS_.out.flat hz
                have HZO := Lib.hid hzo
                have c0_ : w.cell? ⟨g3, off3 + j * 4, none⟩ = some (.string z.n.t) := hc3 0 _ rfl
                have c1_ : w.cell? ⟨g3, off3 + j * 4 + 1, none⟩ = some (.int .i64 z.n.l) := hc3 1 _ rfl
                have c2_ : w.cell? ⟨g3, off3 + j * 4 + 2, none⟩ = some (.int .i64 z.n.c) := hc3 2 _ rfl
                have c3_ : w.cell? ⟨g3, off3 + j * 4 + 3, none⟩ = some (.int .i64 z.e) := hc3 3 _ rfl
                obtain ⟨va2, vc2, rfl⟩ := HT.out.rs.slice
                obtain ⟨m2, hm2⟩ : ∃ m, m = ((y.ss.take j).map plSe).length := ⟨_, rfl⟩
                have hmn2 := take_le HSMT.out.2.2 hm2
                have HML2 := Lib.hid (row_len hz hm2)
                rw [← hm2] at HT
                have HMM2 := Lib.hid hm2
                have HOL2 := Lib.hid True.intro
                have HQ0 := Lib.hid (HT.out.below' ((Below.refl wr.heap.size wr).drew))
                have HSW2 : Hid (∀ W : World, W.heap[p]? = some (.cells (XC y oa' M oc' vn (.slice va2 m2 vc2)) 51 (0, 0)) → W.heap[wo.heap.size]? = some (.cells #[.string y.f.t, .int .i64 y.f.l, .int .i64 y.f.c, .string y.t.t, .int .i64 y.t.l, .int .i64 y.t.c, .string y.on.n, .slice oa1 y.on.ar.length oc1, .int .i64 y.on.l, .int .i64 y.on.c, .slice na1 y.ns.length nc1, .int .i64 y.g, .slice (some ⟨g3, off3, none⟩) y.ss.length sc1] 51 (0, 0)) → Below w.heap.size w W → (W.cell? ⟨p, 12, none⟩ = some (.slice va2 m2 vc2) ∧ W.cell? ⟨wo.heap.size, 12, none⟩ = some (.slice (some ⟨g3, off3, none⟩) y.ss.length sc1) ∧ W.cell? ⟨g3, off3 + j * 4, none⟩ = some (.string z.n.t) ∧ W.cell? ⟨g3, off3 + j * 4 + 1, none⟩ = some (.int .i64 z.n.l) ∧ W.cell? ⟨g3, off3 + j * 4 + 2, none⟩ = some (.int .i64 z.n.c) ∧ W.cell? ⟨g3, off3 + j * 4 + 3, none⟩ = some (.int .i64 z.e))) := Lib.hid (fun W h1 h2 hb => ⟨by rw [cell_of_row _ _ 12 _ _ _ h1]; rfl, by rw [cell_of_row _ _ 12 _ _ _ h2]; rfl, (hb.cell (p := ⟨g3, off3 + j * 4, none⟩) hg3).trans c0_, (hb.cell (p := ⟨g3, off3 + j * 4 + 1, none⟩) hg3).trans c1_, (hb.cell (p := ⟨g3, off3 + j * 4 + 2, none⟩) hg3).trans c2_, (hb.cell (p := ⟨g3, off3 + j * 4 + 3, none⟩) hg3).trans c3_⟩)
                clear hc3 hz hzo hm2 c0_ c1_ c2_ c3_
                go_wp2_with fail
                clear zc
                refine wp_region_B (S := (fun W => W.cell? ⟨p, 12, none⟩ = some (.slice va2 m2 vc2) ∧ W.cell? ⟨wo.heap.size, 12, none⟩ = some (.slice (some ⟨g3, off3, none⟩) y.ss.length sc1) ∧ W.cell? ⟨g3, off3 + j * 4, none⟩ = some (.string z.n.t) ∧ W.cell? ⟨g3, off3 + j * 4 + 1, none⟩ = some (.int .i64 z.n.l) ∧ W.cell? ⟨g3, off3 + j * 4 + 2, none⟩ = some (.int .i64 z.n.c) ∧ W.cell? ⟨g3, off3 + j * 4 + 3, none⟩ = some (.int .i64 z.e))) [19] (by kernel_rfl) (HSW2.out _ HQ0.out.po HQ0.out.cpo (HP.out.below.trans (HQ0.out.below.mono hwo))) (fun hH0 => ?_)
                refine wpB_take (i := 0) (v := .pointer (some ⟨p, 12, none⟩)) [19] rfl (by kernel_rfl) (by kernel_rfl) (by kernel_rfl) (by kernel_rfl) (fun _ _ _ h => h) (Or.inl ⟨by kernel_rfl, fun wS hSw => by (try dsimp only at hSw); go_simp⟩) hH0 ?_
                refine wpB_take (i := 1) (v := .slice va2 m2 vc2) [19] rfl (by kernel_rfl) (by kernel_rfl) (by kernel_rfl) (by kernel_rfl) (fun _ _ _ h => h) (Or.inl ⟨by kernel_rfl, fun wS hSw => by (try dsimp only at hSw); go_simp⟩) hH0 ?_
                refine wpB_take (i := 2) (v := .pointer (some ⟨wo.heap.size, 12, none⟩)) [19] rfl (by kernel_rfl) (by kernel_rfl) (by kernel_rfl) (by kernel_rfl) (fun _ _ _ h => h) (Or.inl ⟨by kernel_rfl, fun wS hSw => by (try dsimp only at hSw); go_simp⟩) hH0 ?_
                refine wpB_take (i := 3) (v := .slice (some ⟨g3, off3, none⟩) y.ss.length sc1) [19] rfl (by kernel_rfl) (by kernel_rfl) (by kernel_rfl) (by kernel_rfl) (fun _ _ _ h => h) (Or.inl ⟨by kernel_rfl, fun wS hSw => by (try dsimp only at hSw); go_simp⟩) hH0 ?_
                refine wpB_take (i := 4) (v := .int .i64 (j : Nat)) [19] rfl (by kernel_rfl) (by kernel_rfl) (by kernel_rfl) (by kernel_rfl) (fun _ _ _ h => h) (Or.inl ⟨by kernel_rfl, fun wS hSw => by (try dsimp only at hSw); go_simp⟩) hH0 ?_
                refine wpB_take (i := 5) (v := .pointer (some ⟨g3, off3 + j * 4, none⟩)) [19] rfl (by kernel_rfl) (by kernel_rfl) (by kernel_rfl) (by kernel_rfl) (fun _ _ _ h => h) (Or.inl ⟨by kernel_rfl, fun wS hSw => by (try dsimp only at hSw); go_simp⟩) hH0 ?_
                refine wpB_take (i := 6) (v := .pointer (some ⟨g3, off3 + j * 4, none⟩)) [19] rfl (by kernel_rfl) (by kernel_rfl) (by kernel_rfl) (by kernel_rfl) (fun _ _ _ h => h) (Or.inl ⟨by kernel_rfl, fun wS hSw => by (try dsimp only at hSw); go_simp⟩) hH0 ?_
                refine wpB_take (i := 7) (v := .agg #[.string z.n.t, .int .i64 z.n.l, .int .i64 z.n.c]) [19] rfl (by kernel_rfl) (by kernel_rfl) (by kernel_rfl) (by kernel_rfl) (fun _ _ _ h => h) (Or.inl ⟨by kernel_rfl, fun wS hSw => by (try dsimp only at hSw); go_simp⟩) hH0 ?_
                refine wpB_take (i := 9) (v := .pointer (some ⟨wo.heap.size, 12, none⟩)) [19] rfl (by kernel_rfl) (by kernel_rfl) (by kernel_rfl) (by kernel_rfl) (fun _ _ _ h => h) (Or.inl ⟨by kernel_rfl, fun wS hSw => by (try dsimp only at hSw); go_simp⟩) hH0 ?_
                refine wpB_take (i := 10) (v := .slice (some ⟨g3, off3, none⟩) y.ss.length sc1) [19] rfl (by kernel_rfl) (by kernel_rfl) (by kernel_rfl) (by kernel_rfl) (fun _ _ _ h => h) (Or.inl ⟨by kernel_rfl, fun wS hSw => by (try dsimp only at hSw); go_simp⟩) hH0 ?_
                refine wpB_take (i := 11) (v := .int .i64 (j : Nat)) [19] rfl (by kernel_rfl) (by kernel_rfl) (by kernel_rfl) (by kernel_rfl) (fun _ _ _ h => h) (Or.inl ⟨by kernel_rfl, fun wS hSw => by (try dsimp only at hSw); go_simp⟩) hH0 ?_
                refine wpB_take (i := 12) (v := .pointer (some ⟨g3, off3 + j * 4, none⟩)) [19] rfl (by kernel_rfl) (by kernel_rfl) (by kernel_rfl) (by kernel_rfl) (fun _ _ _ h => h) (Or.inl ⟨by kernel_rfl, fun wS hSw => by (try dsimp only at hSw); go_simp⟩) hH0 ?_
                refine wpB_take (i := 13) (v := .pointer (some ⟨g3, off3 + j * 4 + 3, none⟩)) [19] rfl (by kernel_rfl) (by kernel_rfl) (by kernel_rfl) (by kernel_rfl) (fun _ _ _ h => h) (Or.inl ⟨by kernel_rfl, fun wS hSw => by (try dsimp only at hSw); go_simp⟩) hH0 ?_
                refine wpB_take (i := 14) (v := .int .i64 z.e) [19] rfl (by kernel_rfl) (by kernel_rfl) (by kernel_rfl) (by kernel_rfl) (fun _ _ _ h => h) (Or.inl ⟨by kernel_rfl, fun wS hSw => by (try dsimp only at hSw); go_simp⟩) hH0 ?_
                refine wpB_step (i := 8) rfl (by kernel_rfl) (fun K hK => ?_)
                rw [if_pos (by kernel_rfl)]
                go_simp
                refine (HN.out z.n _).mono ?_
                rintro e w1 ⟨rfl, k⟩
                have HQ1 := Lib.hid (HQ0.out.below' k)
                clear k
                refine hK.out _ _ (HSW2.out _ HQ1.out.po HQ1.out.cpo (HP.out.below.trans (HQ1.out.below.mono hwo))) (fun hH1 => ?_)
                clear hK K
                refine wpB_take (i := 15) (v := .agg #[.string z.n.t, .int .i64 0, .int .i64 0, .int .i64 z.e]) [19] rfl (by kernel_rfl) (by kernel_rfl) (by kernel_rfl) (by kernel_rfl) (fun _ _ _ h => h) (Or.inl ⟨by kernel_rfl, fun wS hSw => by (try dsimp only at hSw); go_simp⟩) hH1 ?_
                have HQ2 := Lib.hid (HQ1.out.below' ((Below.refl w1.heap.size w1).alloc (Nat.le_refl _) (.cells #[.string z.n.t, .int .i64 0, .int .i64 0, .int .i64 z.e] 92)))
                refine wpB_step (i := 16) rfl (by kernel_rfl) (fun K hK => ?_)
                rw [if_pos (by kernel_rfl)]
                go_simp
                refine hK.out _ _ (HSW2.out _ HQ2.out.po HQ2.out.cpo (HP.out.below.trans (HQ2.out.below.mono hwo))) (fun hH2 => ?_)
                clear hK K
                obtain ⟨css, ho, hgs⟩ := HQ2.out.rs
                rw [← HMM2.out] at ho
                have HOW := Lib.hid ho
                have HGS := Lib.hid hgs
                clear ho hgs
                have nw := new_cells w1 [.string z.n.t, .int .i64 0, .int .i64 0, .int .i64 z.e] 92
                have hsz2 := HQ2.out.below.size
                refine wpB_step (i := 17) rfl (by kernel_rfl) (fun K hK => ?_)
                rw [if_pos (by kernel_rfl)]
                refine wp_append_own (w1.alloc (.cells #[.string z.n.t, .int .i64 0, .int .i64 0, .int .i64 z.e] 92)) _ _ 49 rfl wo.heap.size 92 i0Se _ 4 40 Tryz.underlying49 HISe.out HZ0Se.out HZ1Se.out HZ2Se.out rfl (by decide) (.slice va2 m2 vc2) _ _ rfl HOW.out ⟨w1.heap.size, 0, none⟩ 1 1 [.string z.n.t, .int .i64 0, .int .i64 0, .int .i64 z.e] rfl rfl nw (by intro u hu; simp only [List.mem_cons, List.not_mem_nil, or_false] at hu; rcases hu with rfl | rfl | rfl | rfl <;> rfl) (by unfold maxLen; omega) (by omega) hsz2 ?_
                intro v4 w4 ho4 hg4 _
                have HK4 : Hid (KU 92 (w1.alloc (.cells #[.string z.n.t, .int .i64 0, .int .i64 0, .int .i64 z.e] 92)) w4) := Lib.hid (KU.grown HOW.out hg4)
                have HB4 : Hid (Below wo.heap.size wo w4) := Lib.hid (HQ2.out.below.grown hg4 hsz2 (fun k hk => (HOW.out.lt k hk).1))
                obtain ⟨va4, vc4, rfl⟩ := cs_own ho4
                have HPO4 := Lib.hid (HK4.out.obj HQ2.out.po (by decide))
                have HCP4 := Lib.hid (HK4.out.obj HQ2.out.cpo (by decide))
                have HR4 : Hid (Row rSe 92 4 wo.heap.size w4 (.slice va4 (m2 + 1) vc4) ((y.ss.take (j + 1)).map plSe)) := Lib.hid (by
                  rw [map_snoc HZZ.out]
                  refine Row.snoc (cs := [.string z.n.t, .int .i64 0, .int .i64 0, .int .i64 z.e]) (x := plSe z) ?_ (HGS.out.kept (fun _ _ _ h => RF.any h)) rfl (⟨rfl, HZO.out⟩)
                  rw [← HMM2.out]
                  exact ho4)
                clear ho4 hg4 nw
                refine hK.out _ _ (HSW2.out _ HPO4.out HCP4.out (HP.out.below.trans (HB4.out.mono hwo))) (fun hH3 => ?_)
                clear hK K
                refine wpB_take (i := 18) (v := .pointer (some ⟨p, 12, none⟩)) [19] rfl (by kernel_rfl) (by kernel_rfl) (by kernel_rfl) (by kernel_rfl) (fun _ _ _ h => h) (Or.inl ⟨by kernel_rfl, fun wS hSw => by (try dsimp only at hSw); go_simp⟩) hH3 ?_
                have c1 : w4.cell? ⟨p, 12, none⟩ = some (.slice va2 m2 vc2) := by rw [cell_of_row _ _ 12 _ _ _ HPO4.out]; rfl
                have f1 : w4.frozen? ⟨p, 12, none⟩ = false := frozen_of_row _ _ 12 _ _ HPO4.out
                refine wpB_past (i := 19) rfl (by kernel_rfl) (by kernel_rfl) (fun K hK => ?_)
                rw [if_pos (by kernel_rfl)]
                go_simp
                refine hK.out _ _ ?_
                clear hK K
                refine wpB_done (by kernel_rfl) ?_ _
                go_simp
                have HT5 := Lib.hid (HQ2.out.putS HK4.out HB4.out HR4.out)
                go_wp2_with fail
                go_roundw
                case rel => exact ⟨j + 1, _, _, by omega, by go_num, HT5⟩
                case measure => simp [intOf] <;> omega
          case pos =>
            obtain ⟨z, hz⟩ := at_some (L := y.ns) rfl hjl
            have HZZ := Lib.hid hz
            obtain ⟨g2, off2, rfl, hg2, hc2, hzo⟩ := HGN.out.flat hz
            have HZO := Lib.hid hzo
            have HBw := Lib.hid (HP.out.below.trans (HT.out.below.mono hwo))
            have a0_ : wr.cell? ⟨g2, off2 + j * 10, none⟩ = some (.int .i64 z.op) := (HBw.out.cell (p := ⟨g2, off2 + j * 10, none⟩) hg2).trans (hc2 0 _ rfl)
            have a1_ : wr.cell? ⟨g2, off2 + j * 10 + 1, none⟩ = some (.int .i64 z.a) := (HBw.out.cell (p := ⟨g2, off2 + j * 10 + 1, none⟩) hg2).trans (hc2 1 _ rfl)
            have a2_ : wr.cell? ⟨g2, off2 + j * 10 + 2, none⟩ = some (.int .i64 z.b) := (HBw.out.cell (p := ⟨g2, off2 + j * 10 + 2, none⟩) hg2).trans (hc2 2 _ rfl)
            have a3_ : wr.cell? ⟨g2, off2 + j * 10 + 3, none⟩ = some (.string z.n) := (HBw.out.cell (p := ⟨g2, off2 + j * 10 + 3, none⟩) hg2).trans (hc2 3 _ rfl)
            have a4_ : wr.cell? ⟨g2, off2 + j * 10 + 4, none⟩ = some (.int .i64 z.v.k) := (HBw.out.cell (p := ⟨g2, off2 + j * 10 + 4, none⟩) hg2).trans (hc2 4 _ rfl)
            have a5_ : wr.cell? ⟨g2, off2 + j * 10 + 5, none⟩ = some (.int .i64 z.v.i) := (HBw.out.cell (p := ⟨g2, off2 + j * 10 + 5, none⟩) hg2).trans (hc2 5 _ rfl)
            have a6_ : wr.cell? ⟨g2, off2 + j * 10 + 6, none⟩ = some (.string z.v.s) := (HBw.out.cell (p := ⟨g2, off2 + j * 10 + 6, none⟩) hg2).trans (hc2 6 _ rfl)
            have a7_ : wr.cell? ⟨g2, off2 + j * 10 + 7, none⟩ = some (.bool z.v.b) := (HBw.out.cell (p := ⟨g2, off2 + j * 10 + 7, none⟩) hg2).trans (hc2 7 _ rfl)
            have a8_ : wr.cell? ⟨g2, off2 + j * 10 + 8, none⟩ = some (.int .i64 z.l) := (HBw.out.cell (p := ⟨g2, off2 + j * 10 + 8, none⟩) hg2).trans (hc2 8 _ rfl)
            have a9_ : wr.cell? ⟨g2, off2 + j * 10 + 9, none⟩ = some (.int .i64 z.c) := (HBw.out.cell (p := ⟨g2, off2 + j * 10 + 9, none⟩) hg2).trans (hc2 9 _ rfl)
            obtain ⟨va2, vc2, rfl⟩ := HT.out.rn.slice
            obtain ⟨m2, hm2⟩ : ∃ m, m = ((y.ns.take j).map plE).length := ⟨_, rfl⟩
            have hmn2 := take_le HSMT.out.2.1 hm2
            have HML2 := Lib.hid (row_len hz hm2)
            rw [← hm2] at HT
            have HMM2 := Lib.hid hm2
            have HOL2 : Hid (∀ k, (Value.slice va2 m2 vc2).ownBlock = some k → k < wr.heap.size) := Lib.hid (fun k hk => by obtain ⟨css, ho, _⟩ := HT.out.rn; rw [← hm2] at ho; exact (ho.lt k hk).2)
            have HQ2 := Lib.hid ((HT.out.below' ((Below.refl wr.heap.size wr).alloc (Nat.le_refl _) (.cells #[.int .i64 z.op, .int .i64 z.a, .int .i64 z.b, .string z.n, .int .i64 z.v.k, .int .i64 z.v.i, .string z.v.s, .bool z.v.b, .int .i64 z.l, .int .i64 z.c] 53))).below' ((Below.refl _ _).alloc (Nat.le_refl _) (.cells #[.int .i64 z.op, .int .i64 z.a, .int .i64 z.b, .string z.n, .int .i64 z.v.k, .int .i64 z.v.i, .string z.v.s, .bool z.v.b, .int .i64 0, .int .i64 0] 53)))
            have p10 : wr.cell? ⟨p, 10, none⟩ = some (.slice va2 m2 vc2) := by rw [cell_of_row _ _ 10 _ _ _ HT.out.po]; rfl
            have hpl : p < wr.heap.size := CBlk.lt ⟨_, _, HT.out.po⟩
            obtain ⟨css, ho, hgs⟩ := HQ2.out.rn
            rw [← HMM2.out] at ho
            have HOW := Lib.hid ho
            have HGS := Lib.hid hgs
            clear ho hgs
            have nw := new_cells (wr.alloc (.cells #[.int .i64 z.op, .int .i64 z.a, .int .i64 z.b, .string z.n, .int .i64 z.v.k, .int .i64 z.v.i, .string z.v.s, .bool z.v.b, .int .i64 z.l, .int .i64 z.c] 53)) [.int .i64 z.op, .int .i64 z.a, .int .i64 z.b, .string z.n, .int .i64 z.v.k, .int .i64 z.v.i, .string z.v.s, .bool z.v.b, .int .i64 0, .int .i64 0] 53
            rw [World.size_alloc] at nw
            have hsz2 := HQ2.out.below.size
            clear hc2 hz hzo hm2
            go_wp2_with (
              at_builtin
              refine wpList_append_own _ rfl _ _ 48 rfl wo.heap.size 53 i0Ex _ 10 96 Tryz.underlying48 HIEx.out HZ0Ex.out HZ1Ex.out HZ2Ex.out rfl (by decide) _ _ _ rfl HOW.out ⟨wr.heap.size + 1, 0, none⟩ 1 1 [.int .i64 z.op, .int .i64 z.a, .int .i64 z.b, .string z.n, .int .i64 z.v.k, .int .i64 z.v.i, .string z.v.s, .bool z.v.b, .int .i64 0, .int .i64 0] rfl rfl nw (by intro u hu; simp only [List.mem_cons, List.not_mem_nil, or_false] at hu; rcases hu with rfl | rfl | rfl | rfl | rfl | rfl | rfl | rfl | rfl | rfl <;> rfl) (by unfold maxLen; omega) (by omega) hsz2 ?_
              intro v4 w4 ho4 hg4 _
              have HK4 : Hid (KU 53 ((wr.alloc (.cells #[.int .i64 z.op, .int .i64 z.a, .int .i64 z.b, .string z.n, .int .i64 z.v.k, .int .i64 z.v.i, .string z.v.s, .bool z.v.b, .int .i64 z.l, .int .i64 z.c] 53)).alloc (.cells #[.int .i64 z.op, .int .i64 z.a, .int .i64 z.b, .string z.n, .int .i64 z.v.k, .int .i64 z.v.i, .string z.v.s, .bool z.v.b, .int .i64 0, .int .i64 0] 53)) w4) := Lib.hid (KU.grown HOW.out hg4)
              have HB4 : Hid (Below wo.heap.size wo w4) := Lib.hid (HQ2.out.below.grown hg4 hsz2 (fun k hk => (HOW.out.lt k hk).1))
              obtain ⟨va4, vc4, rfl⟩ := cs_own ho4
              have HPO4 := Lib.hid (HK4.out.obj HQ2.out.po (by decide))
              have HR4 : Hid (Row rEx 53 10 wo.heap.size w4 (.slice va4 (m2 + 1) vc4) ((y.ns.take (j + 1)).map plE)) := Lib.hid (by
                rw [map_snoc HZZ.out]
                refine Row.snoc (cs := [.int .i64 z.op, .int .i64 z.a, .int .i64 z.b, .string z.n, .int .i64 z.v.k, .int .i64 z.v.i, .string z.v.s, .bool z.v.b, .int .i64 0, .int .i64 0]) (x := plE z) ?_ (HGS.out.kept (fun _ _ _ h => RF.any h)) rfl ⟨rfl, HZO.out⟩
                rw [← HMM2.out]
                exact ho4)
              have c1 : w4.cell? ⟨p, 10, none⟩ = some (.slice va2 m2 vc2) := by rw [cell_of_row _ _ 10 _ _ _ HPO4.out]; rfl
              have f1 : w4.frozen? ⟨p, 10, none⟩ = false := frozen_of_row _ _ 10 _ _ HPO4.out
              clear ho4 hg4
            )
            have HT5 := Lib.hid (HQ2.out.putN HK4.out HB4.out HR4.out)
            go_wp2_with fail
            go_roundw
            case rel => exact ⟨j + 1, _, by omega, by go_num, HT5⟩
            case measure => simp [intOf] <;> omega
end Go.Proofs.YtojabkhfkbfeaaaGreatDoor
