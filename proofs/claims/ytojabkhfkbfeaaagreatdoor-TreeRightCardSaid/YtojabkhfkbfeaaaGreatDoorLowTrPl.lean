/- Contracts of a lower layer, several texts in one. -/
import Derived.Test.YtojabkhfkbfeaaaGreatDoorTreeRefPlE
/- TreeRefPlD -/
namespace Go.Proofs.YtojabkhfkbfeaaaGreatDoor
open Go.RowKit
set_option linter.unusedVariables false


set_option maxHeartbeats 80000000 in
set_option maxRecDepth 1000000 in
theorem tail4 {Y : TyT} {O : Prop} (x : Tr) (w : World) (da : Option Addr) (dc : Nat) (qa : Option Addr) (qc : Nat) (fa : Option Addr) (fc : Nat) (ta : Option Addr) (tc : Nat) (la : Option Addr) (lc : Nat) (xa : Option Addr) (xc : Nat) (g0 : GIn (rDe Y O) Y.de O 4 w da x.ds.length x.ds) (g1 : GIn rQu Y.qu O 5 w qa x.qs.length x.qs) (g2 : GIn rFr Y.fr O 7 w fa x.fs.length x.fs) (g3 : GIn rSta Y.st O 5 w ta x.st.length x.st) (g4 : GIn (rSy Y O) Y.sy O 4 w la x.al.length x.al) (g5 : GIn (rTs Y O) Y.ts O 13 w xa x.ts.length x.ts) (hok : okS x.n.t ∧ okS x.s.t) (hs : SmT x) {q : Nat} {v0 v1 v2 v3 v4 v5 : Value} {wr : World}
    (HP0 : Hid (PlS #[.string x.n.t, .int .i64 x.n.l, .int .i64 x.n.c, .slice da x.ds.length dc, .slice qa x.qs.length qc, .slice fa x.fs.length fc, .slice ta x.st.length tc, .string x.s.t, .int .i64 x.s.l, .int .i64 x.s.c, .slice la x.al.length lc, .slice xa x.ts.length xc] w x q v0 v1 v2 v3 v4 v5 (x.ds.map plDe) (x.qs.map plQu) (x.fs.map plFr) (x.st.map plSta) [] [] wr)) {s0 s4 s5 s6 s7 s8 s9 s10 s11 s12 s13 s14 s15 s16 s17 s18 s19 s20 s21 s22 s23 s24 s25 s26 s27 s28 s29 s30 s31 s32 s33 s34 s35 s36 s37 s38 s39 s40 s41 s42 s43 s44 s45 s46 s47 s48 s49 s50 s51 s52 s53 s54 s55 s56 s57 s58 s59 s60 s61 s62 s63 s64 s65 s66 s67 s68 s69 s70 s71 s72 s73 s74 s75 s76 s77 s78 s79 s80 s81 s82 s83 s84 s85 s86 s87 s88 s89 s90 s91 s92 s93 s94 s95 s96 s97 s98 s99 s100 s101 s102 s103 s104 s105 s106 s107 s108 s109 s110 s111 s112 s113 s114 s115 s116 s117 s118 s119 s120 s121 s122 s123 s124 s125 s126 s127 s128 s129 s130 s131 s132 s133 s134 s135 s136 s137 s138 s139 s140 s141 s142 s143 s144 s145 s146 s147 s148 s149 s150 s151 s152 s153 s154 s155 s156 s157 s158 s159 s160 s161 s162 s163 s164 s165 s166 s167 s168 s169 s170 s171 s172 s173 s174 s175 s176 s177 s178 s179 s180 s181 s182 s183 s184 s185 s186 s187 s188 s189 s190 s191 s192 s193 s194 s195 s196 s197 s198 s199 s200 s201 s202 s203 s204 s205 s206 s207 s208 s209 s210 s211 s212 s213 s214 s215 s216 s217 s218 s219 s220 s221 s222 s223 s224 s225 s226 s227 s228 s229 s230 : Value} : Code.wp Tryz.prog (dropSeq 6 (Tryz.f10.body.getD .skip)) (bodyPost Tryz.prog Tryz.f10 (MadeTr (plT x) w)) ⟨#[s0, .pointer (some ⟨w.heap.size, 0, none⟩), .pointer (some ⟨w.heap.size + 1, 0, none⟩), .pointer (some ⟨q, 0, none⟩), s4, s5, s6, s7, s8, s9, s10, s11, s12, s13, s14, s15, s16, s17, s18, s19, s20, s21, s22, s23, s24, s25, s26, s27, s28, s29, s30, s31, s32, s33, s34, s35, s36, s37, s38, s39, s40, s41, s42, s43, s44, s45, s46, s47, s48, s49, s50, s51, s52, s53, s54, s55, s56, s57, s58, s59, s60, s61, s62, s63, s64, s65, s66, s67, s68, s69, s70, s71, s72, s73, s74, s75, s76, s77, s78, s79, s80, s81, s82, s83, s84, s85, s86, s87, s88, s89, s90, s91, s92, s93, s94, s95, s96, s97, s98, s99, s100, s101, s102, s103, s104, s105, s106, s107, s108, s109, s110, s111, s112, s113, s114, s115, s116, s117, s118, s119, s120, s121, s122, s123, s124, s125, s126, s127, s128, s129, s130, s131, s132, s133, s134, s135, s136, s137, s138, s139, s140, s141, s142, s143, s144, s145, s146, s147, s148, s149, s150, s151, s152, s153, s154, s155, s156, s157, s158, s159, s160, s161, s162, s163, s164, s165, s166, s167, s168, s169, s170, s171, s172, s173, s174, s175, s176, s177, s178, s179, s180, s181, s182, s183, s184, s185, s186, s187, s188, s189, s190, s191, s192, s193, s194, s195, s196, s197, s198, s199, s200, s201, s202, s203, s204, s205, s206, s207, s208, s209, s210, s211, s212, s213, s214, s215, s216, s217, s218, s219, s220, s221, s222, s223, s224, s225, s226, s227, s228, s229, s230], []⟩ wr := by
  have HOK := Lib.hid hok
  have HSM := Lib.hid hs
  have HN := Lib.hid (fun (z : Id3) w1 => ident_calls z w1)
  have s_0 := g0.small
  have G0 := Lib.hid g0
  have l0 := hs.l0
  have s_1 := g1.small
  have G1 := Lib.hid g1
  have l1 := hs.l1
  have s_2 := g2.small
  have G2 := Lib.hid g2
  have l2 := hs.l2
  have s_3 := g3.small
  have G3 := Lib.hid g3
  have l3 := hs.l3
  have s_4 := g4.small
  have G4 := Lib.hid g4
  have l4 := hs.l4
  have s_5 := g5.small
  have G5 := Lib.hid g5
  have l5 := hs.l5
  obtain ⟨i0De, hi, hz0, hz1, hz2⟩ := info_parts infoDe
  have HIDe := Lib.hid hi
  have HZ0De := Lib.hid hz0
  have HZ1De := Lib.hid hz1
  have HZ2De := Lib.hid hz2
  clear hi hz0 hz1 hz2
  obtain ⟨i0Qu, hi, hz0, hz1, hz2⟩ := info_parts infoQu
  have HIQu := Lib.hid hi
  have HZ0Qu := Lib.hid hz0
  have HZ1Qu := Lib.hid hz1
  have HZ2Qu := Lib.hid hz2
  clear hi hz0 hz1 hz2
  obtain ⟨i0Fr, hi, hz0, hz1, hz2⟩ := info_parts infoFr
  have HIFr := Lib.hid hi
  have HZ0Fr := Lib.hid hz0
  have HZ1Fr := Lib.hid hz1
  have HZ2Fr := Lib.hid hz2
  clear hi hz0 hz1 hz2
  obtain ⟨i0Sta, hi, hz0, hz1, hz2⟩ := info_parts infoSta
  have HISta := Lib.hid hi
  have HZ0Sta := Lib.hid hz0
  have HZ1Sta := Lib.hid hz1
  have HZ2Sta := Lib.hid hz2
  clear hi hz0 hz1 hz2
  obtain ⟨i0Sy, hi, hz0, hz1, hz2⟩ := info_parts infoSy
  have HISy := Lib.hid hi
  have HZ0Sy := Lib.hid hz0
  have HZ1Sy := Lib.hid hz1
  have HZ2Sy := Lib.hid hz2
  clear hi hz0 hz1 hz2
  obtain ⟨i0Ts, hi, hz0, hz1, hz2⟩ := info_parts infoTs
  have HITs := Lib.hid hi
  have HZ0Ts := Lib.hid hz0
  have HZ1Ts := Lib.hid hz1
  have HZ2Ts := Lib.hid hz2
  clear hi hz0 hz1 hz2
  obtain ⟨i0Ex, hi, hz0, hz1, hz2⟩ := info_parts infoEx
  have HIEx := Lib.hid hi
  have HZ0Ex := Lib.hid hz0
  have HZ1Ex := Lib.hid hz1
  have HZ2Ex := Lib.hid hz2
  clear hi hz0 hz1 hz2
  obtain ⟨i0Se, hi, hz0, hz1, hz2⟩ := info_parts infoSe
  have HISe := Lib.hid hi
  have HZ0Se := Lib.hid hz0
  have HZ1Se := Lib.hid hz1
  have HZ2Se := Lib.hid hz2
  clear hi hz0 hz1 hz2
  obtain ⟨i0Int, hi, hz0, hz1, hz2⟩ := info_parts infoInt
  have HIInt := Lib.hid hi
  have HZ0Int := Lib.hid hz0
  have HZ1Int := Lib.hid hz1
  have HZ2Int := Lib.hid hz2
  clear hi hz0 hz1 hz2
  clear g0 g1 g2 g3 g4 g5 hok hs
  conv => arg 2; whnf
  go_wp2_with fail
  rename_i hcont
  have HCONT := Lib.hid hcont
  clear hcont
  go_loopw [10] (fun i wr => ∃ (n : Nat) (v0 v1 v2 v3 v4 v5 : Value), n ≤ x.al.length ∧ i = .int .i64 n ∧ Hid (PlS #[.string x.n.t, .int .i64 x.n.l, .int .i64 x.n.c, .slice da x.ds.length dc, .slice qa x.qs.length qc, .slice fa x.fs.length fc, .slice ta x.st.length tc, .string x.s.t, .int .i64 x.s.l, .int .i64 x.s.c, .slice la x.al.length lc, .slice xa x.ts.length xc] w x q v0 v1 v2 v3 v4 v5 (x.ds.map plDe) (x.qs.map plQu) (x.fs.map plFr) (x.st.map plSta) ((x.al.take n).map plS) [] wr)) (fun i _ => x.al.length - (intOf i).toNat)
  case atStart => exact ⟨0, _, _, _, _, _, _, Nat.zero_le _, rfl, Lib.hid HP0.out⟩
  case round =>
    obtain ⟨n, v0, v1, v2, v3, v4, v5, hn, rfl, HP⟩ := hrel
    have zb : wr.cell? ⟨w.heap.size, 10, none⟩ = some (.slice la x.al.length lc) := by rw [cell_of_row _ _ 10 _ _ _ HP.out.box]; rfl
    by_cases h : n < x.al.length
    case neg =>
      have HPn : Hid (PlS #[.string x.n.t, .int .i64 x.n.l, .int .i64 x.n.c, .slice da x.ds.length dc, .slice qa x.qs.length qc, .slice fa x.fs.length fc, .slice ta x.st.length tc, .string x.s.t, .int .i64 x.s.l, .int .i64 x.s.c, .slice la x.al.length lc, .slice xa x.ts.length xc] w x q v0 v1 v2 v3 v4 v5 (x.ds.map plDe) (x.qs.map plQu) (x.fs.map plFr) (x.st.map plSta) (x.al.map plS) [] wr) := Lib.hid (by have := HP.out; rwa [List.take_of_length_le (by omega)] at this)
      go_wp2_with fail
      refine HCONT.out _ _ ?_
      exact tail5 x w da dc qa qc fa fc ta tc la lc xa xc G0.out G1.out G2.out G3.out G4.out G5.out HOK.out HSM.out HPn
    case pos =>
      obtain ⟨y, hy⟩ := at_some (L := x.al) rfl h
      have HYY := Lib.hid hy
      obtain ⟨g, off, csy, rfl, hg, _, hc, hry, _⟩ := G4.out.at' n y hy
      have HRY := Lib.hid hry
      obtain ⟨a1, c1, rfl, g11, hyo⟩ := hry
      have HYO := Lib.hid hyo
      have c0_ : w.cell? ⟨g, off + n * 4, none⟩ = some (.string y.n) := hc 0 _ rfl
      have c1_ : w.cell? ⟨g, off + n * 4 + 1, none⟩ = some (.slice a1 y.ar.length c1) := hc 1 _ rfl
      have c2_ : w.cell? ⟨g, off + n * 4 + 2, none⟩ = some (.int .i64 y.l) := hc 2 _ rfl
      have c3_ : w.cell? ⟨g, off + n * 4 + 3, none⟩ = some (.int .i64 y.c) := hc 3 _ rfl
      obtain ⟨va, vc, rfl⟩ := HP.out.r4.slice
      obtain ⟨m, hm⟩ : ∃ m, m = ((x.al.take n).map plS).length := ⟨_, rfl⟩
      have hmn := take_le l4 hm
      have HML := Lib.hid (row_len hy hm)
      rw [← hm] at HP
      have HMM := Lib.hid hm
      have HOLT : Hid (∀ k, (Value.slice va m vc).ownBlock = some k → k < wr.heap.size) := Lib.hid (fun k hk => by obtain ⟨css, ho, _⟩ := HP.out.r4; rw [← hm] at ho; exact (ho.lt k hk).2)
      have HSW : Hid (∀ W, Below w.heap.size w W → W.heap[w.heap.size]? = some (.cells #[.string x.n.t, .int .i64 x.n.l, .int .i64 x.n.c, .slice da x.ds.length dc, .slice qa x.qs.length qc, .slice fa x.fs.length fc, .slice ta x.st.length tc, .string x.s.t, .int .i64 x.s.l, .int .i64 x.s.c, .slice (some ⟨g, off, none⟩) x.al.length lc, .slice xa x.ts.length xc] 31 (0, 0)) → W.heap[q]? = some (.cells (TC x v0 v1 v2 v3 (.slice va m vc) v5) 31 (0, 0)) → (W.cell? ⟨w.heap.size, 10, none⟩ = some (.slice (some ⟨g, off, none⟩) x.al.length lc) ∧ W.cell? ⟨q, 10, none⟩ = some (.slice va m vc) ∧ W.cell? ⟨g, off + n * 4, none⟩ = some (.string y.n) ∧ W.cell? ⟨g, off + n * 4 + 1, none⟩ = some (.slice a1 y.ar.length c1) ∧ W.cell? ⟨g, off + n * 4 + 2, none⟩ = some (.int .i64 y.l) ∧ W.cell? ⟨g, off + n * 4 + 3, none⟩ = some (.int .i64 y.c))) := Lib.hid (fun W hb h1 h2 => ⟨by rw [cell_of_row _ _ 10 _ _ _ h1]; rfl, by rw [cell_of_row _ _ 10 _ _ _ h2]; rfl, (hb.cell (p := ⟨g, off + n * 4, none⟩) hg).trans c0_, (hb.cell (p := ⟨g, off + n * 4 + 1, none⟩) hg).trans c1_, (hb.cell (p := ⟨g, off + n * 4 + 2, none⟩) hg).trans c2_, (hb.cell (p := ⟨g, off + n * 4 + 3, none⟩) hg).trans c3_⟩)
      have HQ0 := Lib.hid (HP.out.below' ((Below.refl wr.heap.size wr).drew))
      have HBr := Lib.hid (fun w1 (hb : Below w.heap.size w w1) => bare_calls y _ w1 (rSy_below HRY.out hb) (HSM.out.s y (List.mem_of_getElem? hy)))
      clear hc hy hyo hm g11 c0_ c1_ c2_ c3_
      go_wp2_with fail
      clear zb
      refine wp_region_B (S := (fun W => W.cell? ⟨w.heap.size, 10, none⟩ = some (.slice (some ⟨g, off, none⟩) x.al.length lc) ∧ W.cell? ⟨q, 10, none⟩ = some (.slice va m vc) ∧ W.cell? ⟨g, off + n * 4, none⟩ = some (.string y.n) ∧ W.cell? ⟨g, off + n * 4 + 1, none⟩ = some (.slice a1 y.ar.length c1) ∧ W.cell? ⟨g, off + n * 4 + 2, none⟩ = some (.int .i64 y.l) ∧ W.cell? ⟨g, off + n * 4 + 3, none⟩ = some (.int .i64 y.c))) [11] (by kernel_rfl) (HSW.out _ HQ0.out.below HQ0.out.box HQ0.out.out) (fun hH0 => ?_)
      refine wpB_take (i := 0) (v := .pointer (some ⟨q, 10, none⟩)) [11] rfl (by kernel_rfl) (by kernel_rfl) (by kernel_rfl) (by kernel_rfl) (fun _ _ _ h => h) (Or.inl ⟨by kernel_rfl, fun wS hSw => by (try dsimp only at hSw); go_simp⟩) hH0 ?_
      refine wpB_take (i := 1) (v := .slice va m vc) [11] rfl (by kernel_rfl) (by kernel_rfl) (by kernel_rfl) (by kernel_rfl) (fun _ _ _ h => h) (Or.inl ⟨by kernel_rfl, fun wS hSw => by (try dsimp only at hSw); go_simp⟩) hH0 ?_
      refine wpB_take (i := 2) (v := .pointer (some ⟨w.heap.size, 10, none⟩)) [11] rfl (by kernel_rfl) (by kernel_rfl) (by kernel_rfl) (by kernel_rfl) (fun _ _ _ h => h) (Or.inl ⟨by kernel_rfl, fun wS hSw => by (try dsimp only at hSw); go_simp⟩) hH0 ?_
      refine wpB_take (i := 3) (v := .slice (some ⟨g, off, none⟩) x.al.length lc) [11] rfl (by kernel_rfl) (by kernel_rfl) (by kernel_rfl) (by kernel_rfl) (fun _ _ _ h => h) (Or.inl ⟨by kernel_rfl, fun wS hSw => by (try dsimp only at hSw); go_simp⟩) hH0 ?_
      refine wpB_take (i := 4) (v := .int .i64 (n : Nat)) [11] rfl (by kernel_rfl) (by kernel_rfl) (by kernel_rfl) (by kernel_rfl) (fun _ _ _ h => h) (Or.inl ⟨by kernel_rfl, fun wS hSw => by (try dsimp only at hSw); go_simp⟩) hH0 ?_
      refine wpB_take (i := 5) (v := .pointer (some ⟨g, off + n * 4, none⟩)) [11] rfl (by kernel_rfl) (by kernel_rfl) (by kernel_rfl) (by kernel_rfl) (fun _ _ _ h => h) (Or.inl ⟨by kernel_rfl, fun wS hSw => by (try dsimp only at hSw); go_simp⟩) hH0 ?_
      refine wpB_take (i := 6) (v := .agg #[.string y.n, .slice a1 y.ar.length c1, .int .i64 y.l, .int .i64 y.c]) [11] rfl (by kernel_rfl) (by kernel_rfl) (by kernel_rfl) (by kernel_rfl) (fun _ _ _ h => h) (Or.inl ⟨by kernel_rfl, fun wS hSw => by (try dsimp only at hSw); go_simp⟩) hH0 ?_
      refine wpB_step (i := 7) rfl (by kernel_rfl) (fun K hK => ?_)
      rw [if_pos (by kernel_rfl)]
      go_simp
      refine (HBr.out _ HQ0.out.below).mono ?_
      rintro e w1 ⟨_, rfl, ⟨a2, c2, rfl, hg2, hok2⟩, k⟩
      have HQ1 := Lib.hid (HQ0.out.below' k)
      have HRV : Hid (rSy tyT True w1 [.string (plS y).n, .slice a2 (plS y).ar.length c2, .int .i64 (plS y).l, .int .i64 (plS y).c] (plS y)) := Lib.hid ⟨a2, c2, rfl, hg2, hok2⟩
      clear k hg2 hok2
      refine hK.out _ _ (HSW.out _ HQ1.out.below HQ1.out.box HQ1.out.out) (fun hH1 => ?_)
      clear hK K
      have HQ2 := Lib.hid (HQ1.out.below' ((Below.refl w1.heap.size w1).alloc (Nat.le_refl _) (.cells #[.string (plS y).n, .slice a2 (plS y).ar.length c2, .int .i64 (plS y).l, .int .i64 (plS y).c] 47)))
      refine wpB_step (i := 8) rfl (by kernel_rfl) (fun K hK => ?_)
      rw [if_pos (by kernel_rfl)]
      go_simp
      refine hK.out _ _ (HSW.out _ HQ2.out.below HQ2.out.box HQ2.out.out) (fun hH2 => ?_)
      clear hK K
      obtain ⟨css, ho, hgs⟩ := HQ2.out.r4
      rw [← HMM.out] at ho
      have HOW := Lib.hid ho
      have HGS := Lib.hid hgs
      clear ho hgs
      have nw := new_cells w1 [.string (plS y).n, .slice a2 (plS y).ar.length c2, .int .i64 (plS y).l, .int .i64 (plS y).c] 47
      have hsz2 := HQ2.out.below.size
      refine wpB_step (i := 9) rfl (by kernel_rfl) (fun K hK => ?_)
      rw [if_pos (by kernel_rfl)]
      refine wp_append_own (w1.alloc (.cells #[.string (plS y).n, .slice a2 (plS y).ar.length c2, .int .i64 (plS y).l, .int .i64 (plS y).c] 47)) _ _ 28 rfl w.heap.size 47 i0Sy _ 4 56 Tryz.underlying28 HISy.out HZ0Sy.out HZ1Sy.out HZ2Sy.out rfl (by decide) (.slice va m vc) _ _ rfl HOW.out ⟨w1.heap.size, 0, none⟩ 1 1 [.string (plS y).n, .slice a2 (plS y).ar.length c2, .int .i64 (plS y).l, .int .i64 (plS y).c] rfl rfl nw (by intro u hu; simp only [List.mem_cons, List.not_mem_nil, or_false] at hu; rcases hu with rfl | rfl | rfl | rfl <;> rfl) (by unfold maxLen; omega) (by omega) hsz2 ?_
      intro v4 w4 ho4 hg4 _
      have HK4 : Hid (KU 47 (w1.alloc (.cells #[.string (plS y).n, .slice a2 (plS y).ar.length c2, .int .i64 (plS y).l, .int .i64 (plS y).c] 47)) w4) := Lib.hid (KU.grown HOW.out hg4)
      have HB4 : Hid (Below w.heap.size w w4) := Lib.hid (HQ2.out.below.grown hg4 hsz2 (fun k hk => (HOW.out.lt k hk).1))
      obtain ⟨va4, vc4, rfl⟩ := cs_own ho4
      have HX4 := Lib.hid (HK4.out.obj HQ2.out.box (by decide))
      have HO4 := Lib.hid (HK4.out.obj HQ2.out.out (by decide))
      have HR4 : Hid (Row (rSy tyT True) 47 4 w.heap.size w4 (.slice va4 (m + 1) vc4) ((x.al.take (n + 1)).map plS)) := Lib.hid (by
        rw [map_snoc HYY.out]
        refine Row.snoc (cs := [.string (plS y).n, .slice a2 (plS y).ar.length c2, .int .i64 (plS y).l, .int .i64 (plS y).c]) (x := plS y) ?_ (HGS.out.kept (fun _ _ _ h => rSy_ku h HK4.out (by decide))) rfl (rSy_ku (rSy_below HRV.out ((Below.refl w1.heap.size w1).alloc (Nat.le_refl _) _)) HK4.out (by decide))
        rw [← HMM.out]
        exact ho4)
      clear ho4 hg4 nw
      refine hK.out _ _ (HSW.out _ HB4.out HX4.out HO4.out) (fun hH3 => ?_)
      clear hK K
      refine wpB_take (i := 10) (v := .pointer (some ⟨q, 10, none⟩)) [11] rfl (by kernel_rfl) (by kernel_rfl) (by kernel_rfl) (by kernel_rfl) (fun _ _ _ h => h) (Or.inl ⟨by kernel_rfl, fun wS hSw => by (try dsimp only at hSw); go_simp⟩) hH3 ?_
      skip
      have c1 : w4.cell? ⟨q, 10, none⟩ = some (.slice va m vc) := by rw [cell_of_row _ _ 10 _ _ _ HO4.out]; rfl
      have f1 : w4.frozen? ⟨q, 10, none⟩ = false := frozen_of_row _ _ 10 _ _ HO4.out
      refine wpB_past (i := 11) rfl (by kernel_rfl) (by kernel_rfl) (fun K hK => ?_)
      rw [if_pos (by kernel_rfl)]
      go_simp
      refine hK.out _ _ ?_
      clear hK K
      refine wpB_done (by kernel_rfl) ?_ _
      go_simp
      have HP5 := Lib.hid (HQ2.out.put4 HK4.out HB4.out HR4.out)
      go_wp2_with fail
      go_roundw
      case rel => exact ⟨n + 1, _, _, _, _, _, _, by omega, by go_num, HP5⟩
      case measure => simp [intOf] <;> omega

set_option maxHeartbeats 80000000 in
set_option maxRecDepth 1000000 in
theorem tail3 {Y : TyT} {O : Prop} (x : Tr) (w : World) (da : Option Addr) (dc : Nat) (qa : Option Addr) (qc : Nat) (fa : Option Addr) (fc : Nat) (ta : Option Addr) (tc : Nat) (la : Option Addr) (lc : Nat) (xa : Option Addr) (xc : Nat) (g0 : GIn (rDe Y O) Y.de O 4 w da x.ds.length x.ds) (g1 : GIn rQu Y.qu O 5 w qa x.qs.length x.qs) (g2 : GIn rFr Y.fr O 7 w fa x.fs.length x.fs) (g3 : GIn rSta Y.st O 5 w ta x.st.length x.st) (g4 : GIn (rSy Y O) Y.sy O 4 w la x.al.length x.al) (g5 : GIn (rTs Y O) Y.ts O 13 w xa x.ts.length x.ts) (hok : okS x.n.t ∧ okS x.s.t) (hs : SmT x) {q : Nat} {v0 v1 v2 v3 v4 v5 : Value} {wr : World}
    (HP0 : Hid (PlS #[.string x.n.t, .int .i64 x.n.l, .int .i64 x.n.c, .slice da x.ds.length dc, .slice qa x.qs.length qc, .slice fa x.fs.length fc, .slice ta x.st.length tc, .string x.s.t, .int .i64 x.s.l, .int .i64 x.s.c, .slice la x.al.length lc, .slice xa x.ts.length xc] w x q v0 v1 v2 v3 v4 v5 (x.ds.map plDe) (x.qs.map plQu) (x.fs.map plFr) [] [] [] wr)) {s0 s4 s5 s6 s7 s8 s9 s10 s11 s12 s13 s14 s15 s16 s17 s18 s19 s20 s21 s22 s23 s24 s25 s26 s27 s28 s29 s30 s31 s32 s33 s34 s35 s36 s37 s38 s39 s40 s41 s42 s43 s44 s45 s46 s47 s48 s49 s50 s51 s52 s53 s54 s55 s56 s57 s58 s59 s60 s61 s62 s63 s64 s65 s66 s67 s68 s69 s70 s71 s72 s73 s74 s75 s76 s77 s78 s79 s80 s81 s82 s83 s84 s85 s86 s87 s88 s89 s90 s91 s92 s93 s94 s95 s96 s97 s98 s99 s100 s101 s102 s103 s104 s105 s106 s107 s108 s109 s110 s111 s112 s113 s114 s115 s116 s117 s118 s119 s120 s121 s122 s123 s124 s125 s126 s127 s128 s129 s130 s131 s132 s133 s134 s135 s136 s137 s138 s139 s140 s141 s142 s143 s144 s145 s146 s147 s148 s149 s150 s151 s152 s153 s154 s155 s156 s157 s158 s159 s160 s161 s162 s163 s164 s165 s166 s167 s168 s169 s170 s171 s172 s173 s174 s175 s176 s177 s178 s179 s180 s181 s182 s183 s184 s185 s186 s187 s188 s189 s190 s191 s192 s193 s194 s195 s196 s197 s198 s199 s200 s201 s202 s203 s204 s205 s206 s207 s208 s209 s210 s211 s212 s213 s214 s215 s216 s217 s218 s219 s220 s221 s222 s223 s224 s225 s226 s227 s228 s229 s230 : Value} : Code.wp Tryz.prog (dropSeq 5 (Tryz.f10.body.getD .skip)) (bodyPost Tryz.prog Tryz.f10 (MadeTr (plT x) w)) ⟨#[s0, .pointer (some ⟨w.heap.size, 0, none⟩), .pointer (some ⟨w.heap.size + 1, 0, none⟩), .pointer (some ⟨q, 0, none⟩), s4, s5, s6, s7, s8, s9, s10, s11, s12, s13, s14, s15, s16, s17, s18, s19, s20, s21, s22, s23, s24, s25, s26, s27, s28, s29, s30, s31, s32, s33, s34, s35, s36, s37, s38, s39, s40, s41, s42, s43, s44, s45, s46, s47, s48, s49, s50, s51, s52, s53, s54, s55, s56, s57, s58, s59, s60, s61, s62, s63, s64, s65, s66, s67, s68, s69, s70, s71, s72, s73, s74, s75, s76, s77, s78, s79, s80, s81, s82, s83, s84, s85, s86, s87, s88, s89, s90, s91, s92, s93, s94, s95, s96, s97, s98, s99, s100, s101, s102, s103, s104, s105, s106, s107, s108, s109, s110, s111, s112, s113, s114, s115, s116, s117, s118, s119, s120, s121, s122, s123, s124, s125, s126, s127, s128, s129, s130, s131, s132, s133, s134, s135, s136, s137, s138, s139, s140, s141, s142, s143, s144, s145, s146, s147, s148, s149, s150, s151, s152, s153, s154, s155, s156, s157, s158, s159, s160, s161, s162, s163, s164, s165, s166, s167, s168, s169, s170, s171, s172, s173, s174, s175, s176, s177, s178, s179, s180, s181, s182, s183, s184, s185, s186, s187, s188, s189, s190, s191, s192, s193, s194, s195, s196, s197, s198, s199, s200, s201, s202, s203, s204, s205, s206, s207, s208, s209, s210, s211, s212, s213, s214, s215, s216, s217, s218, s219, s220, s221, s222, s223, s224, s225, s226, s227, s228, s229, s230], []⟩ wr := by
  have HOK := Lib.hid hok
  have HSM := Lib.hid hs
  have HN := Lib.hid (fun (z : Id3) w1 => ident_calls z w1)
  have s_0 := g0.small
  have G0 := Lib.hid g0
  have l0 := hs.l0
  have s_1 := g1.small
  have G1 := Lib.hid g1
  have l1 := hs.l1
  have s_2 := g2.small
  have G2 := Lib.hid g2
  have l2 := hs.l2
  have s_3 := g3.small
  have G3 := Lib.hid g3
  have l3 := hs.l3
  have s_4 := g4.small
  have G4 := Lib.hid g4
  have l4 := hs.l4
  have s_5 := g5.small
  have G5 := Lib.hid g5
  have l5 := hs.l5
  obtain ⟨i0De, hi, hz0, hz1, hz2⟩ := info_parts infoDe
  have HIDe := Lib.hid hi
  have HZ0De := Lib.hid hz0
  have HZ1De := Lib.hid hz1
  have HZ2De := Lib.hid hz2
  clear hi hz0 hz1 hz2
  obtain ⟨i0Qu, hi, hz0, hz1, hz2⟩ := info_parts infoQu
  have HIQu := Lib.hid hi
  have HZ0Qu := Lib.hid hz0
  have HZ1Qu := Lib.hid hz1
  have HZ2Qu := Lib.hid hz2
  clear hi hz0 hz1 hz2
  obtain ⟨i0Fr, hi, hz0, hz1, hz2⟩ := info_parts infoFr
  have HIFr := Lib.hid hi
  have HZ0Fr := Lib.hid hz0
  have HZ1Fr := Lib.hid hz1
  have HZ2Fr := Lib.hid hz2
  clear hi hz0 hz1 hz2
  obtain ⟨i0Sta, hi, hz0, hz1, hz2⟩ := info_parts infoSta
  have HISta := Lib.hid hi
  have HZ0Sta := Lib.hid hz0
  have HZ1Sta := Lib.hid hz1
  have HZ2Sta := Lib.hid hz2
  clear hi hz0 hz1 hz2
  obtain ⟨i0Sy, hi, hz0, hz1, hz2⟩ := info_parts infoSy
  have HISy := Lib.hid hi
  have HZ0Sy := Lib.hid hz0
  have HZ1Sy := Lib.hid hz1
  have HZ2Sy := Lib.hid hz2
  clear hi hz0 hz1 hz2
  obtain ⟨i0Ts, hi, hz0, hz1, hz2⟩ := info_parts infoTs
  have HITs := Lib.hid hi
  have HZ0Ts := Lib.hid hz0
  have HZ1Ts := Lib.hid hz1
  have HZ2Ts := Lib.hid hz2
  clear hi hz0 hz1 hz2
  obtain ⟨i0Ex, hi, hz0, hz1, hz2⟩ := info_parts infoEx
  have HIEx := Lib.hid hi
  have HZ0Ex := Lib.hid hz0
  have HZ1Ex := Lib.hid hz1
  have HZ2Ex := Lib.hid hz2
  clear hi hz0 hz1 hz2
  obtain ⟨i0Se, hi, hz0, hz1, hz2⟩ := info_parts infoSe
  have HISe := Lib.hid hi
  have HZ0Se := Lib.hid hz0
  have HZ1Se := Lib.hid hz1
  have HZ2Se := Lib.hid hz2
  clear hi hz0 hz1 hz2
  obtain ⟨i0Int, hi, hz0, hz1, hz2⟩ := info_parts infoInt
  have HIInt := Lib.hid hi
  have HZ0Int := Lib.hid hz0
  have HZ1Int := Lib.hid hz1
  have HZ2Int := Lib.hid hz2
  clear hi hz0 hz1 hz2
  clear g0 g1 g2 g3 g4 g5 hok hs
  conv => arg 2; whnf
  go_wp2_with fail
  rename_i hcont
  have HCONT := Lib.hid hcont
  clear hcont
  go_loopw [8] (fun i wr => ∃ (n : Nat) (v0 v1 v2 v3 v4 v5 : Value), n ≤ x.st.length ∧ i = .int .i64 n ∧ Hid (PlS #[.string x.n.t, .int .i64 x.n.l, .int .i64 x.n.c, .slice da x.ds.length dc, .slice qa x.qs.length qc, .slice fa x.fs.length fc, .slice ta x.st.length tc, .string x.s.t, .int .i64 x.s.l, .int .i64 x.s.c, .slice la x.al.length lc, .slice xa x.ts.length xc] w x q v0 v1 v2 v3 v4 v5 (x.ds.map plDe) (x.qs.map plQu) (x.fs.map plFr) ((x.st.take n).map plSta) [] [] wr)) (fun i _ => x.st.length - (intOf i).toNat)
  case atStart => exact ⟨0, _, _, _, _, _, _, Nat.zero_le _, rfl, Lib.hid HP0.out⟩
  case round =>
    obtain ⟨n, v0, v1, v2, v3, v4, v5, hn, rfl, HP⟩ := hrel
    have zb : wr.cell? ⟨w.heap.size, 6, none⟩ = some (.slice ta x.st.length tc) := by rw [cell_of_row _ _ 6 _ _ _ HP.out.box]; rfl
    by_cases h : n < x.st.length
    case neg =>
      have HPn : Hid (PlS #[.string x.n.t, .int .i64 x.n.l, .int .i64 x.n.c, .slice da x.ds.length dc, .slice qa x.qs.length qc, .slice fa x.fs.length fc, .slice ta x.st.length tc, .string x.s.t, .int .i64 x.s.l, .int .i64 x.s.c, .slice la x.al.length lc, .slice xa x.ts.length xc] w x q v0 v1 v2 v3 v4 v5 (x.ds.map plDe) (x.qs.map plQu) (x.fs.map plFr) (x.st.map plSta) [] [] wr) := Lib.hid (by have := HP.out; rwa [List.take_of_length_le (by omega)] at this)
      go_wp2_with fail
      refine HCONT.out _ _ ?_
      exact tail4 x w da dc qa qc fa fc ta tc la lc xa xc G0.out G1.out G2.out G3.out G4.out G5.out HOK.out HSM.out HPn
    case pos =>
      obtain ⟨y, hy⟩ := at_some (L := x.st) rfl h
      have HYY := Lib.hid hy
      obtain ⟨g, off, rfl, hg, hc, hyo⟩ := G3.out.flat hy
      have HYO := Lib.hid hyo
      have c0_ : w.cell? ⟨g, off + n * 5, none⟩ = some (.string y.n.t) := hc 0 _ rfl
      have c1_ : w.cell? ⟨g, off + n * 5 + 1, none⟩ = some (.int .i64 y.n.l) := hc 1 _ rfl
      have c2_ : w.cell? ⟨g, off + n * 5 + 2, none⟩ = some (.int .i64 y.n.c) := hc 2 _ rfl
      have c3_ : w.cell? ⟨g, off + n * 5 + 3, none⟩ = some (.bool y.nx) := hc 3 _ rfl
      have c4_ : w.cell? ⟨g, off + n * 5 + 4, none⟩ = some (.bool y.ac) := hc 4 _ rfl
      obtain ⟨va, vc, rfl⟩ := HP.out.r3.slice
      obtain ⟨m, hm⟩ : ∃ m, m = ((x.st.take n).map plSta).length := ⟨_, rfl⟩
      have hmn := take_le l3 hm
      have HML := Lib.hid (row_len hy hm)
      rw [← hm] at HP
      have HMM := Lib.hid hm
      have HOLT : Hid (∀ k, (Value.slice va m vc).ownBlock = some k → k < wr.heap.size) := Lib.hid (fun k hk => by obtain ⟨css, ho, _⟩ := HP.out.r3; rw [← hm] at ho; exact (ho.lt k hk).2)
      have HSW : Hid (∀ W, Below w.heap.size w W → W.heap[w.heap.size]? = some (.cells #[.string x.n.t, .int .i64 x.n.l, .int .i64 x.n.c, .slice da x.ds.length dc, .slice qa x.qs.length qc, .slice fa x.fs.length fc, .slice (some ⟨g, off, none⟩) x.st.length tc, .string x.s.t, .int .i64 x.s.l, .int .i64 x.s.c, .slice la x.al.length lc, .slice xa x.ts.length xc] 31 (0, 0)) → W.heap[q]? = some (.cells (TC x v0 v1 v2 (.slice va m vc) v4 v5) 31 (0, 0)) → W.heap[wr.heap.size]? = some (.cells #[.string y.n.t, .int .i64 y.n.l, .int .i64 y.n.c, .bool y.nx, .bool y.ac] 60 (0, 0)) → (W.cell? ⟨w.heap.size, 6, none⟩ = some (.slice (some ⟨g, off, none⟩) x.st.length tc) ∧ W.cell? ⟨q, 6, none⟩ = some (.slice va m vc) ∧ W.cell? ⟨wr.heap.size, 0, none⟩ = some (.string y.n.t) ∧ W.cell? ⟨wr.heap.size, 1, none⟩ = some (.int .i64 y.n.l) ∧ W.cell? ⟨wr.heap.size, 2, none⟩ = some (.int .i64 y.n.c) ∧ W.cell? ⟨wr.heap.size, 3, none⟩ = some (.bool y.nx) ∧ W.cell? ⟨wr.heap.size, 4, none⟩ = some (.bool y.ac))) := Lib.hid (fun W hb h1 h2 h3 => ⟨by rw [cell_of_row _ _ 6 _ _ _ h1]; rfl, by rw [cell_of_row _ _ 6 _ _ _ h2]; rfl, by rw [cell_of_row _ _ 0 _ _ _ h3]; rfl, by rw [cell_of_row _ _ 1 _ _ _ h3]; rfl, by rw [cell_of_row _ _ 2 _ _ _ h3]; rfl, by rw [cell_of_row _ _ 3 _ _ _ h3]; rfl, by rw [cell_of_row _ _ 4 _ _ _ h3]; rfl⟩)
      have HQa := Lib.hid (HP.out.below' ((Below.refl wr.heap.size wr).alloc (Nat.le_refl _) (.cells #[.string y.n.t, .int .i64 y.n.l, .int .i64 y.n.c, .bool y.nx, .bool y.ac] 60)))
      have HQ0 := Lib.hid (HQa.out.below' ((Below.refl _ _).drew))
      have HC0 : Hid ((wr.alloc (.cells #[.string y.n.t, .int .i64 y.n.l, .int .i64 y.n.c, .bool y.nx, .bool y.ac] 60)).drew.heap[wr.heap.size]? = some (.cells #[.string y.n.t, .int .i64 y.n.l, .int .i64 y.n.c, .bool y.nx, .bool y.ac] 60 (0, 0))) := Lib.hid (heap_alloc_new wr _)
      have a0_ : wr.cell? ⟨g, off + n * 5, none⟩ = some (.string y.n.t) := (HP.out.below.cell (p := ⟨g, off + n * 5, none⟩) hg).trans c0_
      have a1_ : wr.cell? ⟨g, off + n * 5 + 1, none⟩ = some (.int .i64 y.n.l) := (HP.out.below.cell (p := ⟨g, off + n * 5 + 1, none⟩) hg).trans c1_
      have a2_ : wr.cell? ⟨g, off + n * 5 + 2, none⟩ = some (.int .i64 y.n.c) := (HP.out.below.cell (p := ⟨g, off + n * 5 + 2, none⟩) hg).trans c2_
      have a3_ : wr.cell? ⟨g, off + n * 5 + 3, none⟩ = some (.bool y.nx) := (HP.out.below.cell (p := ⟨g, off + n * 5 + 3, none⟩) hg).trans c3_
      have a4_ : wr.cell? ⟨g, off + n * 5 + 4, none⟩ = some (.bool y.ac) := (HP.out.below.cell (p := ⟨g, off + n * 5 + 4, none⟩) hg).trans c4_
      clear hc hy hyo hm c0_ c1_ c2_ c3_ c4_
      go_wp2_with fail
      clear zb a0_ a1_ a2_ a3_ a4_
      refine wp_region_B (S := (fun W => W.cell? ⟨w.heap.size, 6, none⟩ = some (.slice (some ⟨g, off, none⟩) x.st.length tc) ∧ W.cell? ⟨q, 6, none⟩ = some (.slice va m vc) ∧ W.cell? ⟨wr.heap.size, 0, none⟩ = some (.string y.n.t) ∧ W.cell? ⟨wr.heap.size, 1, none⟩ = some (.int .i64 y.n.l) ∧ W.cell? ⟨wr.heap.size, 2, none⟩ = some (.int .i64 y.n.c) ∧ W.cell? ⟨wr.heap.size, 3, none⟩ = some (.bool y.nx) ∧ W.cell? ⟨wr.heap.size, 4, none⟩ = some (.bool y.ac))) [13] (by kernel_rfl) (HSW.out _ HQ0.out.below HQ0.out.box HQ0.out.out HC0.out) (fun hH0 => ?_)
      refine wpB_take (i := 0) (v := .pointer (some ⟨q, 6, none⟩)) [13] rfl (by kernel_rfl) (by kernel_rfl) (by kernel_rfl) (by kernel_rfl) (fun _ _ _ h => h) (Or.inl ⟨by kernel_rfl, fun wS hSw => by (try dsimp only at hSw); go_simp⟩) hH0 ?_
      refine wpB_take (i := 1) (v := .slice va m vc) [13] rfl (by kernel_rfl) (by kernel_rfl) (by kernel_rfl) (by kernel_rfl) (fun _ _ _ h => h) (Or.inl ⟨by kernel_rfl, fun wS hSw => by (try dsimp only at hSw); go_simp⟩) hH0 ?_
      refine wpB_take (i := 2) (v := .pointer (some ⟨wr.heap.size, 0, none⟩)) [13] rfl (by kernel_rfl) (by kernel_rfl) (by kernel_rfl) (by kernel_rfl) (fun _ _ _ h => h) (Or.inl ⟨by kernel_rfl, fun wS hSw => by (try dsimp only at hSw); go_simp⟩) hH0 ?_
      refine wpB_take (i := 3) (v := .agg #[.string y.n.t, .int .i64 y.n.l, .int .i64 y.n.c]) [13] rfl (by kernel_rfl) (by kernel_rfl) (by kernel_rfl) (by kernel_rfl) (fun _ _ _ h => h) (Or.inl ⟨by kernel_rfl, fun wS hSw => by (try dsimp only at hSw); go_simp⟩) hH0 ?_
      refine wpB_take (i := 5) (v := .pointer (some ⟨wr.heap.size, 3, none⟩)) [13] rfl (by kernel_rfl) (by kernel_rfl) (by kernel_rfl) (by kernel_rfl) (fun _ _ _ h => h) (Or.inl ⟨by kernel_rfl, fun wS hSw => by (try dsimp only at hSw); go_simp⟩) hH0 ?_
      refine wpB_take (i := 6) (v := .bool y.nx) [13] rfl (by kernel_rfl) (by kernel_rfl) (by kernel_rfl) (by kernel_rfl) (fun _ _ _ h => h) (Or.inl ⟨by kernel_rfl, fun wS hSw => by (try dsimp only at hSw); go_simp⟩) hH0 ?_
      refine wpB_take (i := 7) (v := .pointer (some ⟨wr.heap.size, 4, none⟩)) [13] rfl (by kernel_rfl) (by kernel_rfl) (by kernel_rfl) (by kernel_rfl) (fun _ _ _ h => h) (Or.inl ⟨by kernel_rfl, fun wS hSw => by (try dsimp only at hSw); go_simp⟩) hH0 ?_
      refine wpB_take (i := 8) (v := .bool y.ac) [13] rfl (by kernel_rfl) (by kernel_rfl) (by kernel_rfl) (by kernel_rfl) (fun _ _ _ h => h) (Or.inl ⟨by kernel_rfl, fun wS hSw => by (try dsimp only at hSw); go_simp⟩) hH0 ?_
      refine wpB_step (i := 4) rfl (by kernel_rfl) (fun K hK => ?_)
      rw [if_pos (by kernel_rfl)]
      go_simp
      refine (HN.out y.n _).mono ?_
      rintro e w1 ⟨rfl, k⟩
      have HQ1 := Lib.hid (HQ0.out.below' k)
      have HC1 : Hid (w1.heap[wr.heap.size]? = some (.cells #[.string y.n.t, .int .i64 y.n.l, .int .i64 y.n.c, .bool y.nx, .bool y.ac] 60 (0, 0))) := Lib.hid ((k.block wr.heap.size (by simp)).trans HC0.out)
      clear k
      refine hK.out _ _ (HSW.out _ HQ1.out.below HQ1.out.box HQ1.out.out HC1.out) (fun hH1 => ?_)
      clear hK K
      refine wpB_take (i := 9) (v := .agg #[.string y.n.t, .int .i64 0, .int .i64 0, .bool y.nx, .bool y.ac]) [13] rfl (by kernel_rfl) (by kernel_rfl) (by kernel_rfl) (by kernel_rfl) (fun _ _ _ h => h) (Or.inl ⟨by kernel_rfl, fun wS hSw => by (try dsimp only at hSw); go_simp⟩) hH1 ?_
      have HQ2 := Lib.hid (HQ1.out.below' ((Below.refl w1.heap.size w1).alloc (Nat.le_refl _) (.cells #[.string y.n.t, .int .i64 0, .int .i64 0, .bool y.nx, .bool y.ac] 60)))
      have HC2 : Hid ((w1.alloc (.cells #[.string y.n.t, .int .i64 0, .int .i64 0, .bool y.nx, .bool y.ac] 60)).heap[wr.heap.size]? = some (.cells #[.string y.n.t, .int .i64 y.n.l, .int .i64 y.n.c, .bool y.nx, .bool y.ac] 60 (0, 0))) := Lib.hid ((heap_alloc_old _ _ (CBlk.lt ⟨_, _, HC1.out⟩)).trans HC1.out)
      refine wpB_step (i := 10) rfl (by kernel_rfl) (fun K hK => ?_)
      rw [if_pos (by kernel_rfl)]
      go_simp
      refine hK.out _ _ (HSW.out _ HQ2.out.below HQ2.out.box HQ2.out.out HC2.out) (fun hH2 => ?_)
      clear hK K
      obtain ⟨css, ho, hgs⟩ := HQ2.out.r3
      rw [← HMM.out] at ho
      have HOW := Lib.hid ho
      have HGS := Lib.hid hgs
      clear ho hgs
      have nw := new_cells w1 [.string y.n.t, .int .i64 0, .int .i64 0, .bool y.nx, .bool y.ac] 60
      have hsz2 := HQ2.out.below.size
      refine wpB_step (i := 11) rfl (by kernel_rfl) (fun K hK => ?_)
      rw [if_pos (by kernel_rfl)]
      refine wp_append_own (w1.alloc (.cells #[.string y.n.t, .int .i64 0, .int .i64 0, .bool y.nx, .bool y.ac] 60)) _ _ 27 rfl w.heap.size 60 i0Sta _ 5 40 Tryz.underlying27 HISta.out HZ0Sta.out HZ1Sta.out HZ2Sta.out rfl (by decide) (.slice va m vc) _ _ rfl HOW.out ⟨w1.heap.size, 0, none⟩ 1 1 [.string y.n.t, .int .i64 0, .int .i64 0, .bool y.nx, .bool y.ac] rfl rfl nw (by intro u hu; simp only [List.mem_cons, List.not_mem_nil, or_false] at hu; rcases hu with rfl | rfl | rfl | rfl | rfl <;> rfl) (by unfold maxLen; omega) (by omega) hsz2 ?_
      intro v4 w4 ho4 hg4 _
      have HK4 : Hid (KU 60 (w1.alloc (.cells #[.string y.n.t, .int .i64 0, .int .i64 0, .bool y.nx, .bool y.ac] 60)) w4) := Lib.hid (KU.grown HOW.out hg4)
      have HB4 : Hid (Below w.heap.size w w4) := Lib.hid (HQ2.out.below.grown hg4 hsz2 (fun k hk => (HOW.out.lt k hk).1))
      obtain ⟨va4, vc4, rfl⟩ := cs_own ho4
      have HX4 := Lib.hid (HK4.out.obj HQ2.out.box (by decide))
      have HO4 := Lib.hid (HK4.out.obj HQ2.out.out (by decide))
      have HR4 : Hid (Row rSta 60 5 w.heap.size w4 (.slice va4 (m + 1) vc4) ((x.st.take (n + 1)).map plSta)) := Lib.hid (by
        rw [map_snoc HYY.out]
        refine Row.snoc (cs := [.string y.n.t, .int .i64 0, .int .i64 0, .bool y.nx, .bool y.ac]) (x := plSta y) ?_ (HGS.out.kept (fun _ _ _ h => RF.any h)) rfl (⟨rfl, HYO.out⟩)
        rw [← HMM.out]
        exact ho4)
      have HC4 : Hid (w4.heap[wr.heap.size]? = some (.cells #[.string y.n.t, .int .i64 y.n.l, .int .i64 y.n.c, .bool y.nx, .bool y.ac] 60 (0, 0))) := Lib.hid ((hg4.block _ (CBlk.lt ⟨_, _, HC2.out⟩) (fun e => by have h9 := HOLT.out _ e.symm; exact absurd h9 (Nat.lt_irrefl _))).trans HC2.out)
      clear ho4 hg4 nw
      refine hK.out _ _ (HSW.out _ HB4.out HX4.out HO4.out HC4.out) (fun hH3 => ?_)
      clear hK K
      refine wpB_take (i := 12) (v := .pointer (some ⟨q, 6, none⟩)) [13] rfl (by kernel_rfl) (by kernel_rfl) (by kernel_rfl) (by kernel_rfl) (fun _ _ _ h => h) (Or.inl ⟨by kernel_rfl, fun wS hSw => by (try dsimp only at hSw); go_simp⟩) hH3 ?_
      skip
      have c1 : w4.cell? ⟨q, 6, none⟩ = some (.slice va m vc) := by rw [cell_of_row _ _ 6 _ _ _ HO4.out]; rfl
      have f1 : w4.frozen? ⟨q, 6, none⟩ = false := frozen_of_row _ _ 6 _ _ HO4.out
      refine wpB_past (i := 13) rfl (by kernel_rfl) (by kernel_rfl) (fun K hK => ?_)
      rw [if_pos (by kernel_rfl)]
      go_simp
      refine hK.out _ _ ?_
      clear hK K
      refine wpB_done (by kernel_rfl) ?_ _
      go_simp
      have HP5 := Lib.hid (HQ2.out.put3 HK4.out HB4.out HR4.out)
      go_wp2_with fail
      go_roundw
      case rel => exact ⟨n + 1, _, _, _, _, _, _, by omega, by go_num, HP5⟩
      case measure => simp [intOf] <;> omega

set_option maxHeartbeats 80000000 in
set_option maxRecDepth 1000000 in
theorem tail2 {Y : TyT} {O : Prop} (x : Tr) (w : World) (da : Option Addr) (dc : Nat) (qa : Option Addr) (qc : Nat) (fa : Option Addr) (fc : Nat) (ta : Option Addr) (tc : Nat) (la : Option Addr) (lc : Nat) (xa : Option Addr) (xc : Nat) (g0 : GIn (rDe Y O) Y.de O 4 w da x.ds.length x.ds) (g1 : GIn rQu Y.qu O 5 w qa x.qs.length x.qs) (g2 : GIn rFr Y.fr O 7 w fa x.fs.length x.fs) (g3 : GIn rSta Y.st O 5 w ta x.st.length x.st) (g4 : GIn (rSy Y O) Y.sy O 4 w la x.al.length x.al) (g5 : GIn (rTs Y O) Y.ts O 13 w xa x.ts.length x.ts) (hok : okS x.n.t ∧ okS x.s.t) (hs : SmT x) {q : Nat} {v0 v1 v2 v3 v4 v5 : Value} {wr : World}
    (HP0 : Hid (PlS #[.string x.n.t, .int .i64 x.n.l, .int .i64 x.n.c, .slice da x.ds.length dc, .slice qa x.qs.length qc, .slice fa x.fs.length fc, .slice ta x.st.length tc, .string x.s.t, .int .i64 x.s.l, .int .i64 x.s.c, .slice la x.al.length lc, .slice xa x.ts.length xc] w x q v0 v1 v2 v3 v4 v5 (x.ds.map plDe) (x.qs.map plQu) [] [] [] [] wr)) {s0 s4 s5 s6 s7 s8 s9 s10 s11 s12 s13 s14 s15 s16 s17 s18 s19 s20 s21 s22 s23 s24 s25 s26 s27 s28 s29 s30 s31 s32 s33 s34 s35 s36 s37 s38 s39 s40 s41 s42 s43 s44 s45 s46 s47 s48 s49 s50 s51 s52 s53 s54 s55 s56 s57 s58 s59 s60 s61 s62 s63 s64 s65 s66 s67 s68 s69 s70 s71 s72 s73 s74 s75 s76 s77 s78 s79 s80 s81 s82 s83 s84 s85 s86 s87 s88 s89 s90 s91 s92 s93 s94 s95 s96 s97 s98 s99 s100 s101 s102 s103 s104 s105 s106 s107 s108 s109 s110 s111 s112 s113 s114 s115 s116 s117 s118 s119 s120 s121 s122 s123 s124 s125 s126 s127 s128 s129 s130 s131 s132 s133 s134 s135 s136 s137 s138 s139 s140 s141 s142 s143 s144 s145 s146 s147 s148 s149 s150 s151 s152 s153 s154 s155 s156 s157 s158 s159 s160 s161 s162 s163 s164 s165 s166 s167 s168 s169 s170 s171 s172 s173 s174 s175 s176 s177 s178 s179 s180 s181 s182 s183 s184 s185 s186 s187 s188 s189 s190 s191 s192 s193 s194 s195 s196 s197 s198 s199 s200 s201 s202 s203 s204 s205 s206 s207 s208 s209 s210 s211 s212 s213 s214 s215 s216 s217 s218 s219 s220 s221 s222 s223 s224 s225 s226 s227 s228 s229 s230 : Value} : Code.wp Tryz.prog (dropSeq 4 (Tryz.f10.body.getD .skip)) (bodyPost Tryz.prog Tryz.f10 (MadeTr (plT x) w)) ⟨#[s0, .pointer (some ⟨w.heap.size, 0, none⟩), .pointer (some ⟨w.heap.size + 1, 0, none⟩), .pointer (some ⟨q, 0, none⟩), s4, s5, s6, s7, s8, s9, s10, s11, s12, s13, s14, s15, s16, s17, s18, s19, s20, s21, s22, s23, s24, s25, s26, s27, s28, s29, s30, s31, s32, s33, s34, s35, s36, s37, s38, s39, s40, s41, s42, s43, s44, s45, s46, s47, s48, s49, s50, s51, s52, s53, s54, s55, s56, s57, s58, s59, s60, s61, s62, s63, s64, s65, s66, s67, s68, s69, s70, s71, s72, s73, s74, s75, s76, s77, s78, s79, s80, s81, s82, s83, s84, s85, s86, s87, s88, s89, s90, s91, s92, s93, s94, s95, s96, s97, s98, s99, s100, s101, s102, s103, s104, s105, s106, s107, s108, s109, s110, s111, s112, s113, s114, s115, s116, s117, s118, s119, s120, s121, s122, s123, s124, s125, s126, s127, s128, s129, s130, s131, s132, s133, s134, s135, s136, s137, s138, s139, s140, s141, s142, s143, s144, s145, s146, s147, s148, s149, s150, s151, s152, s153, s154, s155, s156, s157, s158, s159, s160, s161, s162, s163, s164, s165, s166, s167, s168, s169, s170, s171, s172, s173, s174, s175, s176, s177, s178, s179, s180, s181, s182, s183, s184, s185, s186, s187, s188, s189, s190, s191, s192, s193, s194, s195, s196, s197, s198, s199, s200, s201, s202, s203, s204, s205, s206, s207, s208, s209, s210, s211, s212, s213, s214, s215, s216, s217, s218, s219, s220, s221, s222, s223, s224, s225, s226, s227, s228, s229, s230], []⟩ wr := by
  have HOK := Lib.hid hok
  have HSM := Lib.hid hs
  have HN := Lib.hid (fun (z : Id3) w1 => ident_calls z w1)
  have s_0 := g0.small
  have G0 := Lib.hid g0
  have l0 := hs.l0
  have s_1 := g1.small
  have G1 := Lib.hid g1
  have l1 := hs.l1
  have s_2 := g2.small
  have G2 := Lib.hid g2
  have l2 := hs.l2
  have s_3 := g3.small
  have G3 := Lib.hid g3
  have l3 := hs.l3
  have s_4 := g4.small
  have G4 := Lib.hid g4
  have l4 := hs.l4
  have s_5 := g5.small
  have G5 := Lib.hid g5
  have l5 := hs.l5
  obtain ⟨i0De, hi, hz0, hz1, hz2⟩ := info_parts infoDe
  have HIDe := Lib.hid hi
  have HZ0De := Lib.hid hz0
  have HZ1De := Lib.hid hz1
  have HZ2De := Lib.hid hz2
  clear hi hz0 hz1 hz2
  obtain ⟨i0Qu, hi, hz0, hz1, hz2⟩ := info_parts infoQu
  have HIQu := Lib.hid hi
  have HZ0Qu := Lib.hid hz0
  have HZ1Qu := Lib.hid hz1
  have HZ2Qu := Lib.hid hz2
  clear hi hz0 hz1 hz2
  obtain ⟨i0Fr, hi, hz0, hz1, hz2⟩ := info_parts infoFr
  have HIFr := Lib.hid hi
  have HZ0Fr := Lib.hid hz0
  have HZ1Fr := Lib.hid hz1
  have HZ2Fr := Lib.hid hz2
  clear hi hz0 hz1 hz2
  obtain ⟨i0Sta, hi, hz0, hz1, hz2⟩ := info_parts infoSta
  have HISta := Lib.hid hi
  have HZ0Sta := Lib.hid hz0
  have HZ1Sta := Lib.hid hz1
  have HZ2Sta := Lib.hid hz2
  clear hi hz0 hz1 hz2
  obtain ⟨i0Sy, hi, hz0, hz1, hz2⟩ := info_parts infoSy
  have HISy := Lib.hid hi
  have HZ0Sy := Lib.hid hz0
  have HZ1Sy := Lib.hid hz1
  have HZ2Sy := Lib.hid hz2
  clear hi hz0 hz1 hz2
  obtain ⟨i0Ts, hi, hz0, hz1, hz2⟩ := info_parts infoTs
  have HITs := Lib.hid hi
  have HZ0Ts := Lib.hid hz0
  have HZ1Ts := Lib.hid hz1
  have HZ2Ts := Lib.hid hz2
  clear hi hz0 hz1 hz2
  obtain ⟨i0Ex, hi, hz0, hz1, hz2⟩ := info_parts infoEx
  have HIEx := Lib.hid hi
  have HZ0Ex := Lib.hid hz0
  have HZ1Ex := Lib.hid hz1
  have HZ2Ex := Lib.hid hz2
  clear hi hz0 hz1 hz2
  obtain ⟨i0Se, hi, hz0, hz1, hz2⟩ := info_parts infoSe
  have HISe := Lib.hid hi
  have HZ0Se := Lib.hid hz0
  have HZ1Se := Lib.hid hz1
  have HZ2Se := Lib.hid hz2
  clear hi hz0 hz1 hz2
  obtain ⟨i0Int, hi, hz0, hz1, hz2⟩ := info_parts infoInt
  have HIInt := Lib.hid hi
  have HZ0Int := Lib.hid hz0
  have HZ1Int := Lib.hid hz1
  have HZ2Int := Lib.hid hz2
  clear hi hz0 hz1 hz2
  clear g0 g1 g2 g3 g4 g5 hok hs
  conv => arg 2; whnf
  go_wp2_with fail
  rename_i hcont
  have HCONT := Lib.hid hcont
  clear hcont
  go_loopw [7] (fun i wr => ∃ (n : Nat) (v0 v1 v2 v3 v4 v5 : Value), n ≤ x.fs.length ∧ i = .int .i64 n ∧ Hid (PlS #[.string x.n.t, .int .i64 x.n.l, .int .i64 x.n.c, .slice da x.ds.length dc, .slice qa x.qs.length qc, .slice fa x.fs.length fc, .slice ta x.st.length tc, .string x.s.t, .int .i64 x.s.l, .int .i64 x.s.c, .slice la x.al.length lc, .slice xa x.ts.length xc] w x q v0 v1 v2 v3 v4 v5 (x.ds.map plDe) (x.qs.map plQu) ((x.fs.take n).map plFr) [] [] [] wr)) (fun i _ => x.fs.length - (intOf i).toNat)
  case atStart => exact ⟨0, _, _, _, _, _, _, Nat.zero_le _, rfl, Lib.hid HP0.out⟩
  case round =>
    obtain ⟨n, v0, v1, v2, v3, v4, v5, hn, rfl, HP⟩ := hrel
    have zb : wr.cell? ⟨w.heap.size, 5, none⟩ = some (.slice fa x.fs.length fc) := by rw [cell_of_row _ _ 5 _ _ _ HP.out.box]; rfl
    by_cases h : n < x.fs.length
    case neg =>
      have HPn : Hid (PlS #[.string x.n.t, .int .i64 x.n.l, .int .i64 x.n.c, .slice da x.ds.length dc, .slice qa x.qs.length qc, .slice fa x.fs.length fc, .slice ta x.st.length tc, .string x.s.t, .int .i64 x.s.l, .int .i64 x.s.c, .slice la x.al.length lc, .slice xa x.ts.length xc] w x q v0 v1 v2 v3 v4 v5 (x.ds.map plDe) (x.qs.map plQu) (x.fs.map plFr) [] [] [] wr) := Lib.hid (by have := HP.out; rwa [List.take_of_length_le (by omega)] at this)
      go_wp2_with fail
      refine HCONT.out _ _ ?_
      exact tail3 x w da dc qa qc fa fc ta tc la lc xa xc G0.out G1.out G2.out G3.out G4.out G5.out HOK.out HSM.out HPn
    case pos =>
      obtain ⟨y, hy⟩ := at_some (L := x.fs) rfl h
      have HYY := Lib.hid hy
      obtain ⟨g, off, rfl, hg, hc, hyo⟩ := G2.out.flat hy
      have HYO := Lib.hid hyo
      have c0_ : w.cell? ⟨g, off + n * 7, none⟩ = some (.string y.n.t) := hc 0 _ rfl
      have c1_ : w.cell? ⟨g, off + n * 7 + 1, none⟩ = some (.int .i64 y.n.l) := hc 1 _ rfl
      have c2_ : w.cell? ⟨g, off + n * 7 + 2, none⟩ = some (.int .i64 y.n.c) := hc 2 _ rfl
      have c3_ : w.cell? ⟨g, off + n * 7 + 3, none⟩ = some (.int .i64 y.v.k) := hc 3 _ rfl
      have c4_ : w.cell? ⟨g, off + n * 7 + 4, none⟩ = some (.int .i64 y.v.i) := hc 4 _ rfl
      have c5_ : w.cell? ⟨g, off + n * 7 + 5, none⟩ = some (.string y.v.s) := hc 5 _ rfl
      have c6_ : w.cell? ⟨g, off + n * 7 + 6, none⟩ = some (.bool y.v.b) := hc 6 _ rfl
      obtain ⟨va, vc, rfl⟩ := HP.out.r2.slice
      obtain ⟨m, hm⟩ : ∃ m, m = ((x.fs.take n).map plFr).length := ⟨_, rfl⟩
      have hmn := take_le l2 hm
      have HML := Lib.hid (row_len hy hm)
      rw [← hm] at HP
      have HMM := Lib.hid hm
      have HOLT : Hid (∀ k, (Value.slice va m vc).ownBlock = some k → k < wr.heap.size) := Lib.hid (fun k hk => by obtain ⟨css, ho, _⟩ := HP.out.r2; rw [← hm] at ho; exact (ho.lt k hk).2)
      have HSW : Hid (∀ W, Below w.heap.size w W → W.heap[w.heap.size]? = some (.cells #[.string x.n.t, .int .i64 x.n.l, .int .i64 x.n.c, .slice da x.ds.length dc, .slice qa x.qs.length qc, .slice (some ⟨g, off, none⟩) x.fs.length fc, .slice ta x.st.length tc, .string x.s.t, .int .i64 x.s.l, .int .i64 x.s.c, .slice la x.al.length lc, .slice xa x.ts.length xc] 31 (0, 0)) → W.heap[q]? = some (.cells (TC x v0 v1 (.slice va m vc) v3 v4 v5) 31 (0, 0)) → (W.cell? ⟨w.heap.size, 5, none⟩ = some (.slice (some ⟨g, off, none⟩) x.fs.length fc) ∧ W.cell? ⟨q, 5, none⟩ = some (.slice va m vc) ∧ W.cell? ⟨g, off + n * 7, none⟩ = some (.string y.n.t) ∧ W.cell? ⟨g, off + n * 7 + 1, none⟩ = some (.int .i64 y.n.l) ∧ W.cell? ⟨g, off + n * 7 + 2, none⟩ = some (.int .i64 y.n.c) ∧ W.cell? ⟨g, off + n * 7 + 3, none⟩ = some (.int .i64 y.v.k) ∧ W.cell? ⟨g, off + n * 7 + 4, none⟩ = some (.int .i64 y.v.i) ∧ W.cell? ⟨g, off + n * 7 + 5, none⟩ = some (.string y.v.s) ∧ W.cell? ⟨g, off + n * 7 + 6, none⟩ = some (.bool y.v.b))) := Lib.hid (fun W hb h1 h2 => ⟨by rw [cell_of_row _ _ 5 _ _ _ h1]; rfl, by rw [cell_of_row _ _ 5 _ _ _ h2]; rfl, (hb.cell (p := ⟨g, off + n * 7, none⟩) hg).trans c0_, (hb.cell (p := ⟨g, off + n * 7 + 1, none⟩) hg).trans c1_, (hb.cell (p := ⟨g, off + n * 7 + 2, none⟩) hg).trans c2_, (hb.cell (p := ⟨g, off + n * 7 + 3, none⟩) hg).trans c3_, (hb.cell (p := ⟨g, off + n * 7 + 4, none⟩) hg).trans c4_, (hb.cell (p := ⟨g, off + n * 7 + 5, none⟩) hg).trans c5_, (hb.cell (p := ⟨g, off + n * 7 + 6, none⟩) hg).trans c6_⟩)
      have HQ0 := Lib.hid (HP.out.below' ((Below.refl wr.heap.size wr).drew))
      clear hc hy hyo hm c0_ c1_ c2_ c3_ c4_ c5_ c6_
      go_wp2_with fail
      clear zb
      refine wp_region_B (S := (fun W => W.cell? ⟨w.heap.size, 5, none⟩ = some (.slice (some ⟨g, off, none⟩) x.fs.length fc) ∧ W.cell? ⟨q, 5, none⟩ = some (.slice va m vc) ∧ W.cell? ⟨g, off + n * 7, none⟩ = some (.string y.n.t) ∧ W.cell? ⟨g, off + n * 7 + 1, none⟩ = some (.int .i64 y.n.l) ∧ W.cell? ⟨g, off + n * 7 + 2, none⟩ = some (.int .i64 y.n.c) ∧ W.cell? ⟨g, off + n * 7 + 3, none⟩ = some (.int .i64 y.v.k) ∧ W.cell? ⟨g, off + n * 7 + 4, none⟩ = some (.int .i64 y.v.i) ∧ W.cell? ⟨g, off + n * 7 + 5, none⟩ = some (.string y.v.s) ∧ W.cell? ⟨g, off + n * 7 + 6, none⟩ = some (.bool y.v.b))) [19] (by kernel_rfl) (HSW.out _ HQ0.out.below HQ0.out.box HQ0.out.out) (fun hH0 => ?_)
      refine wpB_take (i := 0) (v := .pointer (some ⟨q, 5, none⟩)) [19] rfl (by kernel_rfl) (by kernel_rfl) (by kernel_rfl) (by kernel_rfl) (fun _ _ _ h => h) (Or.inl ⟨by kernel_rfl, fun wS hSw => by (try dsimp only at hSw); go_simp⟩) hH0 ?_
      refine wpB_take (i := 1) (v := .slice va m vc) [19] rfl (by kernel_rfl) (by kernel_rfl) (by kernel_rfl) (by kernel_rfl) (fun _ _ _ h => h) (Or.inl ⟨by kernel_rfl, fun wS hSw => by (try dsimp only at hSw); go_simp⟩) hH0 ?_
      refine wpB_take (i := 2) (v := .pointer (some ⟨w.heap.size, 5, none⟩)) [19] rfl (by kernel_rfl) (by kernel_rfl) (by kernel_rfl) (by kernel_rfl) (fun _ _ _ h => h) (Or.inl ⟨by kernel_rfl, fun wS hSw => by (try dsimp only at hSw); go_simp⟩) hH0 ?_
      refine wpB_take (i := 3) (v := .slice (some ⟨g, off, none⟩) x.fs.length fc) [19] rfl (by kernel_rfl) (by kernel_rfl) (by kernel_rfl) (by kernel_rfl) (fun _ _ _ h => h) (Or.inl ⟨by kernel_rfl, fun wS hSw => by (try dsimp only at hSw); go_simp⟩) hH0 ?_
      refine wpB_take (i := 4) (v := .int .i64 (n : Nat)) [19] rfl (by kernel_rfl) (by kernel_rfl) (by kernel_rfl) (by kernel_rfl) (fun _ _ _ h => h) (Or.inl ⟨by kernel_rfl, fun wS hSw => by (try dsimp only at hSw); go_simp⟩) hH0 ?_
      refine wpB_take (i := 5) (v := .pointer (some ⟨g, off + n * 7, none⟩)) [19] rfl (by kernel_rfl) (by kernel_rfl) (by kernel_rfl) (by kernel_rfl) (fun _ _ _ h => h) (Or.inl ⟨by kernel_rfl, fun wS hSw => by (try dsimp only at hSw); go_simp⟩) hH0 ?_
      refine wpB_take (i := 6) (v := .pointer (some ⟨g, off + n * 7, none⟩)) [19] rfl (by kernel_rfl) (by kernel_rfl) (by kernel_rfl) (by kernel_rfl) (fun _ _ _ h => h) (Or.inl ⟨by kernel_rfl, fun wS hSw => by (try dsimp only at hSw); go_simp⟩) hH0 ?_
      refine wpB_take (i := 7) (v := .agg #[.string y.n.t, .int .i64 y.n.l, .int .i64 y.n.c]) [19] rfl (by kernel_rfl) (by kernel_rfl) (by kernel_rfl) (by kernel_rfl) (fun _ _ _ h => h) (Or.inl ⟨by kernel_rfl, fun wS hSw => by (try dsimp only at hSw); go_simp⟩) hH0 ?_
      refine wpB_take (i := 9) (v := .pointer (some ⟨w.heap.size, 5, none⟩)) [19] rfl (by kernel_rfl) (by kernel_rfl) (by kernel_rfl) (by kernel_rfl) (fun _ _ _ h => h) (Or.inl ⟨by kernel_rfl, fun wS hSw => by (try dsimp only at hSw); go_simp⟩) hH0 ?_
      refine wpB_take (i := 10) (v := .slice (some ⟨g, off, none⟩) x.fs.length fc) [19] rfl (by kernel_rfl) (by kernel_rfl) (by kernel_rfl) (by kernel_rfl) (fun _ _ _ h => h) (Or.inl ⟨by kernel_rfl, fun wS hSw => by (try dsimp only at hSw); go_simp⟩) hH0 ?_
      refine wpB_take (i := 11) (v := .int .i64 (n : Nat)) [19] rfl (by kernel_rfl) (by kernel_rfl) (by kernel_rfl) (by kernel_rfl) (fun _ _ _ h => h) (Or.inl ⟨by kernel_rfl, fun wS hSw => by (try dsimp only at hSw); go_simp⟩) hH0 ?_
      refine wpB_take (i := 12) (v := .pointer (some ⟨g, off + n * 7, none⟩)) [19] rfl (by kernel_rfl) (by kernel_rfl) (by kernel_rfl) (by kernel_rfl) (fun _ _ _ h => h) (Or.inl ⟨by kernel_rfl, fun wS hSw => by (try dsimp only at hSw); go_simp⟩) hH0 ?_
      refine wpB_take (i := 13) (v := .pointer (some ⟨g, off + n * 7 + 3, none⟩)) [19] rfl (by kernel_rfl) (by kernel_rfl) (by kernel_rfl) (by kernel_rfl) (fun _ _ _ h => h) (Or.inl ⟨by kernel_rfl, fun wS hSw => by (try dsimp only at hSw); go_simp⟩) hH0 ?_
      refine wpB_take (i := 14) (v := .agg #[.int .i64 y.v.k, .int .i64 y.v.i, .string y.v.s, .bool y.v.b]) [19] rfl (by kernel_rfl) (by kernel_rfl) (by kernel_rfl) (by kernel_rfl) (fun _ _ _ h => h) (Or.inl ⟨by kernel_rfl, fun wS hSw => by (try dsimp only at hSw); go_simp⟩) hH0 ?_
      refine wpB_step (i := 8) rfl (by kernel_rfl) (fun K hK => ?_)
      rw [if_pos (by kernel_rfl)]
      go_simp
      refine (HN.out y.n _).mono ?_
      rintro e w1 ⟨rfl, k⟩
      have HQ1 := Lib.hid (HQ0.out.below' k)
      clear k
      refine hK.out _ _ (HSW.out _ HQ1.out.below HQ1.out.box HQ1.out.out) (fun hH1 => ?_)
      clear hK K
      refine wpB_take (i := 15) (v := .agg #[.string y.n.t, .int .i64 0, .int .i64 0, .int .i64 y.v.k, .int .i64 y.v.i, .string y.v.s, .bool y.v.b]) [19] rfl (by kernel_rfl) (by kernel_rfl) (by kernel_rfl) (by kernel_rfl) (fun _ _ _ h => h) (Or.inl ⟨by kernel_rfl, fun wS hSw => by (try dsimp only at hSw); go_simp⟩) hH1 ?_
      have HQ2 := Lib.hid (HQ1.out.below' ((Below.refl w1.heap.size w1).alloc (Nat.le_refl _) (.cells #[.string y.n.t, .int .i64 0, .int .i64 0, .int .i64 y.v.k, .int .i64 y.v.i, .string y.v.s, .bool y.v.b] 43)))
      refine wpB_step (i := 16) rfl (by kernel_rfl) (fun K hK => ?_)
      rw [if_pos (by kernel_rfl)]
      go_simp
      refine hK.out _ _ (HSW.out _ HQ2.out.below HQ2.out.box HQ2.out.out) (fun hH2 => ?_)
      clear hK K
      obtain ⟨css, ho, hgs⟩ := HQ2.out.r2
      rw [← HMM.out] at ho
      have HOW := Lib.hid ho
      have HGS := Lib.hid hgs
      clear ho hgs
      have nw := new_cells w1 [.string y.n.t, .int .i64 0, .int .i64 0, .int .i64 y.v.k, .int .i64 y.v.i, .string y.v.s, .bool y.v.b] 43
      have hsz2 := HQ2.out.below.size
      refine wpB_step (i := 17) rfl (by kernel_rfl) (fun K hK => ?_)
      rw [if_pos (by kernel_rfl)]
      refine wp_append_own (w1.alloc (.cells #[.string y.n.t, .int .i64 0, .int .i64 0, .int .i64 y.v.k, .int .i64 y.v.i, .string y.v.s, .bool y.v.b] 43)) _ _ 26 rfl w.heap.size 43 i0Fr _ 7 72 Tryz.underlying26 HIFr.out HZ0Fr.out HZ1Fr.out HZ2Fr.out rfl (by decide) (.slice va m vc) _ _ rfl HOW.out ⟨w1.heap.size, 0, none⟩ 1 1 [.string y.n.t, .int .i64 0, .int .i64 0, .int .i64 y.v.k, .int .i64 y.v.i, .string y.v.s, .bool y.v.b] rfl rfl nw (by intro u hu; simp only [List.mem_cons, List.not_mem_nil, or_false] at hu; rcases hu with rfl | rfl | rfl | rfl | rfl | rfl | rfl <;> rfl) (by unfold maxLen; omega) (by omega) hsz2 ?_
      intro v4 w4 ho4 hg4 _
      have HK4 : Hid (KU 43 (w1.alloc (.cells #[.string y.n.t, .int .i64 0, .int .i64 0, .int .i64 y.v.k, .int .i64 y.v.i, .string y.v.s, .bool y.v.b] 43)) w4) := Lib.hid (KU.grown HOW.out hg4)
      have HB4 : Hid (Below w.heap.size w w4) := Lib.hid (HQ2.out.below.grown hg4 hsz2 (fun k hk => (HOW.out.lt k hk).1))
      obtain ⟨va4, vc4, rfl⟩ := cs_own ho4
      have HX4 := Lib.hid (HK4.out.obj HQ2.out.box (by decide))
      have HO4 := Lib.hid (HK4.out.obj HQ2.out.out (by decide))
      have HR4 : Hid (Row rFr 43 7 w.heap.size w4 (.slice va4 (m + 1) vc4) ((x.fs.take (n + 1)).map plFr)) := Lib.hid (by
        rw [map_snoc HYY.out]
        refine Row.snoc (cs := [.string y.n.t, .int .i64 0, .int .i64 0, .int .i64 y.v.k, .int .i64 y.v.i, .string y.v.s, .bool y.v.b]) (x := plFr y) ?_ (HGS.out.kept (fun _ _ _ h => RF.any h)) rfl (⟨rfl, HYO.out⟩)
        rw [← HMM.out]
        exact ho4)
      clear ho4 hg4 nw
      refine hK.out _ _ (HSW.out _ HB4.out HX4.out HO4.out) (fun hH3 => ?_)
      clear hK K
      refine wpB_take (i := 18) (v := .pointer (some ⟨q, 5, none⟩)) [19] rfl (by kernel_rfl) (by kernel_rfl) (by kernel_rfl) (by kernel_rfl) (fun _ _ _ h => h) (Or.inl ⟨by kernel_rfl, fun wS hSw => by (try dsimp only at hSw); go_simp⟩) hH3 ?_
      skip
      have c1 : w4.cell? ⟨q, 5, none⟩ = some (.slice va m vc) := by rw [cell_of_row _ _ 5 _ _ _ HO4.out]; rfl
      have f1 : w4.frozen? ⟨q, 5, none⟩ = false := frozen_of_row _ _ 5 _ _ HO4.out
      refine wpB_past (i := 19) rfl (by kernel_rfl) (by kernel_rfl) (fun K hK => ?_)
      rw [if_pos (by kernel_rfl)]
      go_simp
      refine hK.out _ _ ?_
      clear hK K
      refine wpB_done (by kernel_rfl) ?_ _
      go_simp
      have HP5 := Lib.hid (HQ2.out.put2 HK4.out HB4.out HR4.out)
      go_wp2_with fail
      go_roundw
      case rel => exact ⟨n + 1, _, _, _, _, _, _, by omega, by go_num, HP5⟩
      case measure => simp [intOf] <;> omega

set_option maxHeartbeats 80000000 in
set_option maxRecDepth 1000000 in
theorem tail1 {Y : TyT} {O : Prop} (x : Tr) (w : World) (da : Option Addr) (dc : Nat) (qa : Option Addr) (qc : Nat) (fa : Option Addr) (fc : Nat) (ta : Option Addr) (tc : Nat) (la : Option Addr) (lc : Nat) (xa : Option Addr) (xc : Nat) (g0 : GIn (rDe Y O) Y.de O 4 w da x.ds.length x.ds) (g1 : GIn rQu Y.qu O 5 w qa x.qs.length x.qs) (g2 : GIn rFr Y.fr O 7 w fa x.fs.length x.fs) (g3 : GIn rSta Y.st O 5 w ta x.st.length x.st) (g4 : GIn (rSy Y O) Y.sy O 4 w la x.al.length x.al) (g5 : GIn (rTs Y O) Y.ts O 13 w xa x.ts.length x.ts) (hok : okS x.n.t ∧ okS x.s.t) (hs : SmT x) {q : Nat} {v0 v1 v2 v3 v4 v5 : Value} {wr : World}
    (HP0 : Hid (PlS #[.string x.n.t, .int .i64 x.n.l, .int .i64 x.n.c, .slice da x.ds.length dc, .slice qa x.qs.length qc, .slice fa x.fs.length fc, .slice ta x.st.length tc, .string x.s.t, .int .i64 x.s.l, .int .i64 x.s.c, .slice la x.al.length lc, .slice xa x.ts.length xc] w x q v0 v1 v2 v3 v4 v5 (x.ds.map plDe) [] [] [] [] [] wr)) {s0 s4 s5 s6 s7 s8 s9 s10 s11 s12 s13 s14 s15 s16 s17 s18 s19 s20 s21 s22 s23 s24 s25 s26 s27 s28 s29 s30 s31 s32 s33 s34 s35 s36 s37 s38 s39 s40 s41 s42 s43 s44 s45 s46 s47 s48 s49 s50 s51 s52 s53 s54 s55 s56 s57 s58 s59 s60 s61 s62 s63 s64 s65 s66 s67 s68 s69 s70 s71 s72 s73 s74 s75 s76 s77 s78 s79 s80 s81 s82 s83 s84 s85 s86 s87 s88 s89 s90 s91 s92 s93 s94 s95 s96 s97 s98 s99 s100 s101 s102 s103 s104 s105 s106 s107 s108 s109 s110 s111 s112 s113 s114 s115 s116 s117 s118 s119 s120 s121 s122 s123 s124 s125 s126 s127 s128 s129 s130 s131 s132 s133 s134 s135 s136 s137 s138 s139 s140 s141 s142 s143 s144 s145 s146 s147 s148 s149 s150 s151 s152 s153 s154 s155 s156 s157 s158 s159 s160 s161 s162 s163 s164 s165 s166 s167 s168 s169 s170 s171 s172 s173 s174 s175 s176 s177 s178 s179 s180 s181 s182 s183 s184 s185 s186 s187 s188 s189 s190 s191 s192 s193 s194 s195 s196 s197 s198 s199 s200 s201 s202 s203 s204 s205 s206 s207 s208 s209 s210 s211 s212 s213 s214 s215 s216 s217 s218 s219 s220 s221 s222 s223 s224 s225 s226 s227 s228 s229 s230 : Value} : Code.wp Tryz.prog (dropSeq 3 (Tryz.f10.body.getD .skip)) (bodyPost Tryz.prog Tryz.f10 (MadeTr (plT x) w)) ⟨#[s0, .pointer (some ⟨w.heap.size, 0, none⟩), .pointer (some ⟨w.heap.size + 1, 0, none⟩), .pointer (some ⟨q, 0, none⟩), s4, s5, s6, s7, s8, s9, s10, s11, s12, s13, s14, s15, s16, s17, s18, s19, s20, s21, s22, s23, s24, s25, s26, s27, s28, s29, s30, s31, s32, s33, s34, s35, s36, s37, s38, s39, s40, s41, s42, s43, s44, s45, s46, s47, s48, s49, s50, s51, s52, s53, s54, s55, s56, s57, s58, s59, s60, s61, s62, s63, s64, s65, s66, s67, s68, s69, s70, s71, s72, s73, s74, s75, s76, s77, s78, s79, s80, s81, s82, s83, s84, s85, s86, s87, s88, s89, s90, s91, s92, s93, s94, s95, s96, s97, s98, s99, s100, s101, s102, s103, s104, s105, s106, s107, s108, s109, s110, s111, s112, s113, s114, s115, s116, s117, s118, s119, s120, s121, s122, s123, s124, s125, s126, s127, s128, s129, s130, s131, s132, s133, s134, s135, s136, s137, s138, s139, s140, s141, s142, s143, s144, s145, s146, s147, s148, s149, s150, s151, s152, s153, s154, s155, s156, s157, s158, s159, s160, s161, s162, s163, s164, s165, s166, s167, s168, s169, s170, s171, s172, s173, s174, s175, s176, s177, s178, s179, s180, s181, s182, s183, s184, s185, s186, s187, s188, s189, s190, s191, s192, s193, s194, s195, s196, s197, s198, s199, s200, s201, s202, s203, s204, s205, s206, s207, s208, s209, s210, s211, s212, s213, s214, s215, s216, s217, s218, s219, s220, s221, s222, s223, s224, s225, s226, s227, s228, s229, s230], []⟩ wr := by
  have HOK := Lib.hid hok
  have HSM := Lib.hid hs
  have HN := Lib.hid (fun (z : Id3) w1 => ident_calls z w1)
  have s_0 := g0.small
  have G0 := Lib.hid g0
  have l0 := hs.l0
  have s_1 := g1.small
  have G1 := Lib.hid g1
  have l1 := hs.l1
  have s_2 := g2.small
  have G2 := Lib.hid g2
  have l2 := hs.l2
  have s_3 := g3.small
  have G3 := Lib.hid g3
  have l3 := hs.l3
  have s_4 := g4.small
  have G4 := Lib.hid g4
  have l4 := hs.l4
  have s_5 := g5.small
  have G5 := Lib.hid g5
  have l5 := hs.l5
  obtain ⟨i0De, hi, hz0, hz1, hz2⟩ := info_parts infoDe
  have HIDe := Lib.hid hi
  have HZ0De := Lib.hid hz0
  have HZ1De := Lib.hid hz1
  have HZ2De := Lib.hid hz2
  clear hi hz0 hz1 hz2
  obtain ⟨i0Qu, hi, hz0, hz1, hz2⟩ := info_parts infoQu
  have HIQu := Lib.hid hi
  have HZ0Qu := Lib.hid hz0
  have HZ1Qu := Lib.hid hz1
  have HZ2Qu := Lib.hid hz2
  clear hi hz0 hz1 hz2
  obtain ⟨i0Fr, hi, hz0, hz1, hz2⟩ := info_parts infoFr
  have HIFr := Lib.hid hi
  have HZ0Fr := Lib.hid hz0
  have HZ1Fr := Lib.hid hz1
  have HZ2Fr := Lib.hid hz2
  clear hi hz0 hz1 hz2
  obtain ⟨i0Sta, hi, hz0, hz1, hz2⟩ := info_parts infoSta
  have HISta := Lib.hid hi
  have HZ0Sta := Lib.hid hz0
  have HZ1Sta := Lib.hid hz1
  have HZ2Sta := Lib.hid hz2
  clear hi hz0 hz1 hz2
  obtain ⟨i0Sy, hi, hz0, hz1, hz2⟩ := info_parts infoSy
  have HISy := Lib.hid hi
  have HZ0Sy := Lib.hid hz0
  have HZ1Sy := Lib.hid hz1
  have HZ2Sy := Lib.hid hz2
  clear hi hz0 hz1 hz2
  obtain ⟨i0Ts, hi, hz0, hz1, hz2⟩ := info_parts infoTs
  have HITs := Lib.hid hi
  have HZ0Ts := Lib.hid hz0
  have HZ1Ts := Lib.hid hz1
  have HZ2Ts := Lib.hid hz2
  clear hi hz0 hz1 hz2
  obtain ⟨i0Ex, hi, hz0, hz1, hz2⟩ := info_parts infoEx
  have HIEx := Lib.hid hi
  have HZ0Ex := Lib.hid hz0
  have HZ1Ex := Lib.hid hz1
  have HZ2Ex := Lib.hid hz2
  clear hi hz0 hz1 hz2
  obtain ⟨i0Se, hi, hz0, hz1, hz2⟩ := info_parts infoSe
  have HISe := Lib.hid hi
  have HZ0Se := Lib.hid hz0
  have HZ1Se := Lib.hid hz1
  have HZ2Se := Lib.hid hz2
  clear hi hz0 hz1 hz2
  obtain ⟨i0Int, hi, hz0, hz1, hz2⟩ := info_parts infoInt
  have HIInt := Lib.hid hi
  have HZ0Int := Lib.hid hz0
  have HZ1Int := Lib.hid hz1
  have HZ2Int := Lib.hid hz2
  clear hi hz0 hz1 hz2
  clear g0 g1 g2 g3 g4 g5 hok hs
  conv => arg 2; whnf
  go_wp2_with fail
  rename_i hcont
  have HCONT := Lib.hid hcont
  clear hcont
  go_loopw [5] (fun i wr => ∃ (n : Nat) (v0 v1 v2 v3 v4 v5 : Value), n ≤ x.qs.length ∧ i = .int .i64 n ∧ Hid (PlS #[.string x.n.t, .int .i64 x.n.l, .int .i64 x.n.c, .slice da x.ds.length dc, .slice qa x.qs.length qc, .slice fa x.fs.length fc, .slice ta x.st.length tc, .string x.s.t, .int .i64 x.s.l, .int .i64 x.s.c, .slice la x.al.length lc, .slice xa x.ts.length xc] w x q v0 v1 v2 v3 v4 v5 (x.ds.map plDe) ((x.qs.take n).map plQu) [] [] [] [] wr)) (fun i _ => x.qs.length - (intOf i).toNat)
  case atStart => exact ⟨0, _, _, _, _, _, _, Nat.zero_le _, rfl, Lib.hid HP0.out⟩
  case round =>
    obtain ⟨n, v0, v1, v2, v3, v4, v5, hn, rfl, HP⟩ := hrel
    have zb : wr.cell? ⟨w.heap.size, 4, none⟩ = some (.slice qa x.qs.length qc) := by rw [cell_of_row _ _ 4 _ _ _ HP.out.box]; rfl
    by_cases h : n < x.qs.length
    case neg =>
      have HPn : Hid (PlS #[.string x.n.t, .int .i64 x.n.l, .int .i64 x.n.c, .slice da x.ds.length dc, .slice qa x.qs.length qc, .slice fa x.fs.length fc, .slice ta x.st.length tc, .string x.s.t, .int .i64 x.s.l, .int .i64 x.s.c, .slice la x.al.length lc, .slice xa x.ts.length xc] w x q v0 v1 v2 v3 v4 v5 (x.ds.map plDe) (x.qs.map plQu) [] [] [] [] wr) := Lib.hid (by have := HP.out; rwa [List.take_of_length_le (by omega)] at this)
      go_wp2_with fail
      refine HCONT.out _ _ ?_
      exact tail2 x w da dc qa qc fa fc ta tc la lc xa xc G0.out G1.out G2.out G3.out G4.out G5.out HOK.out HSM.out HPn
    case pos =>
      obtain ⟨y, hy⟩ := at_some (L := x.qs) rfl h
      have HYY := Lib.hid hy
      obtain ⟨g, off, rfl, hg, hc, hyo⟩ := G1.out.flat hy
      have HYO := Lib.hid hyo
      have c0_ : w.cell? ⟨g, off + n * 5, none⟩ = some (.bool y.all) := hc 0 _ rfl
      have c1_ : w.cell? ⟨g, off + n * 5 + 1, none⟩ = some (.string y.n.t) := hc 1 _ rfl
      have c2_ : w.cell? ⟨g, off + n * 5 + 2, none⟩ = some (.int .i64 y.n.l) := hc 2 _ rfl
      have c3_ : w.cell? ⟨g, off + n * 5 + 3, none⟩ = some (.int .i64 y.n.c) := hc 3 _ rfl
      have c4_ : w.cell? ⟨g, off + n * 5 + 4, none⟩ = some (.int .i64 y.t) := hc 4 _ rfl
      obtain ⟨va, vc, rfl⟩ := HP.out.r1.slice
      obtain ⟨m, hm⟩ : ∃ m, m = ((x.qs.take n).map plQu).length := ⟨_, rfl⟩
      have hmn := take_le l1 hm
      have HML := Lib.hid (row_len hy hm)
      rw [← hm] at HP
      have HMM := Lib.hid hm
      have HOLT : Hid (∀ k, (Value.slice va m vc).ownBlock = some k → k < wr.heap.size) := Lib.hid (fun k hk => by obtain ⟨css, ho, _⟩ := HP.out.r1; rw [← hm] at ho; exact (ho.lt k hk).2)
      have HSW : Hid (∀ W, Below w.heap.size w W → W.heap[w.heap.size]? = some (.cells #[.string x.n.t, .int .i64 x.n.l, .int .i64 x.n.c, .slice da x.ds.length dc, .slice (some ⟨g, off, none⟩) x.qs.length qc, .slice fa x.fs.length fc, .slice ta x.st.length tc, .string x.s.t, .int .i64 x.s.l, .int .i64 x.s.c, .slice la x.al.length lc, .slice xa x.ts.length xc] 31 (0, 0)) → W.heap[q]? = some (.cells (TC x v0 (.slice va m vc) v2 v3 v4 v5) 31 (0, 0)) → W.heap[wr.heap.size]? = some (.cells #[.bool y.all, .string y.n.t, .int .i64 y.n.l, .int .i64 y.n.c, .int .i64 y.t] 57 (0, 0)) → (W.cell? ⟨w.heap.size, 4, none⟩ = some (.slice (some ⟨g, off, none⟩) x.qs.length qc) ∧ W.cell? ⟨q, 4, none⟩ = some (.slice va m vc) ∧ W.cell? ⟨wr.heap.size, 0, none⟩ = some (.bool y.all) ∧ W.cell? ⟨wr.heap.size, 1, none⟩ = some (.string y.n.t) ∧ W.cell? ⟨wr.heap.size, 2, none⟩ = some (.int .i64 y.n.l) ∧ W.cell? ⟨wr.heap.size, 3, none⟩ = some (.int .i64 y.n.c) ∧ W.cell? ⟨wr.heap.size, 4, none⟩ = some (.int .i64 y.t))) := Lib.hid (fun W hb h1 h2 h3 => ⟨by rw [cell_of_row _ _ 4 _ _ _ h1]; rfl, by rw [cell_of_row _ _ 4 _ _ _ h2]; rfl, by rw [cell_of_row _ _ 0 _ _ _ h3]; rfl, by rw [cell_of_row _ _ 1 _ _ _ h3]; rfl, by rw [cell_of_row _ _ 2 _ _ _ h3]; rfl, by rw [cell_of_row _ _ 3 _ _ _ h3]; rfl, by rw [cell_of_row _ _ 4 _ _ _ h3]; rfl⟩)
      have HQa := Lib.hid (HP.out.below' ((Below.refl wr.heap.size wr).alloc (Nat.le_refl _) (.cells #[.bool y.all, .string y.n.t, .int .i64 y.n.l, .int .i64 y.n.c, .int .i64 y.t] 57)))
      have HQ0 := Lib.hid (HQa.out.below' ((Below.refl _ _).drew))
      have HC0 : Hid ((wr.alloc (.cells #[.bool y.all, .string y.n.t, .int .i64 y.n.l, .int .i64 y.n.c, .int .i64 y.t] 57)).drew.heap[wr.heap.size]? = some (.cells #[.bool y.all, .string y.n.t, .int .i64 y.n.l, .int .i64 y.n.c, .int .i64 y.t] 57 (0, 0))) := Lib.hid (heap_alloc_new wr _)
      have a0_ : wr.cell? ⟨g, off + n * 5, none⟩ = some (.bool y.all) := (HP.out.below.cell (p := ⟨g, off + n * 5, none⟩) hg).trans c0_
      have a1_ : wr.cell? ⟨g, off + n * 5 + 1, none⟩ = some (.string y.n.t) := (HP.out.below.cell (p := ⟨g, off + n * 5 + 1, none⟩) hg).trans c1_
      have a2_ : wr.cell? ⟨g, off + n * 5 + 2, none⟩ = some (.int .i64 y.n.l) := (HP.out.below.cell (p := ⟨g, off + n * 5 + 2, none⟩) hg).trans c2_
      have a3_ : wr.cell? ⟨g, off + n * 5 + 3, none⟩ = some (.int .i64 y.n.c) := (HP.out.below.cell (p := ⟨g, off + n * 5 + 3, none⟩) hg).trans c3_
      have a4_ : wr.cell? ⟨g, off + n * 5 + 4, none⟩ = some (.int .i64 y.t) := (HP.out.below.cell (p := ⟨g, off + n * 5 + 4, none⟩) hg).trans c4_
      clear hc hy hyo hm c0_ c1_ c2_ c3_ c4_
      go_wp2_with fail
      clear zb a0_ a1_ a2_ a3_ a4_
      refine wp_region_B (S := (fun W => W.cell? ⟨w.heap.size, 4, none⟩ = some (.slice (some ⟨g, off, none⟩) x.qs.length qc) ∧ W.cell? ⟨q, 4, none⟩ = some (.slice va m vc) ∧ W.cell? ⟨wr.heap.size, 0, none⟩ = some (.bool y.all) ∧ W.cell? ⟨wr.heap.size, 1, none⟩ = some (.string y.n.t) ∧ W.cell? ⟨wr.heap.size, 2, none⟩ = some (.int .i64 y.n.l) ∧ W.cell? ⟨wr.heap.size, 3, none⟩ = some (.int .i64 y.n.c) ∧ W.cell? ⟨wr.heap.size, 4, none⟩ = some (.int .i64 y.t))) [13] (by kernel_rfl) (HSW.out _ HQ0.out.below HQ0.out.box HQ0.out.out HC0.out) (fun hH0 => ?_)
      refine wpB_take (i := 0) (v := .pointer (some ⟨q, 4, none⟩)) [13] rfl (by kernel_rfl) (by kernel_rfl) (by kernel_rfl) (by kernel_rfl) (fun _ _ _ h => h) (Or.inl ⟨by kernel_rfl, fun wS hSw => by (try dsimp only at hSw); go_simp⟩) hH0 ?_
      refine wpB_take (i := 1) (v := .slice va m vc) [13] rfl (by kernel_rfl) (by kernel_rfl) (by kernel_rfl) (by kernel_rfl) (fun _ _ _ h => h) (Or.inl ⟨by kernel_rfl, fun wS hSw => by (try dsimp only at hSw); go_simp⟩) hH0 ?_
      refine wpB_take (i := 2) (v := .pointer (some ⟨wr.heap.size, 0, none⟩)) [13] rfl (by kernel_rfl) (by kernel_rfl) (by kernel_rfl) (by kernel_rfl) (fun _ _ _ h => h) (Or.inl ⟨by kernel_rfl, fun wS hSw => by (try dsimp only at hSw); go_simp⟩) hH0 ?_
      refine wpB_take (i := 3) (v := .bool y.all) [13] rfl (by kernel_rfl) (by kernel_rfl) (by kernel_rfl) (by kernel_rfl) (fun _ _ _ h => h) (Or.inl ⟨by kernel_rfl, fun wS hSw => by (try dsimp only at hSw); go_simp⟩) hH0 ?_
      refine wpB_take (i := 4) (v := .pointer (some ⟨wr.heap.size, 1, none⟩)) [13] rfl (by kernel_rfl) (by kernel_rfl) (by kernel_rfl) (by kernel_rfl) (fun _ _ _ h => h) (Or.inl ⟨by kernel_rfl, fun wS hSw => by (try dsimp only at hSw); go_simp⟩) hH0 ?_
      refine wpB_take (i := 5) (v := .agg #[.string y.n.t, .int .i64 y.n.l, .int .i64 y.n.c]) [13] rfl (by kernel_rfl) (by kernel_rfl) (by kernel_rfl) (by kernel_rfl) (fun _ _ _ h => h) (Or.inl ⟨by kernel_rfl, fun wS hSw => by (try dsimp only at hSw); go_simp⟩) hH0 ?_
      refine wpB_take (i := 7) (v := .pointer (some ⟨wr.heap.size, 4, none⟩)) [13] rfl (by kernel_rfl) (by kernel_rfl) (by kernel_rfl) (by kernel_rfl) (fun _ _ _ h => h) (Or.inl ⟨by kernel_rfl, fun wS hSw => by (try dsimp only at hSw); go_simp⟩) hH0 ?_
      refine wpB_take (i := 8) (v := .int .i64 y.t) [13] rfl (by kernel_rfl) (by kernel_rfl) (by kernel_rfl) (by kernel_rfl) (fun _ _ _ h => h) (Or.inl ⟨by kernel_rfl, fun wS hSw => by (try dsimp only at hSw); go_simp⟩) hH0 ?_
      refine wpB_step (i := 6) rfl (by kernel_rfl) (fun K hK => ?_)
      rw [if_pos (by kernel_rfl)]
      go_simp
      refine (HN.out y.n _).mono ?_
      rintro e w1 ⟨rfl, k⟩
      have HQ1 := Lib.hid (HQ0.out.below' k)
      have HC1 : Hid (w1.heap[wr.heap.size]? = some (.cells #[.bool y.all, .string y.n.t, .int .i64 y.n.l, .int .i64 y.n.c, .int .i64 y.t] 57 (0, 0))) := Lib.hid ((k.block wr.heap.size (by simp)).trans HC0.out)
      clear k
      refine hK.out _ _ (HSW.out _ HQ1.out.below HQ1.out.box HQ1.out.out HC1.out) (fun hH1 => ?_)
      clear hK K
      refine wpB_take (i := 9) (v := .agg #[.bool y.all, .string y.n.t, .int .i64 0, .int .i64 0, .int .i64 y.t]) [13] rfl (by kernel_rfl) (by kernel_rfl) (by kernel_rfl) (by kernel_rfl) (fun _ _ _ h => h) (Or.inl ⟨by kernel_rfl, fun wS hSw => by (try dsimp only at hSw); go_simp⟩) hH1 ?_
      have HQ2 := Lib.hid (HQ1.out.below' ((Below.refl w1.heap.size w1).alloc (Nat.le_refl _) (.cells #[.bool y.all, .string y.n.t, .int .i64 0, .int .i64 0, .int .i64 y.t] 57)))
      have HC2 : Hid ((w1.alloc (.cells #[.bool y.all, .string y.n.t, .int .i64 0, .int .i64 0, .int .i64 y.t] 57)).heap[wr.heap.size]? = some (.cells #[.bool y.all, .string y.n.t, .int .i64 y.n.l, .int .i64 y.n.c, .int .i64 y.t] 57 (0, 0))) := Lib.hid ((heap_alloc_old _ _ (CBlk.lt ⟨_, _, HC1.out⟩)).trans HC1.out)
      refine wpB_step (i := 10) rfl (by kernel_rfl) (fun K hK => ?_)
      rw [if_pos (by kernel_rfl)]
      go_simp
      refine hK.out _ _ (HSW.out _ HQ2.out.below HQ2.out.box HQ2.out.out HC2.out) (fun hH2 => ?_)
      clear hK K
      obtain ⟨css, ho, hgs⟩ := HQ2.out.r1
      rw [← HMM.out] at ho
      have HOW := Lib.hid ho
      have HGS := Lib.hid hgs
      clear ho hgs
      have nw := new_cells w1 [.bool y.all, .string y.n.t, .int .i64 0, .int .i64 0, .int .i64 y.t] 57
      have hsz2 := HQ2.out.below.size
      refine wpB_step (i := 11) rfl (by kernel_rfl) (fun K hK => ?_)
      rw [if_pos (by kernel_rfl)]
      refine wp_append_own (w1.alloc (.cells #[.bool y.all, .string y.n.t, .int .i64 0, .int .i64 0, .int .i64 y.t] 57)) _ _ 25 rfl w.heap.size 57 i0Qu _ 5 48 Tryz.underlying25 HIQu.out HZ0Qu.out HZ1Qu.out HZ2Qu.out rfl (by decide) (.slice va m vc) _ _ rfl HOW.out ⟨w1.heap.size, 0, none⟩ 1 1 [.bool y.all, .string y.n.t, .int .i64 0, .int .i64 0, .int .i64 y.t] rfl rfl nw (by intro u hu; simp only [List.mem_cons, List.not_mem_nil, or_false] at hu; rcases hu with rfl | rfl | rfl | rfl | rfl <;> rfl) (by unfold maxLen; omega) (by omega) hsz2 ?_
      intro v4 w4 ho4 hg4 _
      have HK4 : Hid (KU 57 (w1.alloc (.cells #[.bool y.all, .string y.n.t, .int .i64 0, .int .i64 0, .int .i64 y.t] 57)) w4) := Lib.hid (KU.grown HOW.out hg4)
      have HB4 : Hid (Below w.heap.size w w4) := Lib.hid (HQ2.out.below.grown hg4 hsz2 (fun k hk => (HOW.out.lt k hk).1))
      obtain ⟨va4, vc4, rfl⟩ := cs_own ho4
      have HX4 := Lib.hid (HK4.out.obj HQ2.out.box (by decide))
      have HO4 := Lib.hid (HK4.out.obj HQ2.out.out (by decide))
      have HR4 : Hid (Row rQu 57 5 w.heap.size w4 (.slice va4 (m + 1) vc4) ((x.qs.take (n + 1)).map plQu)) := Lib.hid (by
        rw [map_snoc HYY.out]
        refine Row.snoc (cs := [.bool y.all, .string y.n.t, .int .i64 0, .int .i64 0, .int .i64 y.t]) (x := plQu y) ?_ (HGS.out.kept (fun _ _ _ h => RF.any h)) rfl (⟨rfl, HYO.out⟩)
        rw [← HMM.out]
        exact ho4)
      have HC4 : Hid (w4.heap[wr.heap.size]? = some (.cells #[.bool y.all, .string y.n.t, .int .i64 y.n.l, .int .i64 y.n.c, .int .i64 y.t] 57 (0, 0))) := Lib.hid ((hg4.block _ (CBlk.lt ⟨_, _, HC2.out⟩) (fun e => by have h9 := HOLT.out _ e.symm; exact absurd h9 (Nat.lt_irrefl _))).trans HC2.out)
      clear ho4 hg4 nw
      refine hK.out _ _ (HSW.out _ HB4.out HX4.out HO4.out HC4.out) (fun hH3 => ?_)
      clear hK K
      refine wpB_take (i := 12) (v := .pointer (some ⟨q, 4, none⟩)) [13] rfl (by kernel_rfl) (by kernel_rfl) (by kernel_rfl) (by kernel_rfl) (fun _ _ _ h => h) (Or.inl ⟨by kernel_rfl, fun wS hSw => by (try dsimp only at hSw); go_simp⟩) hH3 ?_
      skip
      have c1 : w4.cell? ⟨q, 4, none⟩ = some (.slice va m vc) := by rw [cell_of_row _ _ 4 _ _ _ HO4.out]; rfl
      have f1 : w4.frozen? ⟨q, 4, none⟩ = false := frozen_of_row _ _ 4 _ _ HO4.out
      refine wpB_past (i := 13) rfl (by kernel_rfl) (by kernel_rfl) (fun K hK => ?_)
      rw [if_pos (by kernel_rfl)]
      go_simp
      refine hK.out _ _ ?_
      clear hK K
      refine wpB_done (by kernel_rfl) ?_ _
      go_simp
      have HP5 := Lib.hid (HQ2.out.put1 HK4.out HB4.out HR4.out)
      go_wp2_with fail
      go_roundw
      case rel => exact ⟨n + 1, _, _, _, _, _, _, by omega, by go_num, HP5⟩
      case measure => simp [intOf] <;> omega

set_option maxHeartbeats 80000000 in
set_option maxRecDepth 1000000 in
theorem tail0 {Y : TyT} {O : Prop} (x : Tr) (w : World) (da : Option Addr) (dc : Nat) (qa : Option Addr) (qc : Nat) (fa : Option Addr) (fc : Nat) (ta : Option Addr) (tc : Nat) (la : Option Addr) (lc : Nat) (xa : Option Addr) (xc : Nat) (g0 : GIn (rDe Y O) Y.de O 4 w da x.ds.length x.ds) (g1 : GIn rQu Y.qu O 5 w qa x.qs.length x.qs) (g2 : GIn rFr Y.fr O 7 w fa x.fs.length x.fs) (g3 : GIn rSta Y.st O 5 w ta x.st.length x.st) (g4 : GIn (rSy Y O) Y.sy O 4 w la x.al.length x.al) (g5 : GIn (rTs Y O) Y.ts O 13 w xa x.ts.length x.ts) (hok : okS x.n.t ∧ okS x.s.t) (hs : SmT x) {q : Nat} {v0 v1 v2 v3 v4 v5 : Value} {wr : World}
    (HP0 : Hid (PlS #[.string x.n.t, .int .i64 x.n.l, .int .i64 x.n.c, .slice da x.ds.length dc, .slice qa x.qs.length qc, .slice fa x.fs.length fc, .slice ta x.st.length tc, .string x.s.t, .int .i64 x.s.l, .int .i64 x.s.c, .slice la x.al.length lc, .slice xa x.ts.length xc] w x q v0 v1 v2 v3 v4 v5 [] [] [] [] [] [] wr)) {s0 s4 s5 s6 s7 s8 s9 s10 s11 s12 s13 s14 s15 s16 s17 s18 s19 s20 s21 s22 s23 s24 s25 s26 s27 s28 s29 s30 s31 s32 s33 s34 s35 s36 s37 s38 s39 s40 s41 s42 s43 s44 s45 s46 s47 s48 s49 s50 s51 s52 s53 s54 s55 s56 s57 s58 s59 s60 s61 s62 s63 s64 s65 s66 s67 s68 s69 s70 s71 s72 s73 s74 s75 s76 s77 s78 s79 s80 s81 s82 s83 s84 s85 s86 s87 s88 s89 s90 s91 s92 s93 s94 s95 s96 s97 s98 s99 s100 s101 s102 s103 s104 s105 s106 s107 s108 s109 s110 s111 s112 s113 s114 s115 s116 s117 s118 s119 s120 s121 s122 s123 s124 s125 s126 s127 s128 s129 s130 s131 s132 s133 s134 s135 s136 s137 s138 s139 s140 s141 s142 s143 s144 s145 s146 s147 s148 s149 s150 s151 s152 s153 s154 s155 s156 s157 s158 s159 s160 s161 s162 s163 s164 s165 s166 s167 s168 s169 s170 s171 s172 s173 s174 s175 s176 s177 s178 s179 s180 s181 s182 s183 s184 s185 s186 s187 s188 s189 s190 s191 s192 s193 s194 s195 s196 s197 s198 s199 s200 s201 s202 s203 s204 s205 s206 s207 s208 s209 s210 s211 s212 s213 s214 s215 s216 s217 s218 s219 s220 s221 s222 s223 s224 s225 s226 s227 s228 s229 s230 : Value} : Code.wp Tryz.prog (dropSeq 2 (Tryz.f10.body.getD .skip)) (bodyPost Tryz.prog Tryz.f10 (MadeTr (plT x) w)) ⟨#[s0, .pointer (some ⟨w.heap.size, 0, none⟩), .pointer (some ⟨w.heap.size + 1, 0, none⟩), .pointer (some ⟨q, 0, none⟩), s4, s5, s6, s7, s8, s9, s10, s11, s12, s13, s14, s15, s16, s17, s18, s19, s20, s21, s22, s23, s24, s25, s26, s27, s28, s29, s30, s31, s32, s33, s34, s35, s36, s37, s38, s39, s40, s41, s42, s43, s44, s45, s46, s47, s48, s49, s50, s51, s52, s53, s54, s55, s56, s57, s58, s59, s60, s61, s62, s63, s64, s65, s66, s67, s68, s69, s70, s71, s72, s73, s74, s75, s76, s77, s78, s79, s80, s81, s82, s83, s84, s85, s86, s87, s88, s89, s90, s91, s92, s93, s94, s95, s96, s97, s98, s99, s100, s101, s102, s103, s104, s105, s106, s107, s108, s109, s110, s111, s112, s113, s114, s115, s116, s117, s118, s119, s120, s121, s122, s123, s124, s125, s126, s127, s128, s129, s130, s131, s132, s133, s134, s135, s136, s137, s138, s139, s140, s141, s142, s143, s144, s145, s146, s147, s148, s149, s150, s151, s152, s153, s154, s155, s156, s157, s158, s159, s160, s161, s162, s163, s164, s165, s166, s167, s168, s169, s170, s171, s172, s173, s174, s175, s176, s177, s178, s179, s180, s181, s182, s183, s184, s185, s186, s187, s188, s189, s190, s191, s192, s193, s194, s195, s196, s197, s198, s199, s200, s201, s202, s203, s204, s205, s206, s207, s208, s209, s210, s211, s212, s213, s214, s215, s216, s217, s218, s219, s220, s221, s222, s223, s224, s225, s226, s227, s228, s229, s230], []⟩ wr := by
  have HOK := Lib.hid hok
  have HSM := Lib.hid hs
  have HN := Lib.hid (fun (z : Id3) w1 => ident_calls z w1)
  have s_0 := g0.small
  have G0 := Lib.hid g0
  have l0 := hs.l0
  have s_1 := g1.small
  have G1 := Lib.hid g1
  have l1 := hs.l1
  have s_2 := g2.small
  have G2 := Lib.hid g2
  have l2 := hs.l2
  have s_3 := g3.small
  have G3 := Lib.hid g3
  have l3 := hs.l3
  have s_4 := g4.small
  have G4 := Lib.hid g4
  have l4 := hs.l4
  have s_5 := g5.small
  have G5 := Lib.hid g5
  have l5 := hs.l5
  obtain ⟨i0De, hi, hz0, hz1, hz2⟩ := info_parts infoDe
  have HIDe := Lib.hid hi
  have HZ0De := Lib.hid hz0
  have HZ1De := Lib.hid hz1
  have HZ2De := Lib.hid hz2
  clear hi hz0 hz1 hz2
  obtain ⟨i0Qu, hi, hz0, hz1, hz2⟩ := info_parts infoQu
  have HIQu := Lib.hid hi
  have HZ0Qu := Lib.hid hz0
  have HZ1Qu := Lib.hid hz1
  have HZ2Qu := Lib.hid hz2
  clear hi hz0 hz1 hz2
  obtain ⟨i0Fr, hi, hz0, hz1, hz2⟩ := info_parts infoFr
  have HIFr := Lib.hid hi
  have HZ0Fr := Lib.hid hz0
  have HZ1Fr := Lib.hid hz1
  have HZ2Fr := Lib.hid hz2
  clear hi hz0 hz1 hz2
  obtain ⟨i0Sta, hi, hz0, hz1, hz2⟩ := info_parts infoSta
  have HISta := Lib.hid hi
  have HZ0Sta := Lib.hid hz0
  have HZ1Sta := Lib.hid hz1
  have HZ2Sta := Lib.hid hz2
  clear hi hz0 hz1 hz2
  obtain ⟨i0Sy, hi, hz0, hz1, hz2⟩ := info_parts infoSy
  have HISy := Lib.hid hi
  have HZ0Sy := Lib.hid hz0
  have HZ1Sy := Lib.hid hz1
  have HZ2Sy := Lib.hid hz2
  clear hi hz0 hz1 hz2
  obtain ⟨i0Ts, hi, hz0, hz1, hz2⟩ := info_parts infoTs
  have HITs := Lib.hid hi
  have HZ0Ts := Lib.hid hz0
  have HZ1Ts := Lib.hid hz1
  have HZ2Ts := Lib.hid hz2
  clear hi hz0 hz1 hz2
  obtain ⟨i0Ex, hi, hz0, hz1, hz2⟩ := info_parts infoEx
  have HIEx := Lib.hid hi
  have HZ0Ex := Lib.hid hz0
  have HZ1Ex := Lib.hid hz1
  have HZ2Ex := Lib.hid hz2
  clear hi hz0 hz1 hz2
  obtain ⟨i0Se, hi, hz0, hz1, hz2⟩ := info_parts infoSe
  have HISe := Lib.hid hi
  have HZ0Se := Lib.hid hz0
  have HZ1Se := Lib.hid hz1
  have HZ2Se := Lib.hid hz2
  clear hi hz0 hz1 hz2
  obtain ⟨i0Int, hi, hz0, hz1, hz2⟩ := info_parts infoInt
  have HIInt := Lib.hid hi
  have HZ0Int := Lib.hid hz0
  have HZ1Int := Lib.hid hz1
  have HZ2Int := Lib.hid hz2
  clear hi hz0 hz1 hz2
  clear g0 g1 g2 g3 g4 g5 hok hs
  conv => arg 2; whnf
  go_wp2_with fail
  rename_i hcont
  have HCONT := Lib.hid hcont
  clear hcont
  go_loopw [4] (fun i wr => ∃ (n : Nat) (v0 v1 v2 v3 v4 v5 : Value), n ≤ x.ds.length ∧ i = .int .i64 n ∧ Hid (PlS #[.string x.n.t, .int .i64 x.n.l, .int .i64 x.n.c, .slice da x.ds.length dc, .slice qa x.qs.length qc, .slice fa x.fs.length fc, .slice ta x.st.length tc, .string x.s.t, .int .i64 x.s.l, .int .i64 x.s.c, .slice la x.al.length lc, .slice xa x.ts.length xc] w x q v0 v1 v2 v3 v4 v5 ((x.ds.take n).map plDe) [] [] [] [] [] wr)) (fun i _ => x.ds.length - (intOf i).toNat)
  case atStart => exact ⟨0, _, _, _, _, _, _, Nat.zero_le _, rfl, Lib.hid HP0.out⟩
  case round =>
    obtain ⟨n, v0, v1, v2, v3, v4, v5, hn, rfl, HP⟩ := hrel
    have zb : wr.cell? ⟨w.heap.size, 3, none⟩ = some (.slice da x.ds.length dc) := by rw [cell_of_row _ _ 3 _ _ _ HP.out.box]; rfl
    by_cases h : n < x.ds.length
    case neg =>
      have HPn : Hid (PlS #[.string x.n.t, .int .i64 x.n.l, .int .i64 x.n.c, .slice da x.ds.length dc, .slice qa x.qs.length qc, .slice fa x.fs.length fc, .slice ta x.st.length tc, .string x.s.t, .int .i64 x.s.l, .int .i64 x.s.c, .slice la x.al.length lc, .slice xa x.ts.length xc] w x q v0 v1 v2 v3 v4 v5 (x.ds.map plDe) [] [] [] [] [] wr) := Lib.hid (by have := HP.out; rwa [List.take_of_length_le (by omega)] at this)
      go_wp2_with fail
      refine HCONT.out _ _ ?_
      exact tail1 x w da dc qa qc fa fc ta tc la lc xa xc G0.out G1.out G2.out G3.out G4.out G5.out HOK.out HSM.out HPn
    case pos =>
      obtain ⟨y, hy⟩ := at_some (L := x.ds) rfl h
      have HYY := Lib.hid hy
      obtain ⟨g, off, csy, rfl, hg, _, hc, hry, _⟩ := G0.out.at' n y hy
      have HRY := Lib.hid hry
      obtain ⟨a1, c1, rfl, g11, hyo⟩ := hry
      have HYO := Lib.hid hyo
      have c0_ : w.cell? ⟨g, off + n * 4, none⟩ = some (.string y.n.t) := hc 0 _ rfl
      have c1_ : w.cell? ⟨g, off + n * 4 + 1, none⟩ = some (.int .i64 y.n.l) := hc 1 _ rfl
      have c2_ : w.cell? ⟨g, off + n * 4 + 2, none⟩ = some (.int .i64 y.n.c) := hc 2 _ rfl
      have c3_ : w.cell? ⟨g, off + n * 4 + 3, none⟩ = some (.slice a1 y.ks.length c1) := hc 3 _ rfl
      obtain ⟨va, vc, rfl⟩ := HP.out.r0.slice
      obtain ⟨m, hm⟩ : ∃ m, m = ((x.ds.take n).map plDe).length := ⟨_, rfl⟩
      have hmn := take_le l0 hm
      have HML := Lib.hid (row_len hy hm)
      rw [← hm] at HP
      have HMM := Lib.hid hm
      have HOLT : Hid (∀ k, (Value.slice va m vc).ownBlock = some k → k < wr.heap.size) := Lib.hid (fun k hk => by obtain ⟨css, ho, _⟩ := HP.out.r0; rw [← hm] at ho; exact (ho.lt k hk).2)
      have HSW : Hid (∀ W, Below w.heap.size w W → W.heap[w.heap.size]? = some (.cells #[.string x.n.t, .int .i64 x.n.l, .int .i64 x.n.c, .slice (some ⟨g, off, none⟩) x.ds.length dc, .slice qa x.qs.length qc, .slice fa x.fs.length fc, .slice ta x.st.length tc, .string x.s.t, .int .i64 x.s.l, .int .i64 x.s.c, .slice la x.al.length lc, .slice xa x.ts.length xc] 31 (0, 0)) → W.heap[q]? = some (.cells (TC x (.slice va m vc) v1 v2 v3 v4 v5) 31 (0, 0)) → (W.cell? ⟨w.heap.size, 3, none⟩ = some (.slice (some ⟨g, off, none⟩) x.ds.length dc) ∧ W.cell? ⟨q, 3, none⟩ = some (.slice va m vc) ∧ W.cell? ⟨g, off + n * 4, none⟩ = some (.string y.n.t) ∧ W.cell? ⟨g, off + n * 4 + 1, none⟩ = some (.int .i64 y.n.l) ∧ W.cell? ⟨g, off + n * 4 + 2, none⟩ = some (.int .i64 y.n.c) ∧ W.cell? ⟨g, off + n * 4 + 3, none⟩ = some (.slice a1 y.ks.length c1))) := Lib.hid (fun W hb h1 h2 => ⟨by rw [cell_of_row _ _ 3 _ _ _ h1]; rfl, by rw [cell_of_row _ _ 3 _ _ _ h2]; rfl, (hb.cell (p := ⟨g, off + n * 4, none⟩) hg).trans c0_, (hb.cell (p := ⟨g, off + n * 4 + 1, none⟩) hg).trans c1_, (hb.cell (p := ⟨g, off + n * 4 + 2, none⟩) hg).trans c2_, (hb.cell (p := ⟨g, off + n * 4 + 3, none⟩) hg).trans c3_⟩)
      have HQ0 := Lib.hid (HP.out.below' ((Below.refl wr.heap.size wr).drew))
      obtain ⟨kss, hks, hkl, hk1, hk0, hkc⟩ := ints_out g11
      have HKS := Lib.hid hks
      have HKL := Lib.hid hkl
      have HK1 := Lib.hid hk1
      have HKZ := Lib.hid hk0
      have HKC := Lib.hid (fun W (hb : Below w.heap.size w W) => (g11.belowF hb))
      have hkm := HSM.out.d y (List.mem_of_getElem? hy)
      have HKD : Hid (∀ W, Below w.heap.size w W → ∀ ad, a1 = some ad → ∀ j u, kss.flatten[j]? = some u → W.cell? (ad.add j) = some u) := Lib.hid (fun W hb ad e j u hj => by
        have h2 := hkc ad e j u hj
        exact (hb.cell (p := ad.add j) (World.block_lt_of_cell? w _ h2)).trans h2)
      clear hc hy hyo hm g11 hks hkl hk1 hk0 hkc c0_ c1_ c2_ c3_
      go_wp2_with fail
      clear zb
      refine wp_region_B (S := (fun W => W.cell? ⟨w.heap.size, 3, none⟩ = some (.slice (some ⟨g, off, none⟩) x.ds.length dc) ∧ W.cell? ⟨q, 3, none⟩ = some (.slice va m vc) ∧ W.cell? ⟨g, off + n * 4, none⟩ = some (.string y.n.t) ∧ W.cell? ⟨g, off + n * 4 + 1, none⟩ = some (.int .i64 y.n.l) ∧ W.cell? ⟨g, off + n * 4 + 2, none⟩ = some (.int .i64 y.n.c) ∧ W.cell? ⟨g, off + n * 4 + 3, none⟩ = some (.slice a1 y.ks.length c1))) [21] (by kernel_rfl) (HSW.out _ HQ0.out.below HQ0.out.box HQ0.out.out) (fun hH0 => ?_)
      refine wpB_take (i := 0) (v := .pointer (some ⟨q, 3, none⟩)) [21] rfl (by kernel_rfl) (by kernel_rfl) (by kernel_rfl) (by kernel_rfl) (fun _ _ _ h => h) (Or.inl ⟨by kernel_rfl, fun wS hSw => by (try dsimp only at hSw); go_simp⟩) hH0 ?_
      refine wpB_take (i := 1) (v := .slice va m vc) [21] rfl (by kernel_rfl) (by kernel_rfl) (by kernel_rfl) (by kernel_rfl) (fun _ _ _ h => h) (Or.inl ⟨by kernel_rfl, fun wS hSw => by (try dsimp only at hSw); go_simp⟩) hH0 ?_
      refine wpB_take (i := 2) (v := .pointer (some ⟨w.heap.size, 3, none⟩)) [21] rfl (by kernel_rfl) (by kernel_rfl) (by kernel_rfl) (by kernel_rfl) (fun _ _ _ h => h) (Or.inl ⟨by kernel_rfl, fun wS hSw => by (try dsimp only at hSw); go_simp⟩) hH0 ?_
      refine wpB_take (i := 3) (v := .slice (some ⟨g, off, none⟩) x.ds.length dc) [21] rfl (by kernel_rfl) (by kernel_rfl) (by kernel_rfl) (by kernel_rfl) (fun _ _ _ h => h) (Or.inl ⟨by kernel_rfl, fun wS hSw => by (try dsimp only at hSw); go_simp⟩) hH0 ?_
      refine wpB_take (i := 4) (v := .int .i64 (n : Nat)) [21] rfl (by kernel_rfl) (by kernel_rfl) (by kernel_rfl) (by kernel_rfl) (fun _ _ _ h => h) (Or.inl ⟨by kernel_rfl, fun wS hSw => by (try dsimp only at hSw); go_simp⟩) hH0 ?_
      refine wpB_take (i := 5) (v := .pointer (some ⟨g, off + n * 4, none⟩)) [21] rfl (by kernel_rfl) (by kernel_rfl) (by kernel_rfl) (by kernel_rfl) (fun _ _ _ h => h) (Or.inl ⟨by kernel_rfl, fun wS hSw => by (try dsimp only at hSw); go_simp⟩) hH0 ?_
      refine wpB_take (i := 6) (v := .pointer (some ⟨g, off + n * 4, none⟩)) [21] rfl (by kernel_rfl) (by kernel_rfl) (by kernel_rfl) (by kernel_rfl) (fun _ _ _ h => h) (Or.inl ⟨by kernel_rfl, fun wS hSw => by (try dsimp only at hSw); go_simp⟩) hH0 ?_
      refine wpB_take (i := 7) (v := .agg #[.string y.n.t, .int .i64 y.n.l, .int .i64 y.n.c]) [21] rfl (by kernel_rfl) (by kernel_rfl) (by kernel_rfl) (by kernel_rfl) (fun _ _ _ h => h) (Or.inl ⟨by kernel_rfl, fun wS hSw => by (try dsimp only at hSw); go_simp⟩) hH0 ?_
      refine wpB_take (i := 10) (v := .pointer (some ⟨w.heap.size, 3, none⟩)) [21] rfl (by kernel_rfl) (by kernel_rfl) (by kernel_rfl) (by kernel_rfl) (fun _ _ _ h => h) (Or.inl ⟨by kernel_rfl, fun wS hSw => by (try dsimp only at hSw); go_simp⟩) hH0 ?_
      refine wpB_take (i := 11) (v := .slice (some ⟨g, off, none⟩) x.ds.length dc) [21] rfl (by kernel_rfl) (by kernel_rfl) (by kernel_rfl) (by kernel_rfl) (fun _ _ _ h => h) (Or.inl ⟨by kernel_rfl, fun wS hSw => by (try dsimp only at hSw); go_simp⟩) hH0 ?_
      refine wpB_take (i := 12) (v := .int .i64 (n : Nat)) [21] rfl (by kernel_rfl) (by kernel_rfl) (by kernel_rfl) (by kernel_rfl) (fun _ _ _ h => h) (Or.inl ⟨by kernel_rfl, fun wS hSw => by (try dsimp only at hSw); go_simp⟩) hH0 ?_
      refine wpB_take (i := 13) (v := .pointer (some ⟨g, off + n * 4, none⟩)) [21] rfl (by kernel_rfl) (by kernel_rfl) (by kernel_rfl) (by kernel_rfl) (fun _ _ _ h => h) (Or.inl ⟨by kernel_rfl, fun wS hSw => by (try dsimp only at hSw); go_simp⟩) hH0 ?_
      refine wpB_take (i := 14) (v := .pointer (some ⟨g, off + n * 4 + 3, none⟩)) [21] rfl (by kernel_rfl) (by kernel_rfl) (by kernel_rfl) (by kernel_rfl) (fun _ _ _ h => h) (Or.inl ⟨by kernel_rfl, fun wS hSw => by (try dsimp only at hSw); go_simp⟩) hH0 ?_
      refine wpB_take (i := 15) (v := .slice a1 y.ks.length c1) [21] rfl (by kernel_rfl) (by kernel_rfl) (by kernel_rfl) (by kernel_rfl) (fun _ _ _ h => h) (Or.inl ⟨by kernel_rfl, fun wS hSw => by (try dsimp only at hSw); go_simp⟩) hH0 ?_
      refine wpB_two (i := 8) (j := 9) rfl rfl (by kernel_rfl) (fun K hK => ?_) (fun K hK => ?_)
      · rw [if_pos (by kernel_rfl)]
        go_simp
        refine (HN.out y.n _).mono ?_
        rintro e w1 ⟨rfl, k⟩
        have HQ1 := Lib.hid (HQ0.out.below' k)
        have HBr1 := Lib.hid (((Below.refl wr.heap.size wr).drew).trans (k.mono (by simp)))
        clear k
        refine hK.out _ _ (HSW.out _ HQ1.out.below HQ1.out.box HQ1.out.out) (fun hHx => ?_)
        clear hK K
        refine wpB_step (i := 9) rfl (by kernel_rfl) (fun K hK => ?_)
        rw [if_pos (by kernel_rfl)]
        go_simp
        have HQ2_ := Lib.hid (HQ1.out.below' ((Below.refl w1.heap.size w1).alloc (Nat.le_refl _) (.cells #[] 3)))
        have HBr2 := Lib.hid (HBr1.out.alloc HBr1.out.size (.cells #[] 3))
        have HZZ : Hid ((w1.alloc (.cells #[] 3)).ownsRow w.heap.size 3 1 (.slice (some ⟨w1.heap.size, 0, none⟩) 0 0) 0 []) := Lib.hid (World.ownsRow_made w1 #[] 0 (HQ1.out.below.size) (Nat.zero_le _) (by simp))
        have hblk : wr.heap.size ≤ w1.heap.size := HBr1.out.size
        refine hK.out _ _ (HSW.out _ HQ2_.out.below HQ2_.out.box HQ2_.out.out) (fun hHy => ?_)
        clear hK K
        have hszz := HQ2_.out.below.size
        refine wpB_step (i := 16) rfl (by kernel_rfl) (fun K hK => ?_)
        rw [if_pos (by kernel_rfl)]
        refine wp_append_opt _ _ 37 rfl w.heap.size 3 i0Int _ 1 8 Tryz.underlying37 HIInt.out HZ0Int.out HZ1Int.out HZ2Int.out rfl (by decide) (w1.heap.size) rfl HZZ.out a1 y.ks.length _ kss.flatten rfl HKZ.out HKL.out (HKD.out _ HQ2_.out.below) HK1.out (by unfold maxLen; omega) (by omega) hszz ?_
        intro v5 w5 ho5 hg5
        have HBr5 : Hid (Below wr.heap.size wr w5) := Lib.hid (HBr2.out.grown hg5 HBr2.out.size (fun k hk => by have h2 : (Value.slice (some ⟨w1.heap.size, 0, none⟩) 0 0).ownBlock = some k := hk; simp [Value.ownBlock] at h2; have := hblk; omega))
        have HQ5 := Lib.hid (HP.out.below' HBr5.out)
        obtain ⟨ka, kc, rfl, hgk, _, _⟩ := own_gin (L := y.ks) (css := kss) (by simpa using ho5) (HKS.out.kept (fun _ _ _ h => RF.any h))
        have HGK := Lib.hid hgk
        clear ho5 hg5 hgk
        refine hK.out _ _ (HSW.out _ HQ5.out.below HQ5.out.box HQ5.out.out) (fun hH8 => ?_)
        clear hK K
        refine wpB_take (i := 17) (v := .agg #[.string y.n.t, .int .i64 0, .int .i64 0, .slice ka y.ks.length kc]) [21] rfl (by kernel_rfl) (by kernel_rfl) (by kernel_rfl) (by kernel_rfl) (fun _ _ _ h => h) (Or.inl ⟨by kernel_rfl, fun wS hSw => by (try dsimp only at hSw); go_simp⟩) hH8 ?_
        have HQ2 := Lib.hid (HQ5.out.below' ((Below.refl w5.heap.size w5).alloc (Nat.le_refl _) (.cells #[.string y.n.t, .int .i64 0, .int .i64 0, .slice ka y.ks.length kc] 39)))
        refine wpB_step (i := 18) rfl (by kernel_rfl) (fun K hK => ?_)
        rw [if_pos (by kernel_rfl)]
        go_simp
        refine hK.out _ _ (HSW.out _ HQ2.out.below HQ2.out.box HQ2.out.out) (fun hH9 => ?_)
        clear hK K
        obtain ⟨css, ho, hgs⟩ := HQ2.out.r0
        rw [← HMM.out] at ho
        have HOW := Lib.hid ho
        have HGS := Lib.hid hgs
        clear ho hgs
        have nw := new_cells w5 [.string y.n.t, .int .i64 0, .int .i64 0, .slice ka y.ks.length kc] 39
        have hsz2 := HQ2.out.below.size
        refine wpB_step (i := 19) rfl (by kernel_rfl) (fun K hK => ?_)
        rw [if_pos (by kernel_rfl)]
        refine wp_append_own (w5.alloc (.cells #[.string y.n.t, .int .i64 0, .int .i64 0, .slice ka y.ks.length kc] 39)) _ _ 24 rfl w.heap.size 39 i0De _ 4 56 Tryz.underlying24 HIDe.out HZ0De.out HZ1De.out HZ2De.out rfl (by decide) (.slice va m vc) _ _ rfl HOW.out ⟨w5.heap.size, 0, none⟩ 1 1 [.string y.n.t, .int .i64 0, .int .i64 0, .slice ka y.ks.length kc] rfl rfl nw (by intro u hu; simp only [List.mem_cons, List.not_mem_nil, or_false] at hu; rcases hu with rfl | rfl | rfl | rfl <;> rfl) (by unfold maxLen; omega) (by omega) hsz2 ?_
        intro v4 w4 ho4 hg4 _
        have HK4 : Hid (KU 39 (w5.alloc (.cells #[.string y.n.t, .int .i64 0, .int .i64 0, .slice ka y.ks.length kc] 39)) w4) := Lib.hid (KU.grown HOW.out hg4)
        have HB4 : Hid (Below w.heap.size w w4) := Lib.hid (HQ2.out.below.grown hg4 hsz2 (fun k hk => (HOW.out.lt k hk).1))
        obtain ⟨va4, vc4, rfl⟩ := cs_own ho4
        have HX4 := Lib.hid (HK4.out.obj HQ2.out.box (by decide))
        have HO4 := Lib.hid (HK4.out.obj HQ2.out.out (by decide))
        have HR4 : Hid (Row (rDe tyT True) 39 4 w.heap.size w4 (.slice va4 (m + 1) vc4) ((x.ds.take (n + 1)).map plDe)) := Lib.hid (by
          rw [map_snoc HYY.out]
          refine Row.snoc (cs := [.string y.n.t, .int .i64 0, .int .i64 0, .slice ka y.ks.length kc]) (x := plDe y) ?_ (HGS.out.kept (fun _ _ _ h => rDe_ku h HK4.out (by decide))) rfl (⟨ka, kc, rfl, (HGK.out.belowF ((Below.refl w5.heap.size w5).alloc (Nat.le_refl _) _)).ku HK4.out (by decide), HYO.out⟩)
          rw [← HMM.out]
          exact ho4)
        clear ho4 hg4 nw
        refine hK.out _ _ (HSW.out _ HB4.out HX4.out HO4.out) (fun hH10 => ?_)
        clear hK K
        refine wpB_take (i := 20) (v := .pointer (some ⟨q, 3, none⟩)) [21] rfl (by kernel_rfl) (by kernel_rfl) (by kernel_rfl) (by kernel_rfl) (fun _ _ _ h => h) (Or.inl ⟨by kernel_rfl, fun wS hSw => by (try dsimp only at hSw); go_simp⟩) hH10 ?_
        skip
        have c1 : w4.cell? ⟨q, 3, none⟩ = some (.slice va m vc) := by rw [cell_of_row _ _ 3 _ _ _ HO4.out]; rfl
        have f1 : w4.frozen? ⟨q, 3, none⟩ = false := frozen_of_row _ _ 3 _ _ HO4.out
        refine wpB_past (i := 21) rfl (by kernel_rfl) (by kernel_rfl) (fun K hK => ?_)
        rw [if_pos (by kernel_rfl)]
        go_simp
        refine hK.out _ _ ?_
        clear hK K
        refine wpB_done (by kernel_rfl) ?_ _
        go_simp
        have HP5 := Lib.hid (HQ2.out.put0 HK4.out HB4.out HR4.out)
        go_wp2_with fail
        go_roundw
        case rel => exact ⟨n + 1, _, _, _, _, _, _, by omega, by go_num, HP5⟩
        case measure => simp [intOf] <;> omega
      · rw [if_pos (by kernel_rfl)]
        go_simp
        have HQ1_ := Lib.hid (HQ0.out.below' ((Below.refl wr.drew.heap.size wr.drew).alloc (Nat.le_refl _) (.cells #[] 3)))
        have HBr1 := Lib.hid ((((Below.refl wr.heap.size wr).drew).alloc (by simp) (.cells #[] 3)))
        have HZ0_ : Hid ((wr.drew.alloc (.cells #[] 3)).ownsRow w.heap.size 3 1 (.slice (some ⟨wr.heap.size, 0, none⟩) 0 0) 0 []) := Lib.hid (World.ownsRow_made wr.drew #[] 0 (HP.out.below.size) (Nat.zero_le _) (by simp))
        refine hK.out _ _ (HSW.out _ HQ1_.out.below HQ1_.out.box HQ1_.out.out) (fun hHx => ?_)
        clear hK K
        refine wpB_step (i := 8) rfl (by kernel_rfl) (fun K hK => ?_)
        rw [if_pos (by kernel_rfl)]
        go_simp
        refine (HN.out y.n _).mono ?_
        rintro e w1 ⟨rfl, k⟩
        have HQ2_ := Lib.hid (HQ1_.out.below' k)
        have HBr2 := Lib.hid (HBr1.out.trans (k.mono HBr1.out.size))
        have HZZ := Lib.hid (ownsRow_heap HZ0_.out (fun g hc => k.block g hc.lt))
        have hblk : wr.heap.size ≤ wr.heap.size := Nat.le_refl _
        clear k
        refine hK.out _ _ (HSW.out _ HQ2_.out.below HQ2_.out.box HQ2_.out.out) (fun hHy => ?_)
        clear hK K
        have hszz := HQ2_.out.below.size
        refine wpB_step (i := 16) rfl (by kernel_rfl) (fun K hK => ?_)
        rw [if_pos (by kernel_rfl)]
        refine wp_append_opt _ _ 37 rfl w.heap.size 3 i0Int _ 1 8 Tryz.underlying37 HIInt.out HZ0Int.out HZ1Int.out HZ2Int.out rfl (by decide) (wr.heap.size) rfl HZZ.out a1 y.ks.length _ kss.flatten rfl HKZ.out HKL.out (HKD.out _ HQ2_.out.below) HK1.out (by unfold maxLen; omega) (by omega) hszz ?_
        intro v5 w5 ho5 hg5
        have HBr5 : Hid (Below wr.heap.size wr w5) := Lib.hid (HBr2.out.grown hg5 HBr2.out.size (fun k hk => by have h2 : (Value.slice (some ⟨wr.heap.size, 0, none⟩) 0 0).ownBlock = some k := hk; simp [Value.ownBlock] at h2; have := hblk; omega))
        have HQ5 := Lib.hid (HP.out.below' HBr5.out)
        obtain ⟨ka, kc, rfl, hgk, _, _⟩ := own_gin (L := y.ks) (css := kss) (by simpa using ho5) (HKS.out.kept (fun _ _ _ h => RF.any h))
        have HGK := Lib.hid hgk
        clear ho5 hg5 hgk
        refine hK.out _ _ (HSW.out _ HQ5.out.below HQ5.out.box HQ5.out.out) (fun hH8 => ?_)
        clear hK K
        refine wpB_take (i := 17) (v := .agg #[.string y.n.t, .int .i64 0, .int .i64 0, .slice ka y.ks.length kc]) [21] rfl (by kernel_rfl) (by kernel_rfl) (by kernel_rfl) (by kernel_rfl) (fun _ _ _ h => h) (Or.inl ⟨by kernel_rfl, fun wS hSw => by (try dsimp only at hSw); go_simp⟩) hH8 ?_
        have HQ2 := Lib.hid (HQ5.out.below' ((Below.refl w5.heap.size w5).alloc (Nat.le_refl _) (.cells #[.string y.n.t, .int .i64 0, .int .i64 0, .slice ka y.ks.length kc] 39)))
        refine wpB_step (i := 18) rfl (by kernel_rfl) (fun K hK => ?_)
        rw [if_pos (by kernel_rfl)]
        go_simp
        refine hK.out _ _ (HSW.out _ HQ2.out.below HQ2.out.box HQ2.out.out) (fun hH9 => ?_)
        clear hK K
        obtain ⟨css, ho, hgs⟩ := HQ2.out.r0
        rw [← HMM.out] at ho
        have HOW := Lib.hid ho
        have HGS := Lib.hid hgs
        clear ho hgs
        have nw := new_cells w5 [.string y.n.t, .int .i64 0, .int .i64 0, .slice ka y.ks.length kc] 39
        have hsz2 := HQ2.out.below.size
        refine wpB_step (i := 19) rfl (by kernel_rfl) (fun K hK => ?_)
        rw [if_pos (by kernel_rfl)]
        refine wp_append_own (w5.alloc (.cells #[.string y.n.t, .int .i64 0, .int .i64 0, .slice ka y.ks.length kc] 39)) _ _ 24 rfl w.heap.size 39 i0De _ 4 56 Tryz.underlying24 HIDe.out HZ0De.out HZ1De.out HZ2De.out rfl (by decide) (.slice va m vc) _ _ rfl HOW.out ⟨w5.heap.size, 0, none⟩ 1 1 [.string y.n.t, .int .i64 0, .int .i64 0, .slice ka y.ks.length kc] rfl rfl nw (by intro u hu; simp only [List.mem_cons, List.not_mem_nil, or_false] at hu; rcases hu with rfl | rfl | rfl | rfl <;> rfl) (by unfold maxLen; omega) (by omega) hsz2 ?_
        intro v4 w4 ho4 hg4 _
        have HK4 : Hid (KU 39 (w5.alloc (.cells #[.string y.n.t, .int .i64 0, .int .i64 0, .slice ka y.ks.length kc] 39)) w4) := Lib.hid (KU.grown HOW.out hg4)
        have HB4 : Hid (Below w.heap.size w w4) := Lib.hid (HQ2.out.below.grown hg4 hsz2 (fun k hk => (HOW.out.lt k hk).1))
        obtain ⟨va4, vc4, rfl⟩ := cs_own ho4
        have HX4 := Lib.hid (HK4.out.obj HQ2.out.box (by decide))
        have HO4 := Lib.hid (HK4.out.obj HQ2.out.out (by decide))
        have HR4 : Hid (Row (rDe tyT True) 39 4 w.heap.size w4 (.slice va4 (m + 1) vc4) ((x.ds.take (n + 1)).map plDe)) := Lib.hid (by
          rw [map_snoc HYY.out]
          refine Row.snoc (cs := [.string y.n.t, .int .i64 0, .int .i64 0, .slice ka y.ks.length kc]) (x := plDe y) ?_ (HGS.out.kept (fun _ _ _ h => rDe_ku h HK4.out (by decide))) rfl (⟨ka, kc, rfl, (HGK.out.belowF ((Below.refl w5.heap.size w5).alloc (Nat.le_refl _) _)).ku HK4.out (by decide), HYO.out⟩)
          rw [← HMM.out]
          exact ho4)
        clear ho4 hg4 nw
        refine hK.out _ _ (HSW.out _ HB4.out HX4.out HO4.out) (fun hH10 => ?_)
        clear hK K
        refine wpB_take (i := 20) (v := .pointer (some ⟨q, 3, none⟩)) [21] rfl (by kernel_rfl) (by kernel_rfl) (by kernel_rfl) (by kernel_rfl) (fun _ _ _ h => h) (Or.inl ⟨by kernel_rfl, fun wS hSw => by (try dsimp only at hSw); go_simp⟩) hH10 ?_
        skip
        have c1 : w4.cell? ⟨q, 3, none⟩ = some (.slice va m vc) := by rw [cell_of_row _ _ 3 _ _ _ HO4.out]; rfl
        have f1 : w4.frozen? ⟨q, 3, none⟩ = false := frozen_of_row _ _ 3 _ _ HO4.out
        refine wpB_past (i := 21) rfl (by kernel_rfl) (by kernel_rfl) (fun K hK => ?_)
        rw [if_pos (by kernel_rfl)]
        go_simp
        refine hK.out _ _ ?_
        clear hK K
        refine wpB_done (by kernel_rfl) ?_ _
        go_simp
        have HP5 := Lib.hid (HQ2.out.put0 HK4.out HB4.out HR4.out)
        go_wp2_with fail
        go_roundw
        case rel => exact ⟨n + 1, _, _, _, _, _, _, by omega, by go_num, HP5⟩
        case measure => simp [intOf] <;> omega
end Go.Proofs.YtojabkhfkbfeaaaGreatDoor

/- TreeRefPlain -/
namespace Go.Proofs.YtojabkhfkbfeaaaGreatDoor
open Go.RowKit
set_option linter.unusedVariables false

set_option maxHeartbeats 80000000 in
set_option maxRecDepth 100000 in
theorem refPlain_calls {Y : TyT} {O : Prop} (x : Tr) (cs : List Value) (w : World) (hr : TrIn Y O w cs x) (hs : SmT x) :
    Calls Tryz.prog 10 #[.agg cs.toArray] w (MadeTr (plT x) w) := by
  obtain ⟨⟨da, dc, qa, qc, fa, fc, ta, tc, la, lc, xa, xc, rfl, g0, g1, g2, g3, g4, g5⟩, hok⟩ := hr
  have HOK := Lib.hid hok
  have HSM := Lib.hid hs
  have HN := Lib.hid (fun (z : Id3) w1 => ident_calls z w1)
  have s0 := g0.small
  have G0 := Lib.hid g0
  have s1 := g1.small
  have G1 := Lib.hid g1
  have s2 := g2.small
  have G2 := Lib.hid g2
  have s3 := g3.small
  have G3 := Lib.hid g3
  have s4 := g4.small
  have G4 := Lib.hid g4
  have s5 := g5.small
  have G5 := Lib.hid g5
  clear g0 g1 g2 g3 g4 g5 hok hs
  have HB : Hid (Below w.heap.size w ((w.alloc (.cells #[.string x.n.t, .int .i64 x.n.l, .int .i64 x.n.c, .slice da x.ds.length dc, .slice qa x.qs.length qc, .slice fa x.fs.length fc, .slice ta x.st.length tc, .string x.s.t, .int .i64 x.s.l, .int .i64 x.s.c, .slice la x.al.length lc, .slice xa x.ts.length xc] 31)).alloc (.cells #[.string ⟨#[]⟩, .int .i64 0, .int .i64 0, .slice none 0 0, .slice none 0 0, .slice none 0 0, .slice none 0 0, .string ⟨#[]⟩, .int .i64 0, .int .i64 0, .slice none 0 0, .slice none 0 0] 31))) := Lib.hid (((Below.refl w.heap.size w).alloc (Nat.le_refl _) _).alloc (by simp) _)
  have HK0 : Hid (Below (w.heap.size + 2) ((w.alloc (.cells #[.string x.n.t, .int .i64 x.n.l, .int .i64 x.n.c, .slice da x.ds.length dc, .slice qa x.qs.length qc, .slice fa x.fs.length fc, .slice ta x.st.length tc, .string x.s.t, .int .i64 x.s.l, .int .i64 x.s.c, .slice la x.al.length lc, .slice xa x.ts.length xc] 31)).alloc (.cells #[.string ⟨#[]⟩, .int .i64 0, .int .i64 0, .slice none 0 0, .slice none 0 0, .slice none 0 0, .slice none 0 0, .string ⟨#[]⟩, .int .i64 0, .int .i64 0, .slice none 0 0, .slice none 0 0] 31)) ((w.alloc (.cells #[.string x.n.t, .int .i64 x.n.l, .int .i64 x.n.c, .slice da x.ds.length dc, .slice qa x.qs.length qc, .slice fa x.fs.length fc, .slice ta x.st.length tc, .string x.s.t, .int .i64 x.s.l, .int .i64 x.s.c, .slice la x.al.length lc, .slice xa x.ts.length xc] 31)).alloc (.cells #[.string ⟨#[]⟩, .int .i64 0, .int .i64 0, .slice none 0 0, .slice none 0 0, .slice none 0 0, .slice none 0 0, .string ⟨#[]⟩, .int .i64 0, .int .i64 0, .slice none 0 0, .slice none 0 0] 31)).drew) := Lib.hid ((Below.refl _ _).drew)
  go_enter Tryz.func10, Tryz.ntmps10
  go_upto_region 1 with (fail)
  go_cut [3] from 17 to 23 (fun s3 wx => ∃ q, s3 = .pointer (some ⟨q, 0, none⟩) ∧ Hid (PlS #[.string x.n.t, .int .i64 x.n.l, .int .i64 x.n.c, .slice da x.ds.length dc, .slice qa x.qs.length qc, .slice fa x.fs.length fc, .slice ta x.st.length tc, .string x.s.t, .int .i64 x.s.l, .int .i64 x.s.c, .slice la x.al.length lc, .slice xa x.ts.length xc] w x q (.slice none 0 0) (.slice none 0 0) (.slice none 0 0) (.slice none 0 0) (.slice none 0 0) (.slice none 0 0) [] [] [] [] [] [] wx))
  case first =>
    refine wp_region_B (S := (fun W => W.cell? ⟨w.heap.size, 0, none⟩ = some (.string x.n.t) ∧ W.cell? ⟨w.heap.size, 1, none⟩ = some (.int .i64 x.n.l) ∧ W.cell? ⟨w.heap.size, 2, none⟩ = some (.int .i64 x.n.c) ∧ W.cell? ⟨w.heap.size, 7, none⟩ = some (.string x.s.t) ∧ W.cell? ⟨w.heap.size, 8, none⟩ = some (.int .i64 x.s.l) ∧ W.cell? ⟨w.heap.size, 9, none⟩ = some (.int .i64 x.s.c))) [8] (by kernel_rfl) (by obtain ⟨u, _⟩ := box2 HK0.out; exact ⟨u 0 _ rfl, u 1 _ rfl, u 2 _ rfl, u 7 _ rfl, u 8 _ rfl, u 9 _ rfl⟩) (fun hH0 => ?_)
    refine wpB_take (i := 0) (v := .pointer (some ⟨w.heap.size, 0, none⟩)) [8] rfl (by kernel_rfl) (by kernel_rfl) (by kernel_rfl) (by kernel_rfl) (fun _ _ _ h => h) (Or.inl ⟨by kernel_rfl, fun wS hSw => by (try dsimp only at hSw); go_simp⟩) hH0 ?_
    refine wpB_take (i := 1) (v := .agg #[.string x.n.t, .int .i64 x.n.l, .int .i64 x.n.c]) [8] rfl (by kernel_rfl) (by kernel_rfl) (by kernel_rfl) (by kernel_rfl) (fun _ _ _ h => h) (Or.inl ⟨by kernel_rfl, fun wS hSw => by (try dsimp only at hSw); go_simp⟩) hH0 ?_
    refine wpB_take (i := 3) (v := .pointer (some ⟨w.heap.size, 7, none⟩)) [8] rfl (by kernel_rfl) (by kernel_rfl) (by kernel_rfl) (by kernel_rfl) (fun _ _ _ h => h) (Or.inl ⟨by kernel_rfl, fun wS hSw => by (try dsimp only at hSw); go_simp⟩) hH0 ?_
    refine wpB_take (i := 4) (v := .agg #[.string x.s.t, .int .i64 x.s.l, .int .i64 x.s.c]) [8] rfl (by kernel_rfl) (by kernel_rfl) (by kernel_rfl) (by kernel_rfl) (fun _ _ _ h => h) (Or.inl ⟨by kernel_rfl, fun wS hSw => by (try dsimp only at hSw); go_simp⟩) hH0 ?_
    have HSB : Hid (∀ W, Below (w.heap.size + 2) ((w.alloc (.cells #[.string x.n.t, .int .i64 x.n.l, .int .i64 x.n.c, .slice da x.ds.length dc, .slice qa x.qs.length qc, .slice fa x.fs.length fc, .slice ta x.st.length tc, .string x.s.t, .int .i64 x.s.l, .int .i64 x.s.c, .slice la x.al.length lc, .slice xa x.ts.length xc] 31)).alloc (.cells #[.string ⟨#[]⟩, .int .i64 0, .int .i64 0, .slice none 0 0, .slice none 0 0, .slice none 0 0, .slice none 0 0, .string ⟨#[]⟩, .int .i64 0, .int .i64 0, .slice none 0 0, .slice none 0 0] 31)) W → (W.cell? ⟨w.heap.size, 0, none⟩ = some (.string x.n.t) ∧ W.cell? ⟨w.heap.size, 1, none⟩ = some (.int .i64 x.n.l) ∧ W.cell? ⟨w.heap.size, 2, none⟩ = some (.int .i64 x.n.c) ∧ W.cell? ⟨w.heap.size, 7, none⟩ = some (.string x.s.t) ∧ W.cell? ⟨w.heap.size, 8, none⟩ = some (.int .i64 x.s.l) ∧ W.cell? ⟨w.heap.size, 9, none⟩ = some (.int .i64 x.s.c))) := Lib.hid (fun W hb => by obtain ⟨u, _⟩ := box2 hb; exact ⟨u 0 _ rfl, u 1 _ rfl, u 2 _ rfl, u 7 _ rfl, u 8 _ rfl, u 9 _ rfl⟩)
    refine wpB_two (i := 2) (j := 7) rfl rfl (by kernel_rfl) (fun K hK => ?_) (fun K hK => ?_)
    · rw [if_pos (by kernel_rfl)]
      go_simp
      refine (HN.out x.n _).mono ?_
      rintro e u1 ⟨rfl, k⟩
      have HL1 := Lib.hid (HK0.out.trans (k.mono (by first | (simp; done) | (have := HK0.out.size; simpa using this))))
      clear k
      refine hK.out _ _ (HSB.out _ HL1.out) (fun hHa => ?_)
      clear hK K
      refine wpB_two (i := 5) (j := 7) rfl rfl (by kernel_rfl) (fun K hK => ?_) (fun K hK => ?_)
      · rw [if_pos (by kernel_rfl)]
        go_simp
        refine (HN.out x.s _).mono ?_
        rintro e u2 ⟨rfl, k⟩
        have HL2 := Lib.hid (HL1.out.trans (k.mono (by first | (simp; done) | (have := HL1.out.size; simpa using this))))
        clear k
        refine hK.out _ _ (HSB.out _ HL2.out) (fun hHb => ?_)
        clear hK K
        refine wpB_take (i := 6) (v := .agg #[.string x.n.t, .int .i64 0, .int .i64 0, .slice none 0 0, .slice none 0 0, .slice none 0 0, .slice none 0 0, .string x.s.t, .int .i64 0, .int .i64 0, .slice none 0 0, .slice none 0 0]) [8] rfl (by kernel_rfl) (by kernel_rfl) (by kernel_rfl) (by kernel_rfl) (fun _ _ _ h => h) (Or.inl ⟨by kernel_rfl, fun wS hSw => by (try dsimp only at hSw); go_simp⟩) hHb ?_
        refine wpB_step (i := 7) rfl (by kernel_rfl) (fun K hK => ?_)
        rw [if_pos (by kernel_rfl)]
        go_simp
        have HL3 : Hid (Below (w.heap.size + 2) ((w.alloc (.cells #[.string x.n.t, .int .i64 x.n.l, .int .i64 x.n.c, .slice da x.ds.length dc, .slice qa x.qs.length qc, .slice fa x.fs.length fc, .slice ta x.st.length tc, .string x.s.t, .int .i64 x.s.l, .int .i64 x.s.c, .slice la x.al.length lc, .slice xa x.ts.length xc] 31)).alloc (.cells #[.string ⟨#[]⟩, .int .i64 0, .int .i64 0, .slice none 0 0, .slice none 0 0, .slice none 0 0, .slice none 0 0, .string ⟨#[]⟩, .int .i64 0, .int .i64 0, .slice none 0 0, .slice none 0 0] 31)) (u2.alloc (.cells #[.string ⟨#[]⟩, .int .i64 0, .int .i64 0, .slice none 0 0, .slice none 0 0, .slice none 0 0, .slice none 0 0, .string ⟨#[]⟩, .int .i64 0, .int .i64 0, .slice none 0 0, .slice none 0 0] 31))) := Lib.hid (HL2.out.alloc (by have := HL2.out.size; simpa using this) _)
        refine hK.out _ _ (HSB.out _ HL3.out) (fun hHz => ?_)
        clear hK K
        refine wpB_past (i := 8) rfl (by kernel_rfl) (by kernel_rfl) (fun K hK => ?_)
        rw [if_pos (by kernel_rfl)]
        go_simp
        refine hK.out _ _ ?_
        clear hK K
        refine wpB_done (by kernel_rfl) ?_ _
        go_simp
        have hsz : w.heap.size + 2 ≤ u2.heap.size := by have := HL2.out.size; simp at this; omega
        go_wp2_with fail
        go_meet
        case rel => exact ⟨u2.heap.size, rfl, Lib.hid (pls_new (HL2.out.alloc hsz _) (by omega) (heap_alloc_new _ _))⟩
      · rw [if_pos (by kernel_rfl)]
        go_simp
        have HL3 : Hid (Below (w.heap.size + 2) ((w.alloc (.cells #[.string x.n.t, .int .i64 x.n.l, .int .i64 x.n.c, .slice da x.ds.length dc, .slice qa x.qs.length qc, .slice fa x.fs.length fc, .slice ta x.st.length tc, .string x.s.t, .int .i64 x.s.l, .int .i64 x.s.c, .slice la x.al.length lc, .slice xa x.ts.length xc] 31)).alloc (.cells #[.string ⟨#[]⟩, .int .i64 0, .int .i64 0, .slice none 0 0, .slice none 0 0, .slice none 0 0, .slice none 0 0, .string ⟨#[]⟩, .int .i64 0, .int .i64 0, .slice none 0 0, .slice none 0 0] 31)) (u1.alloc (.cells #[.string ⟨#[]⟩, .int .i64 0, .int .i64 0, .slice none 0 0, .slice none 0 0, .slice none 0 0, .slice none 0 0, .string ⟨#[]⟩, .int .i64 0, .int .i64 0, .slice none 0 0, .slice none 0 0] 31))) := Lib.hid (HL1.out.alloc (by have := HL1.out.size; simpa using this) _)
        have HA0 := Lib.hid (heap_alloc_new u1 (.cells #[.string ⟨#[]⟩, .int .i64 0, .int .i64 0, .slice none 0 0, .slice none 0 0, .slice none 0 0, .slice none 0 0, .string ⟨#[]⟩, .int .i64 0, .int .i64 0, .slice none 0 0, .slice none 0 0] 31))
        refine hK.out _ _ (HSB.out _ HL3.out) (fun hHb => ?_)
        clear hK K
        refine wpB_step (i := 5) rfl (by kernel_rfl) (fun K hK => ?_)
        rw [if_pos (by kernel_rfl)]
        go_simp
        refine (HN.out x.s _).mono ?_
        rintro e u2 ⟨rfl, k⟩
        have HL2 := Lib.hid (HL3.out.trans (k.mono (by first | (simp; done) | (have := HL3.out.size; simpa using this))))
        have HA := Lib.hid ((k.block u1.heap.size (by simp)).trans HA0.out)
        have hqq : w.heap.size + 2 ≤ u1.heap.size := by have := HL1.out.size; simpa using this
        clear k
        refine hK.out _ _ (HSB.out _ HL2.out) (fun hHz => ?_)
        clear hK K
        refine wpB_take (i := 6) (v := .agg #[.string x.n.t, .int .i64 0, .int .i64 0, .slice none 0 0, .slice none 0 0, .slice none 0 0, .slice none 0 0, .string x.s.t, .int .i64 0, .int .i64 0, .slice none 0 0, .slice none 0 0]) [8] rfl (by kernel_rfl) (by kernel_rfl) (by kernel_rfl) (by kernel_rfl) (fun _ _ _ h => h) (Or.inl ⟨by kernel_rfl, fun wS hSw => by (try dsimp only at hSw); go_simp⟩) hHz ?_
        have e0 : u2.cell? ⟨u1.heap.size, 0, none⟩ = some (.string ⟨#[]⟩) := by rw [cell_of_row _ _ 0 _ _ _ HA.out]; rfl
        have f0 : u2.frozen? ⟨u1.heap.size, 0, none⟩ = false := frozen_of_row _ _ 0 _ _ HA.out
        have e1 : u2.cell? ⟨u1.heap.size, 1, none⟩ = some (.int .i64 0) := by rw [cell_of_row _ _ 1 _ _ _ HA.out]; rfl
        have f1 : u2.frozen? ⟨u1.heap.size, 1, none⟩ = false := frozen_of_row _ _ 1 _ _ HA.out
        have e2 : u2.cell? ⟨u1.heap.size, 2, none⟩ = some (.int .i64 0) := by rw [cell_of_row _ _ 2 _ _ _ HA.out]; rfl
        have f2 : u2.frozen? ⟨u1.heap.size, 2, none⟩ = false := frozen_of_row _ _ 2 _ _ HA.out
        have e3 : u2.cell? ⟨u1.heap.size, 3, none⟩ = some (.slice none 0 0) := by rw [cell_of_row _ _ 3 _ _ _ HA.out]; rfl
        have f3 : u2.frozen? ⟨u1.heap.size, 3, none⟩ = false := frozen_of_row _ _ 3 _ _ HA.out
        have e4 : u2.cell? ⟨u1.heap.size, 4, none⟩ = some (.slice none 0 0) := by rw [cell_of_row _ _ 4 _ _ _ HA.out]; rfl
        have f4 : u2.frozen? ⟨u1.heap.size, 4, none⟩ = false := frozen_of_row _ _ 4 _ _ HA.out
        have e5 : u2.cell? ⟨u1.heap.size, 5, none⟩ = some (.slice none 0 0) := by rw [cell_of_row _ _ 5 _ _ _ HA.out]; rfl
        have f5 : u2.frozen? ⟨u1.heap.size, 5, none⟩ = false := frozen_of_row _ _ 5 _ _ HA.out
        have e6 : u2.cell? ⟨u1.heap.size, 6, none⟩ = some (.slice none 0 0) := by rw [cell_of_row _ _ 6 _ _ _ HA.out]; rfl
        have f6 : u2.frozen? ⟨u1.heap.size, 6, none⟩ = false := frozen_of_row _ _ 6 _ _ HA.out
        have e7 : u2.cell? ⟨u1.heap.size, 7, none⟩ = some (.string ⟨#[]⟩) := by rw [cell_of_row _ _ 7 _ _ _ HA.out]; rfl
        have f7 : u2.frozen? ⟨u1.heap.size, 7, none⟩ = false := frozen_of_row _ _ 7 _ _ HA.out
        have e8 : u2.cell? ⟨u1.heap.size, 8, none⟩ = some (.int .i64 0) := by rw [cell_of_row _ _ 8 _ _ _ HA.out]; rfl
        have f8 : u2.frozen? ⟨u1.heap.size, 8, none⟩ = false := frozen_of_row _ _ 8 _ _ HA.out
        have e9 : u2.cell? ⟨u1.heap.size, 9, none⟩ = some (.int .i64 0) := by rw [cell_of_row _ _ 9 _ _ _ HA.out]; rfl
        have f9 : u2.frozen? ⟨u1.heap.size, 9, none⟩ = false := frozen_of_row _ _ 9 _ _ HA.out
        have e10 : u2.cell? ⟨u1.heap.size, 10, none⟩ = some (.slice none 0 0) := by rw [cell_of_row _ _ 10 _ _ _ HA.out]; rfl
        have f10 : u2.frozen? ⟨u1.heap.size, 10, none⟩ = false := frozen_of_row _ _ 10 _ _ HA.out
        have e11 : u2.cell? ⟨u1.heap.size, 11, none⟩ = some (.slice none 0 0) := by rw [cell_of_row _ _ 11 _ _ _ HA.out]; rfl
        have f11 : u2.frozen? ⟨u1.heap.size, 11, none⟩ = false := frozen_of_row _ _ 11 _ _ HA.out
        refine wpB_past (i := 8) rfl (by kernel_rfl) (by kernel_rfl) (fun K hK => ?_)
        rw [if_pos (by kernel_rfl)]
        go_simp
        refine hK.out _ _ ?_
        clear hK K
        refine wpB_done (by kernel_rfl) ?_ _
        go_simp
        go_wp2_with fail
        go_meet
        have x0 : (u2.setCell ⟨u1.heap.size, 0, none⟩ (.string x.n.t)).heap[u1.heap.size]? = some (.cells #[.string x.n.t, .int .i64 0, .int .i64 0, .slice none 0 0, .slice none 0 0, .slice none 0 0, .slice none 0 0, .string ⟨#[]⟩, .int .i64 0, .int .i64 0, .slice none 0 0, .slice none 0 0] 31 (0, 0)) := heap_setCell_same u2 (u1.heap.size) 0 _ _ (.string x.n.t) HA.out
        have x1 : ((u2.setCell ⟨u1.heap.size, 0, none⟩ (.string x.n.t)).setCell ⟨u1.heap.size, 1, none⟩ (.int .i64 0)).heap[u1.heap.size]? = some (.cells #[.string x.n.t, .int .i64 0, .int .i64 0, .slice none 0 0, .slice none 0 0, .slice none 0 0, .slice none 0 0, .string ⟨#[]⟩, .int .i64 0, .int .i64 0, .slice none 0 0, .slice none 0 0] 31 (0, 0)) := heap_setCell_same (u2.setCell ⟨u1.heap.size, 0, none⟩ (.string x.n.t)) (u1.heap.size) 1 _ _ (.int .i64 0) x0
        have x2 : (((u2.setCell ⟨u1.heap.size, 0, none⟩ (.string x.n.t)).setCell ⟨u1.heap.size, 1, none⟩ (.int .i64 0)).setCell ⟨u1.heap.size, 2, none⟩ (.int .i64 0)).heap[u1.heap.size]? = some (.cells #[.string x.n.t, .int .i64 0, .int .i64 0, .slice none 0 0, .slice none 0 0, .slice none 0 0, .slice none 0 0, .string ⟨#[]⟩, .int .i64 0, .int .i64 0, .slice none 0 0, .slice none 0 0] 31 (0, 0)) := heap_setCell_same ((u2.setCell ⟨u1.heap.size, 0, none⟩ (.string x.n.t)).setCell ⟨u1.heap.size, 1, none⟩ (.int .i64 0)) (u1.heap.size) 2 _ _ (.int .i64 0) x1
        have x3 : ((((u2.setCell ⟨u1.heap.size, 0, none⟩ (.string x.n.t)).setCell ⟨u1.heap.size, 1, none⟩ (.int .i64 0)).setCell ⟨u1.heap.size, 2, none⟩ (.int .i64 0)).setCell ⟨u1.heap.size, 3, none⟩ (.slice none 0 0)).heap[u1.heap.size]? = some (.cells #[.string x.n.t, .int .i64 0, .int .i64 0, .slice none 0 0, .slice none 0 0, .slice none 0 0, .slice none 0 0, .string ⟨#[]⟩, .int .i64 0, .int .i64 0, .slice none 0 0, .slice none 0 0] 31 (0, 0)) := heap_setCell_same (((u2.setCell ⟨u1.heap.size, 0, none⟩ (.string x.n.t)).setCell ⟨u1.heap.size, 1, none⟩ (.int .i64 0)).setCell ⟨u1.heap.size, 2, none⟩ (.int .i64 0)) (u1.heap.size) 3 _ _ (.slice none 0 0) x2
        have x4 : (((((u2.setCell ⟨u1.heap.size, 0, none⟩ (.string x.n.t)).setCell ⟨u1.heap.size, 1, none⟩ (.int .i64 0)).setCell ⟨u1.heap.size, 2, none⟩ (.int .i64 0)).setCell ⟨u1.heap.size, 3, none⟩ (.slice none 0 0)).setCell ⟨u1.heap.size, 4, none⟩ (.slice none 0 0)).heap[u1.heap.size]? = some (.cells #[.string x.n.t, .int .i64 0, .int .i64 0, .slice none 0 0, .slice none 0 0, .slice none 0 0, .slice none 0 0, .string ⟨#[]⟩, .int .i64 0, .int .i64 0, .slice none 0 0, .slice none 0 0] 31 (0, 0)) := heap_setCell_same ((((u2.setCell ⟨u1.heap.size, 0, none⟩ (.string x.n.t)).setCell ⟨u1.heap.size, 1, none⟩ (.int .i64 0)).setCell ⟨u1.heap.size, 2, none⟩ (.int .i64 0)).setCell ⟨u1.heap.size, 3, none⟩ (.slice none 0 0)) (u1.heap.size) 4 _ _ (.slice none 0 0) x3
        have x5 : ((((((u2.setCell ⟨u1.heap.size, 0, none⟩ (.string x.n.t)).setCell ⟨u1.heap.size, 1, none⟩ (.int .i64 0)).setCell ⟨u1.heap.size, 2, none⟩ (.int .i64 0)).setCell ⟨u1.heap.size, 3, none⟩ (.slice none 0 0)).setCell ⟨u1.heap.size, 4, none⟩ (.slice none 0 0)).setCell ⟨u1.heap.size, 5, none⟩ (.slice none 0 0)).heap[u1.heap.size]? = some (.cells #[.string x.n.t, .int .i64 0, .int .i64 0, .slice none 0 0, .slice none 0 0, .slice none 0 0, .slice none 0 0, .string ⟨#[]⟩, .int .i64 0, .int .i64 0, .slice none 0 0, .slice none 0 0] 31 (0, 0)) := heap_setCell_same (((((u2.setCell ⟨u1.heap.size, 0, none⟩ (.string x.n.t)).setCell ⟨u1.heap.size, 1, none⟩ (.int .i64 0)).setCell ⟨u1.heap.size, 2, none⟩ (.int .i64 0)).setCell ⟨u1.heap.size, 3, none⟩ (.slice none 0 0)).setCell ⟨u1.heap.size, 4, none⟩ (.slice none 0 0)) (u1.heap.size) 5 _ _ (.slice none 0 0) x4
        have x6 : (((((((u2.setCell ⟨u1.heap.size, 0, none⟩ (.string x.n.t)).setCell ⟨u1.heap.size, 1, none⟩ (.int .i64 0)).setCell ⟨u1.heap.size, 2, none⟩ (.int .i64 0)).setCell ⟨u1.heap.size, 3, none⟩ (.slice none 0 0)).setCell ⟨u1.heap.size, 4, none⟩ (.slice none 0 0)).setCell ⟨u1.heap.size, 5, none⟩ (.slice none 0 0)).setCell ⟨u1.heap.size, 6, none⟩ (.slice none 0 0)).heap[u1.heap.size]? = some (.cells #[.string x.n.t, .int .i64 0, .int .i64 0, .slice none 0 0, .slice none 0 0, .slice none 0 0, .slice none 0 0, .string ⟨#[]⟩, .int .i64 0, .int .i64 0, .slice none 0 0, .slice none 0 0] 31 (0, 0)) := heap_setCell_same ((((((u2.setCell ⟨u1.heap.size, 0, none⟩ (.string x.n.t)).setCell ⟨u1.heap.size, 1, none⟩ (.int .i64 0)).setCell ⟨u1.heap.size, 2, none⟩ (.int .i64 0)).setCell ⟨u1.heap.size, 3, none⟩ (.slice none 0 0)).setCell ⟨u1.heap.size, 4, none⟩ (.slice none 0 0)).setCell ⟨u1.heap.size, 5, none⟩ (.slice none 0 0)) (u1.heap.size) 6 _ _ (.slice none 0 0) x5
        have x7 : ((((((((u2.setCell ⟨u1.heap.size, 0, none⟩ (.string x.n.t)).setCell ⟨u1.heap.size, 1, none⟩ (.int .i64 0)).setCell ⟨u1.heap.size, 2, none⟩ (.int .i64 0)).setCell ⟨u1.heap.size, 3, none⟩ (.slice none 0 0)).setCell ⟨u1.heap.size, 4, none⟩ (.slice none 0 0)).setCell ⟨u1.heap.size, 5, none⟩ (.slice none 0 0)).setCell ⟨u1.heap.size, 6, none⟩ (.slice none 0 0)).setCell ⟨u1.heap.size, 7, none⟩ (.string x.s.t)).heap[u1.heap.size]? = some (.cells #[.string x.n.t, .int .i64 0, .int .i64 0, .slice none 0 0, .slice none 0 0, .slice none 0 0, .slice none 0 0, .string x.s.t, .int .i64 0, .int .i64 0, .slice none 0 0, .slice none 0 0] 31 (0, 0)) := heap_setCell_same (((((((u2.setCell ⟨u1.heap.size, 0, none⟩ (.string x.n.t)).setCell ⟨u1.heap.size, 1, none⟩ (.int .i64 0)).setCell ⟨u1.heap.size, 2, none⟩ (.int .i64 0)).setCell ⟨u1.heap.size, 3, none⟩ (.slice none 0 0)).setCell ⟨u1.heap.size, 4, none⟩ (.slice none 0 0)).setCell ⟨u1.heap.size, 5, none⟩ (.slice none 0 0)).setCell ⟨u1.heap.size, 6, none⟩ (.slice none 0 0)) (u1.heap.size) 7 _ _ (.string x.s.t) x6
        have x8 : (((((((((u2.setCell ⟨u1.heap.size, 0, none⟩ (.string x.n.t)).setCell ⟨u1.heap.size, 1, none⟩ (.int .i64 0)).setCell ⟨u1.heap.size, 2, none⟩ (.int .i64 0)).setCell ⟨u1.heap.size, 3, none⟩ (.slice none 0 0)).setCell ⟨u1.heap.size, 4, none⟩ (.slice none 0 0)).setCell ⟨u1.heap.size, 5, none⟩ (.slice none 0 0)).setCell ⟨u1.heap.size, 6, none⟩ (.slice none 0 0)).setCell ⟨u1.heap.size, 7, none⟩ (.string x.s.t)).setCell ⟨u1.heap.size, 8, none⟩ (.int .i64 0)).heap[u1.heap.size]? = some (.cells #[.string x.n.t, .int .i64 0, .int .i64 0, .slice none 0 0, .slice none 0 0, .slice none 0 0, .slice none 0 0, .string x.s.t, .int .i64 0, .int .i64 0, .slice none 0 0, .slice none 0 0] 31 (0, 0)) := heap_setCell_same ((((((((u2.setCell ⟨u1.heap.size, 0, none⟩ (.string x.n.t)).setCell ⟨u1.heap.size, 1, none⟩ (.int .i64 0)).setCell ⟨u1.heap.size, 2, none⟩ (.int .i64 0)).setCell ⟨u1.heap.size, 3, none⟩ (.slice none 0 0)).setCell ⟨u1.heap.size, 4, none⟩ (.slice none 0 0)).setCell ⟨u1.heap.size, 5, none⟩ (.slice none 0 0)).setCell ⟨u1.heap.size, 6, none⟩ (.slice none 0 0)).setCell ⟨u1.heap.size, 7, none⟩ (.string x.s.t)) (u1.heap.size) 8 _ _ (.int .i64 0) x7
        have x9 : ((((((((((u2.setCell ⟨u1.heap.size, 0, none⟩ (.string x.n.t)).setCell ⟨u1.heap.size, 1, none⟩ (.int .i64 0)).setCell ⟨u1.heap.size, 2, none⟩ (.int .i64 0)).setCell ⟨u1.heap.size, 3, none⟩ (.slice none 0 0)).setCell ⟨u1.heap.size, 4, none⟩ (.slice none 0 0)).setCell ⟨u1.heap.size, 5, none⟩ (.slice none 0 0)).setCell ⟨u1.heap.size, 6, none⟩ (.slice none 0 0)).setCell ⟨u1.heap.size, 7, none⟩ (.string x.s.t)).setCell ⟨u1.heap.size, 8, none⟩ (.int .i64 0)).setCell ⟨u1.heap.size, 9, none⟩ (.int .i64 0)).heap[u1.heap.size]? = some (.cells #[.string x.n.t, .int .i64 0, .int .i64 0, .slice none 0 0, .slice none 0 0, .slice none 0 0, .slice none 0 0, .string x.s.t, .int .i64 0, .int .i64 0, .slice none 0 0, .slice none 0 0] 31 (0, 0)) := heap_setCell_same (((((((((u2.setCell ⟨u1.heap.size, 0, none⟩ (.string x.n.t)).setCell ⟨u1.heap.size, 1, none⟩ (.int .i64 0)).setCell ⟨u1.heap.size, 2, none⟩ (.int .i64 0)).setCell ⟨u1.heap.size, 3, none⟩ (.slice none 0 0)).setCell ⟨u1.heap.size, 4, none⟩ (.slice none 0 0)).setCell ⟨u1.heap.size, 5, none⟩ (.slice none 0 0)).setCell ⟨u1.heap.size, 6, none⟩ (.slice none 0 0)).setCell ⟨u1.heap.size, 7, none⟩ (.string x.s.t)).setCell ⟨u1.heap.size, 8, none⟩ (.int .i64 0)) (u1.heap.size) 9 _ _ (.int .i64 0) x8
        have x10 : (((((((((((u2.setCell ⟨u1.heap.size, 0, none⟩ (.string x.n.t)).setCell ⟨u1.heap.size, 1, none⟩ (.int .i64 0)).setCell ⟨u1.heap.size, 2, none⟩ (.int .i64 0)).setCell ⟨u1.heap.size, 3, none⟩ (.slice none 0 0)).setCell ⟨u1.heap.size, 4, none⟩ (.slice none 0 0)).setCell ⟨u1.heap.size, 5, none⟩ (.slice none 0 0)).setCell ⟨u1.heap.size, 6, none⟩ (.slice none 0 0)).setCell ⟨u1.heap.size, 7, none⟩ (.string x.s.t)).setCell ⟨u1.heap.size, 8, none⟩ (.int .i64 0)).setCell ⟨u1.heap.size, 9, none⟩ (.int .i64 0)).setCell ⟨u1.heap.size, 10, none⟩ (.slice none 0 0)).heap[u1.heap.size]? = some (.cells #[.string x.n.t, .int .i64 0, .int .i64 0, .slice none 0 0, .slice none 0 0, .slice none 0 0, .slice none 0 0, .string x.s.t, .int .i64 0, .int .i64 0, .slice none 0 0, .slice none 0 0] 31 (0, 0)) := heap_setCell_same ((((((((((u2.setCell ⟨u1.heap.size, 0, none⟩ (.string x.n.t)).setCell ⟨u1.heap.size, 1, none⟩ (.int .i64 0)).setCell ⟨u1.heap.size, 2, none⟩ (.int .i64 0)).setCell ⟨u1.heap.size, 3, none⟩ (.slice none 0 0)).setCell ⟨u1.heap.size, 4, none⟩ (.slice none 0 0)).setCell ⟨u1.heap.size, 5, none⟩ (.slice none 0 0)).setCell ⟨u1.heap.size, 6, none⟩ (.slice none 0 0)).setCell ⟨u1.heap.size, 7, none⟩ (.string x.s.t)).setCell ⟨u1.heap.size, 8, none⟩ (.int .i64 0)).setCell ⟨u1.heap.size, 9, none⟩ (.int .i64 0)) (u1.heap.size) 10 _ _ (.slice none 0 0) x9
        have x11 : ((((((((((((u2.setCell ⟨u1.heap.size, 0, none⟩ (.string x.n.t)).setCell ⟨u1.heap.size, 1, none⟩ (.int .i64 0)).setCell ⟨u1.heap.size, 2, none⟩ (.int .i64 0)).setCell ⟨u1.heap.size, 3, none⟩ (.slice none 0 0)).setCell ⟨u1.heap.size, 4, none⟩ (.slice none 0 0)).setCell ⟨u1.heap.size, 5, none⟩ (.slice none 0 0)).setCell ⟨u1.heap.size, 6, none⟩ (.slice none 0 0)).setCell ⟨u1.heap.size, 7, none⟩ (.string x.s.t)).setCell ⟨u1.heap.size, 8, none⟩ (.int .i64 0)).setCell ⟨u1.heap.size, 9, none⟩ (.int .i64 0)).setCell ⟨u1.heap.size, 10, none⟩ (.slice none 0 0)).setCell ⟨u1.heap.size, 11, none⟩ (.slice none 0 0)).heap[u1.heap.size]? = some (.cells #[.string x.n.t, .int .i64 0, .int .i64 0, .slice none 0 0, .slice none 0 0, .slice none 0 0, .slice none 0 0, .string x.s.t, .int .i64 0, .int .i64 0, .slice none 0 0, .slice none 0 0] 31 (0, 0)) := heap_setCell_same (((((((((((u2.setCell ⟨u1.heap.size, 0, none⟩ (.string x.n.t)).setCell ⟨u1.heap.size, 1, none⟩ (.int .i64 0)).setCell ⟨u1.heap.size, 2, none⟩ (.int .i64 0)).setCell ⟨u1.heap.size, 3, none⟩ (.slice none 0 0)).setCell ⟨u1.heap.size, 4, none⟩ (.slice none 0 0)).setCell ⟨u1.heap.size, 5, none⟩ (.slice none 0 0)).setCell ⟨u1.heap.size, 6, none⟩ (.slice none 0 0)).setCell ⟨u1.heap.size, 7, none⟩ (.string x.s.t)).setCell ⟨u1.heap.size, 8, none⟩ (.int .i64 0)).setCell ⟨u1.heap.size, 9, none⟩ (.int .i64 0)).setCell ⟨u1.heap.size, 10, none⟩ (.slice none 0 0)) (u1.heap.size) 11 _ _ (.slice none 0 0) x10
        case rel => exact ⟨u1.heap.size, rfl, Lib.hid (pls_new (((((((((((((HL2.out).setCell hqq (.string x.n.t)).setCell hqq (.int .i64 0)).setCell hqq (.int .i64 0)).setCell hqq (.slice none 0 0)).setCell hqq (.slice none 0 0)).setCell hqq (.slice none 0 0)).setCell hqq (.slice none 0 0)).setCell hqq (.string x.s.t)).setCell hqq (.int .i64 0)).setCell hqq (.int .i64 0)).setCell hqq (.slice none 0 0)).setCell hqq (.slice none 0 0)) (by omega) x11)⟩
    · rw [if_pos (by kernel_rfl)]
      go_simp
      have HL3 : Hid (Below (w.heap.size + 2) ((w.alloc (.cells #[.string x.n.t, .int .i64 x.n.l, .int .i64 x.n.c, .slice da x.ds.length dc, .slice qa x.qs.length qc, .slice fa x.fs.length fc, .slice ta x.st.length tc, .string x.s.t, .int .i64 x.s.l, .int .i64 x.s.c, .slice la x.al.length lc, .slice xa x.ts.length xc] 31)).alloc (.cells #[.string ⟨#[]⟩, .int .i64 0, .int .i64 0, .slice none 0 0, .slice none 0 0, .slice none 0 0, .slice none 0 0, .string ⟨#[]⟩, .int .i64 0, .int .i64 0, .slice none 0 0, .slice none 0 0] 31)) (((w.alloc (.cells #[.string x.n.t, .int .i64 x.n.l, .int .i64 x.n.c, .slice da x.ds.length dc, .slice qa x.qs.length qc, .slice fa x.fs.length fc, .slice ta x.st.length tc, .string x.s.t, .int .i64 x.s.l, .int .i64 x.s.c, .slice la x.al.length lc, .slice xa x.ts.length xc] 31)).alloc (.cells #[.string ⟨#[]⟩, .int .i64 0, .int .i64 0, .slice none 0 0, .slice none 0 0, .slice none 0 0, .slice none 0 0, .string ⟨#[]⟩, .int .i64 0, .int .i64 0, .slice none 0 0, .slice none 0 0] 31)).drew.alloc (.cells #[.string ⟨#[]⟩, .int .i64 0, .int .i64 0, .slice none 0 0, .slice none 0 0, .slice none 0 0, .slice none 0 0, .string ⟨#[]⟩, .int .i64 0, .int .i64 0, .slice none 0 0, .slice none 0 0] 31))) := Lib.hid (HK0.out.alloc (by simp) _)
      have HA0 : Hid ((((w.alloc (.cells #[.string x.n.t, .int .i64 x.n.l, .int .i64 x.n.c, .slice da x.ds.length dc, .slice qa x.qs.length qc, .slice fa x.fs.length fc, .slice ta x.st.length tc, .string x.s.t, .int .i64 x.s.l, .int .i64 x.s.c, .slice la x.al.length lc, .slice xa x.ts.length xc] 31)).alloc (.cells #[.string ⟨#[]⟩, .int .i64 0, .int .i64 0, .slice none 0 0, .slice none 0 0, .slice none 0 0, .slice none 0 0, .string ⟨#[]⟩, .int .i64 0, .int .i64 0, .slice none 0 0, .slice none 0 0] 31)).drew.alloc (.cells #[.string ⟨#[]⟩, .int .i64 0, .int .i64 0, .slice none 0 0, .slice none 0 0, .slice none 0 0, .slice none 0 0, .string ⟨#[]⟩, .int .i64 0, .int .i64 0, .slice none 0 0, .slice none 0 0] 31)).heap[w.heap.size + 1 + 1]? = some (.cells #[.string ⟨#[]⟩, .int .i64 0, .int .i64 0, .slice none 0 0, .slice none 0 0, .slice none 0 0, .slice none 0 0, .string ⟨#[]⟩, .int .i64 0, .int .i64 0, .slice none 0 0, .slice none 0 0] 31 (0, 0))) := Lib.hid (by have h := heap_alloc_new ((w.alloc (.cells #[.string x.n.t, .int .i64 x.n.l, .int .i64 x.n.c, .slice da x.ds.length dc, .slice qa x.qs.length qc, .slice fa x.fs.length fc, .slice ta x.st.length tc, .string x.s.t, .int .i64 x.s.l, .int .i64 x.s.c, .slice la x.al.length lc, .slice xa x.ts.length xc] 31)).alloc (.cells #[.string ⟨#[]⟩, .int .i64 0, .int .i64 0, .slice none 0 0, .slice none 0 0, .slice none 0 0, .slice none 0 0, .string ⟨#[]⟩, .int .i64 0, .int .i64 0, .slice none 0 0, .slice none 0 0] 31)).drew (.cells #[.string ⟨#[]⟩, .int .i64 0, .int .i64 0, .slice none 0 0, .slice none 0 0, .slice none 0 0, .slice none 0 0, .string ⟨#[]⟩, .int .i64 0, .int .i64 0, .slice none 0 0, .slice none 0 0] 31); rwa [show ((w.alloc (.cells #[.string x.n.t, .int .i64 x.n.l, .int .i64 x.n.c, .slice da x.ds.length dc, .slice qa x.qs.length qc, .slice fa x.fs.length fc, .slice ta x.st.length tc, .string x.s.t, .int .i64 x.s.l, .int .i64 x.s.c, .slice la x.al.length lc, .slice xa x.ts.length xc] 31)).alloc (.cells #[.string ⟨#[]⟩, .int .i64 0, .int .i64 0, .slice none 0 0, .slice none 0 0, .slice none 0 0, .slice none 0 0, .string ⟨#[]⟩, .int .i64 0, .int .i64 0, .slice none 0 0, .slice none 0 0] 31)).drew.heap.size = w.heap.size + 1 + 1 by simp] at h)
      refine hK.out _ _ (HSB.out _ HL3.out) (fun hHa => ?_)
      clear hK K
      refine wpB_step (i := 2) rfl (by kernel_rfl) (fun K hK => ?_)
      rw [if_pos (by kernel_rfl)]
      go_simp
      refine (HN.out x.n _).mono ?_
      rintro e u1 ⟨rfl, k⟩
      have HL1 := Lib.hid (HL3.out.trans (k.mono (by first | (simp; done) | (have := HL3.out.size; simpa using this))))
      have HA1 := Lib.hid ((k.block (w.heap.size + 1 + 1) (by simp)).trans HA0.out)
      have hs1 : w.heap.size + 1 + 1 < u1.heap.size := CBlk.lt ⟨_, _, HA1.out⟩
      clear k
      refine hK.out _ _ (HSB.out _ HL1.out) (fun hHb => ?_)
      clear hK K
      refine wpB_step (i := 5) rfl (by kernel_rfl) (fun K hK => ?_)
      rw [if_pos (by kernel_rfl)]
      go_simp
      refine (HN.out x.s _).mono ?_
      rintro e u2 ⟨rfl, k⟩
      have HL2 := Lib.hid (HL1.out.trans (k.mono (by have := HL1.out.size; simpa using this)))
      have HA := Lib.hid ((k.block (w.heap.size + 1 + 1) hs1).trans HA1.out)
      have hqq : w.heap.size + 2 ≤ w.heap.size + 1 + 1 := by omega
      clear k
      refine hK.out _ _ (HSB.out _ HL2.out) (fun hHz => ?_)
      clear hK K
      refine wpB_take (i := 6) (v := .agg #[.string x.n.t, .int .i64 0, .int .i64 0, .slice none 0 0, .slice none 0 0, .slice none 0 0, .slice none 0 0, .string x.s.t, .int .i64 0, .int .i64 0, .slice none 0 0, .slice none 0 0]) [8] rfl (by kernel_rfl) (by kernel_rfl) (by kernel_rfl) (by kernel_rfl) (fun _ _ _ h => h) (Or.inl ⟨by kernel_rfl, fun wS hSw => by (try dsimp only at hSw); go_simp⟩) hHz ?_
      have e0 : u2.cell? ⟨w.heap.size + 1 + 1, 0, none⟩ = some (.string ⟨#[]⟩) := by rw [cell_of_row _ _ 0 _ _ _ HA.out]; rfl
      have f0 : u2.frozen? ⟨w.heap.size + 1 + 1, 0, none⟩ = false := frozen_of_row _ _ 0 _ _ HA.out
      have e1 : u2.cell? ⟨w.heap.size + 1 + 1, 1, none⟩ = some (.int .i64 0) := by rw [cell_of_row _ _ 1 _ _ _ HA.out]; rfl
      have f1 : u2.frozen? ⟨w.heap.size + 1 + 1, 1, none⟩ = false := frozen_of_row _ _ 1 _ _ HA.out
      have e2 : u2.cell? ⟨w.heap.size + 1 + 1, 2, none⟩ = some (.int .i64 0) := by rw [cell_of_row _ _ 2 _ _ _ HA.out]; rfl
      have f2 : u2.frozen? ⟨w.heap.size + 1 + 1, 2, none⟩ = false := frozen_of_row _ _ 2 _ _ HA.out
      have e3 : u2.cell? ⟨w.heap.size + 1 + 1, 3, none⟩ = some (.slice none 0 0) := by rw [cell_of_row _ _ 3 _ _ _ HA.out]; rfl
      have f3 : u2.frozen? ⟨w.heap.size + 1 + 1, 3, none⟩ = false := frozen_of_row _ _ 3 _ _ HA.out
      have e4 : u2.cell? ⟨w.heap.size + 1 + 1, 4, none⟩ = some (.slice none 0 0) := by rw [cell_of_row _ _ 4 _ _ _ HA.out]; rfl
      have f4 : u2.frozen? ⟨w.heap.size + 1 + 1, 4, none⟩ = false := frozen_of_row _ _ 4 _ _ HA.out
      have e5 : u2.cell? ⟨w.heap.size + 1 + 1, 5, none⟩ = some (.slice none 0 0) := by rw [cell_of_row _ _ 5 _ _ _ HA.out]; rfl
      have f5 : u2.frozen? ⟨w.heap.size + 1 + 1, 5, none⟩ = false := frozen_of_row _ _ 5 _ _ HA.out
      have e6 : u2.cell? ⟨w.heap.size + 1 + 1, 6, none⟩ = some (.slice none 0 0) := by rw [cell_of_row _ _ 6 _ _ _ HA.out]; rfl
      have f6 : u2.frozen? ⟨w.heap.size + 1 + 1, 6, none⟩ = false := frozen_of_row _ _ 6 _ _ HA.out
      have e7 : u2.cell? ⟨w.heap.size + 1 + 1, 7, none⟩ = some (.string ⟨#[]⟩) := by rw [cell_of_row _ _ 7 _ _ _ HA.out]; rfl
      have f7 : u2.frozen? ⟨w.heap.size + 1 + 1, 7, none⟩ = false := frozen_of_row _ _ 7 _ _ HA.out
      have e8 : u2.cell? ⟨w.heap.size + 1 + 1, 8, none⟩ = some (.int .i64 0) := by rw [cell_of_row _ _ 8 _ _ _ HA.out]; rfl
      have f8 : u2.frozen? ⟨w.heap.size + 1 + 1, 8, none⟩ = false := frozen_of_row _ _ 8 _ _ HA.out
      have e9 : u2.cell? ⟨w.heap.size + 1 + 1, 9, none⟩ = some (.int .i64 0) := by rw [cell_of_row _ _ 9 _ _ _ HA.out]; rfl
      have f9 : u2.frozen? ⟨w.heap.size + 1 + 1, 9, none⟩ = false := frozen_of_row _ _ 9 _ _ HA.out
      have e10 : u2.cell? ⟨w.heap.size + 1 + 1, 10, none⟩ = some (.slice none 0 0) := by rw [cell_of_row _ _ 10 _ _ _ HA.out]; rfl
      have f10 : u2.frozen? ⟨w.heap.size + 1 + 1, 10, none⟩ = false := frozen_of_row _ _ 10 _ _ HA.out
      have e11 : u2.cell? ⟨w.heap.size + 1 + 1, 11, none⟩ = some (.slice none 0 0) := by rw [cell_of_row _ _ 11 _ _ _ HA.out]; rfl
      have f11 : u2.frozen? ⟨w.heap.size + 1 + 1, 11, none⟩ = false := frozen_of_row _ _ 11 _ _ HA.out
      refine wpB_past (i := 8) rfl (by kernel_rfl) (by kernel_rfl) (fun K hK => ?_)
      rw [if_pos (by kernel_rfl)]
      go_simp
      refine hK.out _ _ ?_
      clear hK K
      refine wpB_done (by kernel_rfl) ?_ _
      go_simp
      go_wp2_with fail
      go_meet
      have x0 : (u2.setCell ⟨w.heap.size + 1 + 1, 0, none⟩ (.string x.n.t)).heap[w.heap.size + 1 + 1]? = some (.cells #[.string x.n.t, .int .i64 0, .int .i64 0, .slice none 0 0, .slice none 0 0, .slice none 0 0, .slice none 0 0, .string ⟨#[]⟩, .int .i64 0, .int .i64 0, .slice none 0 0, .slice none 0 0] 31 (0, 0)) := heap_setCell_same u2 (w.heap.size + 1 + 1) 0 _ _ (.string x.n.t) HA.out
      have x1 : ((u2.setCell ⟨w.heap.size + 1 + 1, 0, none⟩ (.string x.n.t)).setCell ⟨w.heap.size + 1 + 1, 1, none⟩ (.int .i64 0)).heap[w.heap.size + 1 + 1]? = some (.cells #[.string x.n.t, .int .i64 0, .int .i64 0, .slice none 0 0, .slice none 0 0, .slice none 0 0, .slice none 0 0, .string ⟨#[]⟩, .int .i64 0, .int .i64 0, .slice none 0 0, .slice none 0 0] 31 (0, 0)) := heap_setCell_same (u2.setCell ⟨w.heap.size + 1 + 1, 0, none⟩ (.string x.n.t)) (w.heap.size + 1 + 1) 1 _ _ (.int .i64 0) x0
      have x2 : (((u2.setCell ⟨w.heap.size + 1 + 1, 0, none⟩ (.string x.n.t)).setCell ⟨w.heap.size + 1 + 1, 1, none⟩ (.int .i64 0)).setCell ⟨w.heap.size + 1 + 1, 2, none⟩ (.int .i64 0)).heap[w.heap.size + 1 + 1]? = some (.cells #[.string x.n.t, .int .i64 0, .int .i64 0, .slice none 0 0, .slice none 0 0, .slice none 0 0, .slice none 0 0, .string ⟨#[]⟩, .int .i64 0, .int .i64 0, .slice none 0 0, .slice none 0 0] 31 (0, 0)) := heap_setCell_same ((u2.setCell ⟨w.heap.size + 1 + 1, 0, none⟩ (.string x.n.t)).setCell ⟨w.heap.size + 1 + 1, 1, none⟩ (.int .i64 0)) (w.heap.size + 1 + 1) 2 _ _ (.int .i64 0) x1
      have x3 : ((((u2.setCell ⟨w.heap.size + 1 + 1, 0, none⟩ (.string x.n.t)).setCell ⟨w.heap.size + 1 + 1, 1, none⟩ (.int .i64 0)).setCell ⟨w.heap.size + 1 + 1, 2, none⟩ (.int .i64 0)).setCell ⟨w.heap.size + 1 + 1, 3, none⟩ (.slice none 0 0)).heap[w.heap.size + 1 + 1]? = some (.cells #[.string x.n.t, .int .i64 0, .int .i64 0, .slice none 0 0, .slice none 0 0, .slice none 0 0, .slice none 0 0, .string ⟨#[]⟩, .int .i64 0, .int .i64 0, .slice none 0 0, .slice none 0 0] 31 (0, 0)) := heap_setCell_same (((u2.setCell ⟨w.heap.size + 1 + 1, 0, none⟩ (.string x.n.t)).setCell ⟨w.heap.size + 1 + 1, 1, none⟩ (.int .i64 0)).setCell ⟨w.heap.size + 1 + 1, 2, none⟩ (.int .i64 0)) (w.heap.size + 1 + 1) 3 _ _ (.slice none 0 0) x2
      have x4 : (((((u2.setCell ⟨w.heap.size + 1 + 1, 0, none⟩ (.string x.n.t)).setCell ⟨w.heap.size + 1 + 1, 1, none⟩ (.int .i64 0)).setCell ⟨w.heap.size + 1 + 1, 2, none⟩ (.int .i64 0)).setCell ⟨w.heap.size + 1 + 1, 3, none⟩ (.slice none 0 0)).setCell ⟨w.heap.size + 1 + 1, 4, none⟩ (.slice none 0 0)).heap[w.heap.size + 1 + 1]? = some (.cells #[.string x.n.t, .int .i64 0, .int .i64 0, .slice none 0 0, .slice none 0 0, .slice none 0 0, .slice none 0 0, .string ⟨#[]⟩, .int .i64 0, .int .i64 0, .slice none 0 0, .slice none 0 0] 31 (0, 0)) := heap_setCell_same ((((u2.setCell ⟨w.heap.size + 1 + 1, 0, none⟩ (.string x.n.t)).setCell ⟨w.heap.size + 1 + 1, 1, none⟩ (.int .i64 0)).setCell ⟨w.heap.size + 1 + 1, 2, none⟩ (.int .i64 0)).setCell ⟨w.heap.size + 1 + 1, 3, none⟩ (.slice none 0 0)) (w.heap.size + 1 + 1) 4 _ _ (.slice none 0 0) x3
      have x5 : ((((((u2.setCell ⟨w.heap.size + 1 + 1, 0, none⟩ (.string x.n.t)).setCell ⟨w.heap.size + 1 + 1, 1, none⟩ (.int .i64 0)).setCell ⟨w.heap.size + 1 + 1, 2, none⟩ (.int .i64 0)).setCell ⟨w.heap.size + 1 + 1, 3, none⟩ (.slice none 0 0)).setCell ⟨w.heap.size + 1 + 1, 4, none⟩ (.slice none 0 0)).setCell ⟨w.heap.size + 1 + 1, 5, none⟩ (.slice none 0 0)).heap[w.heap.size + 1 + 1]? = some (.cells #[.string x.n.t, .int .i64 0, .int .i64 0, .slice none 0 0, .slice none 0 0, .slice none 0 0, .slice none 0 0, .string ⟨#[]⟩, .int .i64 0, .int .i64 0, .slice none 0 0, .slice none 0 0] 31 (0, 0)) := heap_setCell_same (((((u2.setCell ⟨w.heap.size + 1 + 1, 0, none⟩ (.string x.n.t)).setCell ⟨w.heap.size + 1 + 1, 1, none⟩ (.int .i64 0)).setCell ⟨w.heap.size + 1 + 1, 2, none⟩ (.int .i64 0)).setCell ⟨w.heap.size + 1 + 1, 3, none⟩ (.slice none 0 0)).setCell ⟨w.heap.size + 1 + 1, 4, none⟩ (.slice none 0 0)) (w.heap.size + 1 + 1) 5 _ _ (.slice none 0 0) x4
      have x6 : (((((((u2.setCell ⟨w.heap.size + 1 + 1, 0, none⟩ (.string x.n.t)).setCell ⟨w.heap.size + 1 + 1, 1, none⟩ (.int .i64 0)).setCell ⟨w.heap.size + 1 + 1, 2, none⟩ (.int .i64 0)).setCell ⟨w.heap.size + 1 + 1, 3, none⟩ (.slice none 0 0)).setCell ⟨w.heap.size + 1 + 1, 4, none⟩ (.slice none 0 0)).setCell ⟨w.heap.size + 1 + 1, 5, none⟩ (.slice none 0 0)).setCell ⟨w.heap.size + 1 + 1, 6, none⟩ (.slice none 0 0)).heap[w.heap.size + 1 + 1]? = some (.cells #[.string x.n.t, .int .i64 0, .int .i64 0, .slice none 0 0, .slice none 0 0, .slice none 0 0, .slice none 0 0, .string ⟨#[]⟩, .int .i64 0, .int .i64 0, .slice none 0 0, .slice none 0 0] 31 (0, 0)) := heap_setCell_same ((((((u2.setCell ⟨w.heap.size + 1 + 1, 0, none⟩ (.string x.n.t)).setCell ⟨w.heap.size + 1 + 1, 1, none⟩ (.int .i64 0)).setCell ⟨w.heap.size + 1 + 1, 2, none⟩ (.int .i64 0)).setCell ⟨w.heap.size + 1 + 1, 3, none⟩ (.slice none 0 0)).setCell ⟨w.heap.size + 1 + 1, 4, none⟩ (.slice none 0 0)).setCell ⟨w.heap.size + 1 + 1, 5, none⟩ (.slice none 0 0)) (w.heap.size + 1 + 1) 6 _ _ (.slice none 0 0) x5
      have x7 : ((((((((u2.setCell ⟨w.heap.size + 1 + 1, 0, none⟩ (.string x.n.t)).setCell ⟨w.heap.size + 1 + 1, 1, none⟩ (.int .i64 0)).setCell ⟨w.heap.size + 1 + 1, 2, none⟩ (.int .i64 0)).setCell ⟨w.heap.size + 1 + 1, 3, none⟩ (.slice none 0 0)).setCell ⟨w.heap.size + 1 + 1, 4, none⟩ (.slice none 0 0)).setCell ⟨w.heap.size + 1 + 1, 5, none⟩ (.slice none 0 0)).setCell ⟨w.heap.size + 1 + 1, 6, none⟩ (.slice none 0 0)).setCell ⟨w.heap.size + 1 + 1, 7, none⟩ (.string x.s.t)).heap[w.heap.size + 1 + 1]? = some (.cells #[.string x.n.t, .int .i64 0, .int .i64 0, .slice none 0 0, .slice none 0 0, .slice none 0 0, .slice none 0 0, .string x.s.t, .int .i64 0, .int .i64 0, .slice none 0 0, .slice none 0 0] 31 (0, 0)) := heap_setCell_same (((((((u2.setCell ⟨w.heap.size + 1 + 1, 0, none⟩ (.string x.n.t)).setCell ⟨w.heap.size + 1 + 1, 1, none⟩ (.int .i64 0)).setCell ⟨w.heap.size + 1 + 1, 2, none⟩ (.int .i64 0)).setCell ⟨w.heap.size + 1 + 1, 3, none⟩ (.slice none 0 0)).setCell ⟨w.heap.size + 1 + 1, 4, none⟩ (.slice none 0 0)).setCell ⟨w.heap.size + 1 + 1, 5, none⟩ (.slice none 0 0)).setCell ⟨w.heap.size + 1 + 1, 6, none⟩ (.slice none 0 0)) (w.heap.size + 1 + 1) 7 _ _ (.string x.s.t) x6
      have x8 : (((((((((u2.setCell ⟨w.heap.size + 1 + 1, 0, none⟩ (.string x.n.t)).setCell ⟨w.heap.size + 1 + 1, 1, none⟩ (.int .i64 0)).setCell ⟨w.heap.size + 1 + 1, 2, none⟩ (.int .i64 0)).setCell ⟨w.heap.size + 1 + 1, 3, none⟩ (.slice none 0 0)).setCell ⟨w.heap.size + 1 + 1, 4, none⟩ (.slice none 0 0)).setCell ⟨w.heap.size + 1 + 1, 5, none⟩ (.slice none 0 0)).setCell ⟨w.heap.size + 1 + 1, 6, none⟩ (.slice none 0 0)).setCell ⟨w.heap.size + 1 + 1, 7, none⟩ (.string x.s.t)).setCell ⟨w.heap.size + 1 + 1, 8, none⟩ (.int .i64 0)).heap[w.heap.size + 1 + 1]? = some (.cells #[.string x.n.t, .int .i64 0, .int .i64 0, .slice none 0 0, .slice none 0 0, .slice none 0 0, .slice none 0 0, .string x.s.t, .int .i64 0, .int .i64 0, .slice none 0 0, .slice none 0 0] 31 (0, 0)) := heap_setCell_same ((((((((u2.setCell ⟨w.heap.size + 1 + 1, 0, none⟩ (.string x.n.t)).setCell ⟨w.heap.size + 1 + 1, 1, none⟩ (.int .i64 0)).setCell ⟨w.heap.size + 1 + 1, 2, none⟩ (.int .i64 0)).setCell ⟨w.heap.size + 1 + 1, 3, none⟩ (.slice none 0 0)).setCell ⟨w.heap.size + 1 + 1, 4, none⟩ (.slice none 0 0)).setCell ⟨w.heap.size + 1 + 1, 5, none⟩ (.slice none 0 0)).setCell ⟨w.heap.size + 1 + 1, 6, none⟩ (.slice none 0 0)).setCell ⟨w.heap.size + 1 + 1, 7, none⟩ (.string x.s.t)) (w.heap.size + 1 + 1) 8 _ _ (.int .i64 0) x7
      have x9 : ((((((((((u2.setCell ⟨w.heap.size + 1 + 1, 0, none⟩ (.string x.n.t)).setCell ⟨w.heap.size + 1 + 1, 1, none⟩ (.int .i64 0)).setCell ⟨w.heap.size + 1 + 1, 2, none⟩ (.int .i64 0)).setCell ⟨w.heap.size + 1 + 1, 3, none⟩ (.slice none 0 0)).setCell ⟨w.heap.size + 1 + 1, 4, none⟩ (.slice none 0 0)).setCell ⟨w.heap.size + 1 + 1, 5, none⟩ (.slice none 0 0)).setCell ⟨w.heap.size + 1 + 1, 6, none⟩ (.slice none 0 0)).setCell ⟨w.heap.size + 1 + 1, 7, none⟩ (.string x.s.t)).setCell ⟨w.heap.size + 1 + 1, 8, none⟩ (.int .i64 0)).setCell ⟨w.heap.size + 1 + 1, 9, none⟩ (.int .i64 0)).heap[w.heap.size + 1 + 1]? = some (.cells #[.string x.n.t, .int .i64 0, .int .i64 0, .slice none 0 0, .slice none 0 0, .slice none 0 0, .slice none 0 0, .string x.s.t, .int .i64 0, .int .i64 0, .slice none 0 0, .slice none 0 0] 31 (0, 0)) := heap_setCell_same (((((((((u2.setCell ⟨w.heap.size + 1 + 1, 0, none⟩ (.string x.n.t)).setCell ⟨w.heap.size + 1 + 1, 1, none⟩ (.int .i64 0)).setCell ⟨w.heap.size + 1 + 1, 2, none⟩ (.int .i64 0)).setCell ⟨w.heap.size + 1 + 1, 3, none⟩ (.slice none 0 0)).setCell ⟨w.heap.size + 1 + 1, 4, none⟩ (.slice none 0 0)).setCell ⟨w.heap.size + 1 + 1, 5, none⟩ (.slice none 0 0)).setCell ⟨w.heap.size + 1 + 1, 6, none⟩ (.slice none 0 0)).setCell ⟨w.heap.size + 1 + 1, 7, none⟩ (.string x.s.t)).setCell ⟨w.heap.size + 1 + 1, 8, none⟩ (.int .i64 0)) (w.heap.size + 1 + 1) 9 _ _ (.int .i64 0) x8
      have x10 : (((((((((((u2.setCell ⟨w.heap.size + 1 + 1, 0, none⟩ (.string x.n.t)).setCell ⟨w.heap.size + 1 + 1, 1, none⟩ (.int .i64 0)).setCell ⟨w.heap.size + 1 + 1, 2, none⟩ (.int .i64 0)).setCell ⟨w.heap.size + 1 + 1, 3, none⟩ (.slice none 0 0)).setCell ⟨w.heap.size + 1 + 1, 4, none⟩ (.slice none 0 0)).setCell ⟨w.heap.size + 1 + 1, 5, none⟩ (.slice none 0 0)).setCell ⟨w.heap.size + 1 + 1, 6, none⟩ (.slice none 0 0)).setCell ⟨w.heap.size + 1 + 1, 7, none⟩ (.string x.s.t)).setCell ⟨w.heap.size + 1 + 1, 8, none⟩ (.int .i64 0)).setCell ⟨w.heap.size + 1 + 1, 9, none⟩ (.int .i64 0)).setCell ⟨w.heap.size + 1 + 1, 10, none⟩ (.slice none 0 0)).heap[w.heap.size + 1 + 1]? = some (.cells #[.string x.n.t, .int .i64 0, .int .i64 0, .slice none 0 0, .slice none 0 0, .slice none 0 0, .slice none 0 0, .string x.s.t, .int .i64 0, .int .i64 0, .slice none 0 0, .slice none 0 0] 31 (0, 0)) := heap_setCell_same ((((((((((u2.setCell ⟨w.heap.size + 1 + 1, 0, none⟩ (.string x.n.t)).setCell ⟨w.heap.size + 1 + 1, 1, none⟩ (.int .i64 0)).setCell ⟨w.heap.size + 1 + 1, 2, none⟩ (.int .i64 0)).setCell ⟨w.heap.size + 1 + 1, 3, none⟩ (.slice none 0 0)).setCell ⟨w.heap.size + 1 + 1, 4, none⟩ (.slice none 0 0)).setCell ⟨w.heap.size + 1 + 1, 5, none⟩ (.slice none 0 0)).setCell ⟨w.heap.size + 1 + 1, 6, none⟩ (.slice none 0 0)).setCell ⟨w.heap.size + 1 + 1, 7, none⟩ (.string x.s.t)).setCell ⟨w.heap.size + 1 + 1, 8, none⟩ (.int .i64 0)).setCell ⟨w.heap.size + 1 + 1, 9, none⟩ (.int .i64 0)) (w.heap.size + 1 + 1) 10 _ _ (.slice none 0 0) x9
      have x11 : ((((((((((((u2.setCell ⟨w.heap.size + 1 + 1, 0, none⟩ (.string x.n.t)).setCell ⟨w.heap.size + 1 + 1, 1, none⟩ (.int .i64 0)).setCell ⟨w.heap.size + 1 + 1, 2, none⟩ (.int .i64 0)).setCell ⟨w.heap.size + 1 + 1, 3, none⟩ (.slice none 0 0)).setCell ⟨w.heap.size + 1 + 1, 4, none⟩ (.slice none 0 0)).setCell ⟨w.heap.size + 1 + 1, 5, none⟩ (.slice none 0 0)).setCell ⟨w.heap.size + 1 + 1, 6, none⟩ (.slice none 0 0)).setCell ⟨w.heap.size + 1 + 1, 7, none⟩ (.string x.s.t)).setCell ⟨w.heap.size + 1 + 1, 8, none⟩ (.int .i64 0)).setCell ⟨w.heap.size + 1 + 1, 9, none⟩ (.int .i64 0)).setCell ⟨w.heap.size + 1 + 1, 10, none⟩ (.slice none 0 0)).setCell ⟨w.heap.size + 1 + 1, 11, none⟩ (.slice none 0 0)).heap[w.heap.size + 1 + 1]? = some (.cells #[.string x.n.t, .int .i64 0, .int .i64 0, .slice none 0 0, .slice none 0 0, .slice none 0 0, .slice none 0 0, .string x.s.t, .int .i64 0, .int .i64 0, .slice none 0 0, .slice none 0 0] 31 (0, 0)) := heap_setCell_same (((((((((((u2.setCell ⟨w.heap.size + 1 + 1, 0, none⟩ (.string x.n.t)).setCell ⟨w.heap.size + 1 + 1, 1, none⟩ (.int .i64 0)).setCell ⟨w.heap.size + 1 + 1, 2, none⟩ (.int .i64 0)).setCell ⟨w.heap.size + 1 + 1, 3, none⟩ (.slice none 0 0)).setCell ⟨w.heap.size + 1 + 1, 4, none⟩ (.slice none 0 0)).setCell ⟨w.heap.size + 1 + 1, 5, none⟩ (.slice none 0 0)).setCell ⟨w.heap.size + 1 + 1, 6, none⟩ (.slice none 0 0)).setCell ⟨w.heap.size + 1 + 1, 7, none⟩ (.string x.s.t)).setCell ⟨w.heap.size + 1 + 1, 8, none⟩ (.int .i64 0)).setCell ⟨w.heap.size + 1 + 1, 9, none⟩ (.int .i64 0)).setCell ⟨w.heap.size + 1 + 1, 10, none⟩ (.slice none 0 0)) (w.heap.size + 1 + 1) 11 _ _ (.slice none 0 0) x10
      case rel => exact ⟨w.heap.size + 1 + 1, rfl, Lib.hid (pls_new (((((((((((((HL2.out).setCell hqq (.string x.n.t)).setCell hqq (.int .i64 0)).setCell hqq (.int .i64 0)).setCell hqq (.slice none 0 0)).setCell hqq (.slice none 0 0)).setCell hqq (.slice none 0 0)).setCell hqq (.slice none 0 0)).setCell hqq (.string x.s.t)).setCell hqq (.int .i64 0)).setCell hqq (.int .i64 0)).setCell hqq (.slice none 0 0)).setCell hqq (.slice none 0 0)) (by omega) x11)⟩
  case rest =>
    obtain ⟨q, rfl, HP0⟩ := hcut
    clear HB HK0
    rename_i hcont
    refine hcont _ _ ?_
    exact tail0 x w da dc qa qc fa fc ta tc la lc xa xc G0.out G1.out G2.out G3.out G4.out G5.out HOK.out HSM.out HP0
end Go.Proofs.YtojabkhfkbfeaaaGreatDoor
