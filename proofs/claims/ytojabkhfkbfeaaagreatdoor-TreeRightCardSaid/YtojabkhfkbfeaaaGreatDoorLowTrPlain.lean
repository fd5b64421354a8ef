/- Contracts of a lower layer, several texts in one. -/
import Derived.Test.YtojabkhfkbfeaaaGreatDoorTreeEach
import Derived.Test.YtojabkhfkbfeaaaGreatDoorRegTail
/- TreePlainS -/
namespace Go.Proofs.YtojabkhfkbfeaaaGreatDoor
open Go.RowKit
set_option linter.unusedVariables false

/-- The types of what a call makes. -/
abbrev tyT : TyT := ⟨101, 53, 92, 39, 57, 43, 60, 47, 51, 3⟩
def plDe (d : De) : De := ⟨plI d.n, d.ks⟩
def MadeDe (x : De) (w : World) (e : Ending) (w' : World) : Prop := ∃ cs, e = .returned (.agg cs.toArray) ∧ rDe tyT True w' cs x ∧ Below w.heap.size w w'
def MadeSy (x : Sy) (w : World) (e : Ending) (w' : World) : Prop := ∃ cs, e = .returned (.agg cs.toArray) ∧ rSy tyT True w' cs x ∧ Below w.heap.size w w'
def MadeTs (x : Ts) (w : World) (e : Ending) (w' : World) : Prop := ∃ cs, e = .returned (.agg cs.toArray) ∧ rTs tyT True w' cs x ∧ Below w.heap.size w w'
theorem blk2 {w w1 : World} {A B : Array Value} {T U : TypeId} (k : Below (w.heap.size + 2) ((w.alloc (.cells A T)).alloc (.cells B U)) w1) : CBlk w1 w.heap.size T ∧ CBlk w1 (w.heap.size + 1) U :=
  ⟨⟨A, (0, 0), (k.block w.heap.size (by omega)).trans (heap_alloc2_old w (.cells A T) (.cells B U))⟩, ⟨B, (0, 0), (k.block (w.heap.size + 1) (by omega)).trans (heap_alloc2_new w (.cells A T) (.cells B U))⟩⟩
/-- A copy of a list of numbers. -/
theorem cloneInt_calls {T : TypeId} {O : Prop} (a : Option Addr) (len cap : Nat) (L : List Int) (w : World) (h : GIn rInt T O 1 w a len L) (hl : len ≤ 1000000) :
    Calls Tryz.prog 22 #[.slice a len cap] w (Made rInt 3 1 L w) := by
  have hL := h.leng
  cases a with
  | none =>
    obtain ⟨rfl, rfl⟩ := gin_none h
    refine (cloneInt_nil 0 cap w).mono ?_
    rintro e w1 ⟨rfl, rfl⟩
    exact ⟨none, 0, rfl, GIn.nil, Below.refl _ _⟩
  | some ad =>
    obtain ⟨css, hgs, hcs⟩ := gin_out h (by decide) ad rfl
    have hfl : css.flatten.length = len * 1 := by rw [flat_len _ hgs.all, hgs.leng, h.leng]
    have hone : ∀ u ∈ css.flatten, u.oneCell' = true := gs_one hgs (fun cs x hr u hu => by
      rw [hr.1, List.mem_singleton] at hu
      rw [hu]; rfl)
    refine (cloneInt_some ad len cap css.flatten w hfl hcs hone hl).mono ?_
    rintro e w1 ⟨v, rfl, ho, hne, hb⟩
    rw [← hL] at ho
    obtain ⟨a', c', rfl, hg, _, _⟩ := own_gin ho (hgs.kept (fun _ _ _ h => RF.any h))
    exact ⟨a', c', rfl, hg, hb⟩

set_option maxHeartbeats 4000000 in
set_option maxRecDepth 100000 in
theorem plainDe_calls {Y : TyT} {O : Prop} (x : De) (cs : List Value) (w : World) (hr : rDe Y O w cs x) (hl : x.ks.length ≤ 1000000) :
    Calls Tryz.prog 21 #[.agg cs.toArray] w (MadeDe (plDe x) w) := by
  obtain ⟨a, c, rfl, g1, hok⟩ := hr
  have HOK := Lib.hid hok
  have HB : Hid (Below w.heap.size w ((w.alloc (.cells #[.string x.n.t, .int .i64 x.n.l, .int .i64 x.n.c, .slice a x.ks.length c] 39)).alloc (.cells #[.string ⟨#[]⟩, .int .i64 0, .int .i64 0, .slice none 0 0] 39))) := Lib.hid (((Below.refl w.heap.size w).alloc (Nat.le_refl _) _).alloc (by simp) _)
  have HK0 : Hid (Below (w.heap.size + 2) ((w.alloc (.cells #[.string x.n.t, .int .i64 x.n.l, .int .i64 x.n.c, .slice a x.ks.length c] 39)).alloc (.cells #[.string ⟨#[]⟩, .int .i64 0, .int .i64 0, .slice none 0 0] 39)) ((w.alloc (.cells #[.string x.n.t, .int .i64 x.n.l, .int .i64 x.n.c, .slice a x.ks.length c] 39)).alloc (.cells #[.string ⟨#[]⟩, .int .i64 0, .int .i64 0, .slice none 0 0] 39)).drew) := Lib.hid ((Below.refl _ _).drew)
  have HN := Lib.hid (fun w1 => plainName_calls x.n w1)
  have HC := Lib.hid (fun w1 (hb : Below w.heap.size w w1) => cloneInt_calls a _ c x.ks w1 (g1.belowF hb) hl)
  clear g1 hok
  go_enter Tryz.func21, Tryz.ntmps21
  go_wp2_with fail
  refine wp_region_B (S := (fun W => W.cell? ⟨w.heap.size, 0, none⟩ = some (.string x.n.t) ∧ W.cell? ⟨w.heap.size, 1, none⟩ = some (.int .i64 x.n.l) ∧ W.cell? ⟨w.heap.size, 2, none⟩ = some (.int .i64 x.n.c) ∧ W.cell? ⟨w.heap.size, 3, none⟩ = some (.slice a x.ks.length c))) [7, 9] (by kernel_rfl) (by refine ⟨?_, ?_, ?_, ?_⟩ <;> go_simp) (fun hH0 => ?_)
  refine wpB_take (i := 0) (v := .pointer (some ⟨w.heap.size, 0, none⟩)) [7, 9] rfl (by kernel_rfl) (by kernel_rfl) (by kernel_rfl) (by kernel_rfl) (fun _ _ _ h => h) (Or.inl ⟨by kernel_rfl, fun wS hSw => by (try dsimp only at hSw); go_simp⟩) hH0 ?_
  refine wpB_take (i := 1) (v := .agg #[.string x.n.t, .int .i64 x.n.l, .int .i64 x.n.c]) [7, 9] rfl (by kernel_rfl) (by kernel_rfl) (by kernel_rfl) (by kernel_rfl) (fun _ _ _ h => h) (Or.inl ⟨by kernel_rfl, fun wS hSw => by (try dsimp only at hSw); go_simp⟩) hH0 ?_
  refine wpB_take (i := 3) (v := .pointer (some ⟨w.heap.size, 3, none⟩)) [7, 9] rfl (by kernel_rfl) (by kernel_rfl) (by kernel_rfl) (by kernel_rfl) (fun _ _ _ h => h) (Or.inl ⟨by kernel_rfl, fun wS hSw => by (try dsimp only at hSw); go_simp⟩) hH0 ?_
  refine wpB_take (i := 4) (v := .slice a x.ks.length c) [7, 9] rfl (by kernel_rfl) (by kernel_rfl) (by kernel_rfl) (by kernel_rfl) (fun _ _ _ h => h) (Or.inl ⟨by kernel_rfl, fun wS hSw => by (try dsimp only at hSw); go_simp⟩) hH0 ?_
  refine wpB_step (i := 2) rfl (by kernel_rfl) (fun K hK => ?_)
  rw [if_pos (by kernel_rfl)]
  go_simp
  refine (HN.out _).mono ?_
  rintro e w1 ⟨rfl, k1⟩
  have HK1 := Lib.hid (below2_step HK0.out (by simp) k1)
  clear k1
  refine hK.out _ _ (by obtain ⟨u, _⟩ := box2 HK1.out; exact ⟨u 0 _ rfl, u 1 _ rfl, u 2 _ rfl, u 3 _ rfl⟩) (fun hH1 => ?_)
  clear hK K
  refine wpB_take (i := 6) (v := .pointer (some ⟨w.heap.size, 0, none⟩)) [7, 9] rfl (by kernel_rfl) (by kernel_rfl) (by kernel_rfl) (by kernel_rfl) (fun _ _ _ h => h) (Or.inl ⟨by kernel_rfl, fun wS hSw => by (try dsimp only at hSw); go_simp⟩) hH1 ?_
  refine wpB_step (i := 5) rfl (by kernel_rfl) (fun K hK => ?_)
  rw [if_pos (by kernel_rfl)]
  go_simp
  refine (HC.out _ (HB.out.trans (HK1.out.mono (Nat.le_add_right _ 2)))).mono ?_
  rintro e w2 ⟨a', c', rfl, hg, k2⟩
  have HK2 := Lib.hid (below2_step HK1.out (by simp) k2)
  have HG := Lib.hid hg
  clear k2 hg
  refine hK.out _ _ (by obtain ⟨u, _⟩ := box2 HK2.out; exact ⟨u 0 _ rfl, u 1 _ rfl, u 2 _ rfl, u 3 _ rfl⟩) (fun hH2 => ?_)
  clear hK K
  obtain ⟨u, v⟩ := box2 HK2.out
  obtain ⟨p, q⟩ := frozen2 HK2.out
  have c0 := u 0 _ rfl
  have d0 := v 0 _ rfl
  have f0 := p 0
  have g0_ := q 0
  have c1 := u 1 _ rfl
  have d1 := v 1 _ rfl
  have f1 := p 1
  have g1_ := q 1
  have c2 := u 2 _ rfl
  have d2 := v 2 _ rfl
  have f2 := p 2
  have g2_ := q 2
  have c3 := u 3 _ rfl
  have d3 := v 3 _ rfl
  have f3 := p 3
  have g3_ := q 3
  clear u v p q
  clear hH0 hH1 hH2
  refine wpB_past (i := 7) rfl (by kernel_rfl) (by kernel_rfl) (fun K hK => ?_)
  rw [if_pos (by kernel_rfl)]
  go_simp
  refine hK.out _ _ ?_
  clear hK K
  refine wpB_past (i := 8) rfl (by kernel_rfl) (by kernel_rfl) (fun K hK => ?_)
  rw [if_pos (by kernel_rfl)]
  go_simp
  refine hK.out _ _ ?_
  clear hK K
  refine wpB_past (i := 9) rfl (by kernel_rfl) (by kernel_rfl) (fun K hK => ?_)
  rw [if_pos (by kernel_rfl)]
  go_simp
  refine hK.out _ _ ?_
  clear hK K
  refine wpB_done (by kernel_rfl) ?_ _
  go_simp
  have HBF := Lib.hid (HB.out.trans (HK2.out.mono (Nat.le_add_right _ 2)))
  have hsz : w.heap.size + 1 < w2.heap.size := by have := HK2.out.size; simp at this; omega
  obtain ⟨b1, b2⟩ := blk2 HK2.out
  have HB1 := Lib.hid b1
  have HB2 := Lib.hid b2
  clear b1 b2
  go_wp2_with fail
  refine bodyPost_ret (v := .agg #[.string x.n.t, .int .i64 0, .int .i64 0, .slice a' x.ks.length c']) ?_ rfl ⟨[.string x.n.t, .int .i64 0, .int .i64 0, .slice a' x.ks.length c'], rfl, ⟨a', c', rfl, HG.out.keptF trivial (by simp) (fun g hc => by
    have e1 := hc.ne HB1.out (by decide)
    have e2 := hc.ne HB2.out (by decide)
    repeat rw [heap_setCell_other _ _ _ _ (by first | exact e1 | exact e2)]), HOK.out⟩, ?_⟩
  · rw [results_cell rfl]
    go_simp
  · refine Below.trans HBF.out ?_
    repeat' (first | (with_reducible refine Below.setCell ?_ (by simp <;> omega) _) | (with_reducible refine Below.alloc ?_ (by simp <;> omega) _) | (with_reducible refine Below.drew ?_) | exact (Below.refl w2.heap.size w2).mono (by omega))

theorem rSy_mk {M : List Ag} {x : Sy} {w : World} {a : Option Addr} {c : Nat} (hM : M = x.ar.map plA) (hg : GIn rAg tyT.ag True 8 w a M.length M) (hok : okS x.n) : rSy tyT True w [.string x.n, .slice a M.length c, .int .i64 0, .int .i64 0] (plS x) := by
  subst hM
  exact ⟨a, c, rfl, hg, hok⟩
set_option maxHeartbeats 4000000 in
set_option maxRecDepth 100000 in
theorem plainSy_calls {Y : TyT} {O : Prop} (x : Sy) (cs : List Value) (w : World) (hr : rSy Y O w cs x) (hl : x.ar.length ≤ 1000000) :
    Calls Tryz.prog 30 #[.agg cs.toArray] w (MadeSy (plS x) w) := by
  obtain ⟨a, c, rfl, g1, hok⟩ := hr
  have HOK := Lib.hid hok
  have HB : Hid (Below w.heap.size w ((w.alloc (.cells #[.string x.n, .slice a x.ar.length c, .int .i64 0, .int .i64 0] 47)).alloc (.cells #[.string ⟨#[]⟩, .slice none 0 0, .int .i64 0, .int .i64 0] 47))) := Lib.hid (((Below.refl w.heap.size w).alloc (Nat.le_refl _) _).alloc (by simp) _)
  have HK0 : Hid (Below (w.heap.size + 2) ((w.alloc (.cells #[.string x.n, .slice a x.ar.length c, .int .i64 0, .int .i64 0] 47)).alloc (.cells #[.string ⟨#[]⟩, .slice none 0 0, .int .i64 0, .int .i64 0] 47)) ((w.alloc (.cells #[.string x.n, .slice a x.ar.length c, .int .i64 0, .int .i64 0] 47)).alloc (.cells #[.string ⟨#[]⟩, .slice none 0 0, .int .i64 0, .int .i64 0] 47))) := Lib.hid (Below.refl _ _)
  have HC := Lib.hid (fun w1 (hb : Below w.heap.size w w1) => eachAg_calls a _ c x.ar w1 (g1.belowF hb) hl)
  obtain ⟨M, hM⟩ : ∃ M, M = x.ar.map plA := ⟨_, rfl⟩
  rw [← hM] at HC
  have HM := Lib.hid hM
  clear g1 hok hM
  go_enter Tryz.func30, Tryz.ntmps30
  go_wp2_with fail
  refine (HC.out _ HB.out).mono ?_
  rintro e w2 ⟨a', c', rfl, hg, k2⟩
  have HK2 := Lib.hid (below2_step HK0.out (by simp) k2)
  have HG := Lib.hid hg
  clear k2 hg
  obtain ⟨u, v⟩ := box2 HK2.out
  obtain ⟨p, q⟩ := frozen2 HK2.out
  have c0 := u 0 _ rfl
  have d0 := v 0 _ rfl
  have f0 := p 0
  have g0_ := q 0
  have c1 := u 1 _ rfl
  have d1 := v 1 _ rfl
  have f1 := p 1
  have g1_ := q 1
  have c2 := u 2 _ rfl
  have d2 := v 2 _ rfl
  have f2 := p 2
  have g2_ := q 2
  have c3 := u 3 _ rfl
  have d3 := v 3 _ rfl
  have f3 := p 3
  have g3_ := q 3
  clear u v p q
  have HBF := Lib.hid (HB.out.trans (HK2.out.mono (Nat.le_add_right _ 2)))
  have hsz : w.heap.size + 1 < w2.heap.size := by have := HK2.out.size; simp at this; omega
  obtain ⟨b1, b2⟩ := blk2 HK2.out
  have HB1 := Lib.hid b1
  have HB2 := Lib.hid b2
  clear b1 b2
  go_wp2_with fail
  refine bodyPost_ret (v := .agg #[.string x.n, .slice a' M.length c', .int .i64 0, .int .i64 0]) ?_ rfl ⟨[.string x.n, .slice a' M.length c', .int .i64 0, .int .i64 0], rfl, rSy_mk HM.out (HG.out.keptF trivial (by simp) (fun g hc => by
    have e1 := hc.ne HB1.out (by decide)
    have e2 := hc.ne HB2.out (by decide)
    repeat rw [heap_setCell_other _ _ _ _ (by first | exact e1 | exact e2)])) HOK.out, ?_⟩
  · rw [results_cell rfl]
    go_simp
  · refine Below.trans HBF.out ?_
    repeat' (first | (with_reducible refine Below.setCell ?_ (by simp <;> omega) _) | (with_reducible refine Below.alloc ?_ (by simp <;> omega) _) | (with_reducible refine Below.drew ?_) | exact (Below.refl w2.heap.size w2).mono (by omega))

theorem rTs_mk {x : Ts} {w : World} {M : List Ag} {N : List Ex} {S : List Se} {oa na sa : Option Addr} {oc nc sc : Nat} (hM : M = x.on.ar.map plA) (hN : N = x.ns.map plE) (hS : S = x.ss.map plSe) (h1 : GIn rAg tyT.ag True 8 w oa M.length M) (h2 : GIn rEx tyT.ex True 10 w na N.length N) (h3 : GIn rSe tyT.se True 4 w sa S.length S) (hok : okS x.f.t ∧ okS x.t.t ∧ okS x.on.n) :
    rTs tyT True w [.string x.f.t, .int .i64 0, .int .i64 0, .string x.t.t, .int .i64 0, .int .i64 0, .string x.on.n, .slice oa M.length oc, .int .i64 0, .int .i64 0, .slice na N.length nc, .int .i64 x.g, .slice sa S.length sc] (plTs x) := by
  subst hM hN hS
  exact ⟨oa, oc, na, nc, sa, sc, rfl, h1, h2, h3, hok⟩
set_option maxHeartbeats 8000000 in
set_option maxRecDepth 100000 in
theorem plainTs_calls {Y : TyT} {O : Prop} (x : Ts) (cs : List Value) (w : World) (hr : rTs Y O w cs x) (hl : x.on.ar.length ≤ 1000000) (hl2 : x.ns.length ≤ 1000000) (hl3 : x.ss.length ≤ 1000000) :
    Calls Tryz.prog 32 #[.agg cs.toArray] w (MadeTs (plTs x) w) := by
  obtain ⟨oa, oc, na, nc, sa, sc, rfl, g1, g2, g3, hok⟩ := hr
  have HOK := Lib.hid hok
  have HB : Hid (Below w.heap.size w ((w.alloc (.cells #[.string x.f.t, .int .i64 x.f.l, .int .i64 x.f.c, .string x.t.t, .int .i64 x.t.l, .int .i64 x.t.c, .string x.on.n, .slice oa x.on.ar.length oc, .int .i64 x.on.l, .int .i64 x.on.c, .slice na x.ns.length nc, .int .i64 x.g, .slice sa x.ss.length sc] 51)).alloc (.cells #[.string ⟨#[]⟩, .int .i64 0, .int .i64 0, .string ⟨#[]⟩, .int .i64 0, .int .i64 0, .string ⟨#[]⟩, .slice none 0 0, .int .i64 0, .int .i64 0, .slice none 0 0, .int .i64 0, .slice none 0 0] 51))) := Lib.hid (((Below.refl w.heap.size w).alloc (Nat.le_refl _) _).alloc (by simp) _)
  have HK0 : Hid (Below (w.heap.size + 2) ((w.alloc (.cells #[.string x.f.t, .int .i64 x.f.l, .int .i64 x.f.c, .string x.t.t, .int .i64 x.t.l, .int .i64 x.t.c, .string x.on.n, .slice oa x.on.ar.length oc, .int .i64 x.on.l, .int .i64 x.on.c, .slice na x.ns.length nc, .int .i64 x.g, .slice sa x.ss.length sc] 51)).alloc (.cells #[.string ⟨#[]⟩, .int .i64 0, .int .i64 0, .string ⟨#[]⟩, .int .i64 0, .int .i64 0, .string ⟨#[]⟩, .slice none 0 0, .int .i64 0, .int .i64 0, .slice none 0 0, .int .i64 0, .slice none 0 0] 51)) ((w.alloc (.cells #[.string x.f.t, .int .i64 x.f.l, .int .i64 x.f.c, .string x.t.t, .int .i64 x.t.l, .int .i64 x.t.c, .string x.on.n, .slice oa x.on.ar.length oc, .int .i64 x.on.l, .int .i64 x.on.c, .slice na x.ns.length nc, .int .i64 x.g, .slice sa x.ss.length sc] 51)).alloc (.cells #[.string ⟨#[]⟩, .int .i64 0, .int .i64 0, .string ⟨#[]⟩, .int .i64 0, .int .i64 0, .string ⟨#[]⟩, .slice none 0 0, .int .i64 0, .int .i64 0, .slice none 0 0, .int .i64 0, .slice none 0 0] 51)).drew) := Lib.hid ((Below.refl _ _).drew)
  have HN := Lib.hid (fun (y : Id3) w1 => plainName_calls y w1)
  have HS := Lib.hid (fun w1 (hb : Below w.heap.size w w1) => plainSy_calls x.on [.string x.on.n, .slice oa x.on.ar.length oc, .int .i64 x.on.l, .int .i64 x.on.c] w1 (⟨oa, oc, rfl, g1.belowF hb, hok.2.2⟩ : rSy Y O w1 _ x.on) hl)
  have HE := Lib.hid (fun w1 (hb : Below w.heap.size w w1) => eachEx_calls na _ nc x.ns w1 (g2.belowF hb) hl2)
  have HT := Lib.hid (fun w1 (hb : Below w.heap.size w w1) => eachSe_calls sa _ sc x.ss w1 (g3.belowF hb) hl3)
  obtain ⟨N, hN⟩ : ∃ N, N = x.ns.map plE := ⟨_, rfl⟩
  rw [← hN] at HE
  have HMN := Lib.hid hN
  obtain ⟨Z, hZ⟩ : ∃ Z, Z = x.ss.map plSe := ⟨_, rfl⟩
  rw [← hZ] at HT
  have HMZ := Lib.hid hZ
  have s1 := g1.small
  have s2 := g2.small
  have s3 := g3.small
  clear g1 g2 g3 hok hN hZ
  go_enter Tryz.func32, Tryz.ntmps32
  go_wp2_with fail
  refine wp_region_B (S := (fun W => W.cell? ⟨w.heap.size, 0, none⟩ = some (.string x.f.t) ∧ W.cell? ⟨w.heap.size, 1, none⟩ = some (.int .i64 x.f.l) ∧ W.cell? ⟨w.heap.size, 2, none⟩ = some (.int .i64 x.f.c) ∧ W.cell? ⟨w.heap.size, 3, none⟩ = some (.string x.t.t) ∧ W.cell? ⟨w.heap.size, 4, none⟩ = some (.int .i64 x.t.l) ∧ W.cell? ⟨w.heap.size, 5, none⟩ = some (.int .i64 x.t.c) ∧ W.cell? ⟨w.heap.size, 6, none⟩ = some (.string x.on.n) ∧ W.cell? ⟨w.heap.size, 7, none⟩ = some (.slice oa x.on.ar.length oc) ∧ W.cell? ⟨w.heap.size, 8, none⟩ = some (.int .i64 x.on.l) ∧ W.cell? ⟨w.heap.size, 9, none⟩ = some (.int .i64 x.on.c))) [10, 12, 14] (by kernel_rfl) (by refine ⟨?_, ?_, ?_, ?_, ?_, ?_, ?_, ?_, ?_, ?_⟩ <;> go_simp) (fun hH0 => ?_)
  refine wpB_take (i := 0) (v := .pointer (some ⟨w.heap.size, 0, none⟩)) [10, 12, 14] rfl (by kernel_rfl) (by kernel_rfl) (by kernel_rfl) (by kernel_rfl) (fun _ _ _ h => h) (Or.inl ⟨by kernel_rfl, fun wS hSw => by (try dsimp only at hSw); go_simp⟩) hH0 ?_
  refine wpB_take (i := 1) (v := .agg #[.string x.f.t, .int .i64 x.f.l, .int .i64 x.f.c]) [10, 12, 14] rfl (by kernel_rfl) (by kernel_rfl) (by kernel_rfl) (by kernel_rfl) (fun _ _ _ h => h) (Or.inl ⟨by kernel_rfl, fun wS hSw => by (try dsimp only at hSw); go_simp⟩) hH0 ?_
  refine wpB_take (i := 3) (v := .pointer (some ⟨w.heap.size, 3, none⟩)) [10, 12, 14] rfl (by kernel_rfl) (by kernel_rfl) (by kernel_rfl) (by kernel_rfl) (fun _ _ _ h => h) (Or.inl ⟨by kernel_rfl, fun wS hSw => by (try dsimp only at hSw); go_simp⟩) hH0 ?_
  refine wpB_take (i := 4) (v := .agg #[.string x.t.t, .int .i64 x.t.l, .int .i64 x.t.c]) [10, 12, 14] rfl (by kernel_rfl) (by kernel_rfl) (by kernel_rfl) (by kernel_rfl) (fun _ _ _ h => h) (Or.inl ⟨by kernel_rfl, fun wS hSw => by (try dsimp only at hSw); go_simp⟩) hH0 ?_
  refine wpB_take (i := 6) (v := .pointer (some ⟨w.heap.size, 6, none⟩)) [10, 12, 14] rfl (by kernel_rfl) (by kernel_rfl) (by kernel_rfl) (by kernel_rfl) (fun _ _ _ h => h) (Or.inl ⟨by kernel_rfl, fun wS hSw => by (try dsimp only at hSw); go_simp⟩) hH0 ?_
  refine wpB_take (i := 7) (v := .agg #[.string x.on.n, .slice oa x.on.ar.length oc, .int .i64 x.on.l, .int .i64 x.on.c]) [10, 12, 14] rfl (by kernel_rfl) (by kernel_rfl) (by kernel_rfl) (by kernel_rfl) (fun _ _ _ h => h) (Or.inl ⟨by kernel_rfl, fun wS hSw => by (try dsimp only at hSw); go_simp⟩) hH0 ?_
  refine wpB_step (i := 2) rfl (by kernel_rfl) (fun K hK => ?_)
  rw [if_pos (by kernel_rfl)]
  go_simp
  refine (HN.out x.f _).mono ?_
  rintro e w1 ⟨rfl, k1⟩
  have HK1 := Lib.hid (below2_step HK0.out (by simp) k1)
  clear k1
  refine hK.out _ _ (by obtain ⟨u, _⟩ := box2 HK1.out; exact ⟨u 0 _ rfl, u 1 _ rfl, u 2 _ rfl, u 3 _ rfl, u 4 _ rfl, u 5 _ rfl, u 6 _ rfl, u 7 _ rfl, u 8 _ rfl, u 9 _ rfl⟩) (fun hH1 => ?_)
  clear hK K
  refine wpB_take (i := 9) (v := .pointer (some ⟨w.heap.size, 0, none⟩)) [10, 12, 14] rfl (by kernel_rfl) (by kernel_rfl) (by kernel_rfl) (by kernel_rfl) (fun _ _ _ h => h) (Or.inl ⟨by kernel_rfl, fun wS hSw => by (try dsimp only at hSw); go_simp⟩) hH1 ?_
  refine wpB_step (i := 5) rfl (by kernel_rfl) (fun K hK => ?_)
  rw [if_pos (by kernel_rfl)]
  go_simp
  refine (HN.out x.t _).mono ?_
  rintro e w2 ⟨rfl, k2⟩
  have HK2 := Lib.hid (below2_step HK1.out (by simp) k2)
  clear k2
  refine hK.out _ _ (by obtain ⟨u, _⟩ := box2 HK2.out; exact ⟨u 0 _ rfl, u 1 _ rfl, u 2 _ rfl, u 3 _ rfl, u 4 _ rfl, u 5 _ rfl, u 6 _ rfl, u 7 _ rfl, u 8 _ rfl, u 9 _ rfl⟩) (fun hH2 => ?_)
  clear hK K
  refine wpB_step (i := 8) rfl (by kernel_rfl) (fun K hK => ?_)
  rw [if_pos (by kernel_rfl)]
  go_simp
  refine (HS.out _ (HB.out.trans (HK2.out.mono (Nat.le_add_right _ 2)))).mono ?_
  rintro e w3 ⟨_, rfl, ⟨oa', oc', rfl, hg, _⟩, k3⟩
  have HK3 := Lib.hid (below2_step HK2.out (by simp) k3)
  have hM : (plS x.on).ar = x.on.ar.map plA := rfl
  generalize (plS x.on).ar = M at hg hM ⊢
  rw [show (plS x.on).n = x.on.n from rfl, show (plS x.on).l = 0 from rfl, show (plS x.on).c = 0 from rfl]
  have HMM := Lib.hid hM
  have HG := Lib.hid hg
  clear k3 hg hM
  refine hK.out _ _ (by obtain ⟨u, _⟩ := box2 HK3.out; exact ⟨u 0 _ rfl, u 1 _ rfl, u 2 _ rfl, u 3 _ rfl, u 4 _ rfl, u 5 _ rfl, u 6 _ rfl, u 7 _ rfl, u 8 _ rfl, u 9 _ rfl⟩) (fun hH3 => ?_)
  clear hK K
  obtain ⟨u, v⟩ := box2 HK3.out
  obtain ⟨p, q⟩ := frozen2 HK3.out
  have c0 := u 0 _ rfl
  have d0 := v 0 _ rfl
  have f0 := p 0
  have g0_ := q 0
  have c1 := u 1 _ rfl
  have d1 := v 1 _ rfl
  have f1 := p 1
  have g1_ := q 1
  have c2 := u 2 _ rfl
  have d2 := v 2 _ rfl
  have f2 := p 2
  have g2_ := q 2
  have c3 := u 3 _ rfl
  have d3 := v 3 _ rfl
  have f3 := p 3
  have g3_ := q 3
  have c4 := u 4 _ rfl
  have d4 := v 4 _ rfl
  have f4 := p 4
  have g4_ := q 4
  have c5 := u 5 _ rfl
  have d5 := v 5 _ rfl
  have f5 := p 5
  have g5_ := q 5
  have c6 := u 6 _ rfl
  have d6 := v 6 _ rfl
  have f6 := p 6
  have g6_ := q 6
  have c7 := u 7 _ rfl
  have d7 := v 7 _ rfl
  have f7 := p 7
  have g7_ := q 7
  have c8 := u 8 _ rfl
  have d8 := v 8 _ rfl
  have f8 := p 8
  have g8_ := q 8
  have c9 := u 9 _ rfl
  have d9 := v 9 _ rfl
  have f9 := p 9
  have g9_ := q 9
  have c10 := u 10 _ rfl
  have d10 := v 10 _ rfl
  have f10 := p 10
  have g10_ := q 10
  have c11 := u 11 _ rfl
  have d11 := v 11 _ rfl
  have f11 := p 11
  have g11_ := q 11
  have c12 := u 12 _ rfl
  have d12 := v 12 _ rfl
  have f12 := p 12
  have g12_ := q 12
  clear u v p q
  clear hH0 hH1 hH2 hH3
  refine wpB_past (i := 10) rfl (by kernel_rfl) (by kernel_rfl) (fun K hK => ?_)
  rw [if_pos (by kernel_rfl)]
  go_simp
  refine hK.out _ _ ?_
  clear hK K
  refine wpB_past (i := 11) rfl (by kernel_rfl) (by kernel_rfl) (fun K hK => ?_)
  rw [if_pos (by kernel_rfl)]
  go_simp
  refine hK.out _ _ ?_
  clear hK K
  refine wpB_past (i := 12) rfl (by kernel_rfl) (by kernel_rfl) (fun K hK => ?_)
  rw [if_pos (by kernel_rfl)]
  go_simp
  refine hK.out _ _ ?_
  clear hK K
  refine wpB_past (i := 13) rfl (by kernel_rfl) (by kernel_rfl) (fun K hK => ?_)
  rw [if_pos (by kernel_rfl)]
  go_simp
  refine hK.out _ _ ?_
  clear hK K
  refine wpB_past (i := 14) rfl (by kernel_rfl) (by kernel_rfl) (fun K hK => ?_)
  rw [if_pos (by kernel_rfl)]
  go_simp
  refine hK.out _ _ ?_
  clear hK K
  refine wpB_done (by kernel_rfl) ?_ _
  go_simp
  have HX3 : Hid (w3.heap[w.heap.size]? = some (.cells #[.string x.f.t, .int .i64 x.f.l, .int .i64 x.f.c, .string x.t.t, .int .i64 x.t.l, .int .i64 x.t.c, .string x.on.n, .slice oa x.on.ar.length oc, .int .i64 x.on.l, .int .i64 x.on.c, .slice na x.ns.length nc, .int .i64 x.g, .slice sa x.ss.length sc] 51 (0, 0))) := Lib.hid ((HK3.out.block w.heap.size (by omega)).trans (heap_alloc2_old w _ _))
  have HY3 : Hid (w3.heap[w.heap.size + 1]? = some (.cells #[.string ⟨#[]⟩, .int .i64 0, .int .i64 0, .string ⟨#[]⟩, .int .i64 0, .int .i64 0, .string ⟨#[]⟩, .slice none 0 0, .int .i64 0, .int .i64 0, .slice none 0 0, .int .i64 0, .slice none 0 0] 51 (0, 0))) := Lib.hid ((HK3.out.block (w.heap.size + 1) (by omega)).trans (heap_alloc2_new w _ _))
  have HB3 := Lib.hid (HB.out.trans (HK3.out.mono (Nat.le_add_right _ 2)))
  have hs3 : w.heap.size + 1 < w3.heap.size := by have := HK3.out.size; simp at this; omega
  obtain ⟨b1, b2⟩ := blk2 HK3.out
  have HG3 := HG
  have x0 : (w3.setCell ⟨w.heap.size, 0, none⟩ (.string x.f.t)).heap[w.heap.size]? = some (.cells #[.string x.f.t, .int .i64 x.f.l, .int .i64 x.f.c, .string x.t.t, .int .i64 x.t.l, .int .i64 x.t.c, .string x.on.n, .slice oa x.on.ar.length oc, .int .i64 x.on.l, .int .i64 x.on.c, .slice na x.ns.length nc, .int .i64 x.g, .slice sa x.ss.length sc] 51 (0, 0)) := heap_setCell_same w3 w.heap.size 0 _ _ (.string x.f.t) HX3.out
  have x1 : ((w3.setCell ⟨w.heap.size, 0, none⟩ (.string x.f.t)).setCell ⟨w.heap.size, 1, none⟩ (.int .i64 0)).heap[w.heap.size]? = some (.cells #[.string x.f.t, .int .i64 0, .int .i64 x.f.c, .string x.t.t, .int .i64 x.t.l, .int .i64 x.t.c, .string x.on.n, .slice oa x.on.ar.length oc, .int .i64 x.on.l, .int .i64 x.on.c, .slice na x.ns.length nc, .int .i64 x.g, .slice sa x.ss.length sc] 51 (0, 0)) := heap_setCell_same (w3.setCell ⟨w.heap.size, 0, none⟩ (.string x.f.t)) w.heap.size 1 _ _ (.int .i64 0) x0
  have x2 : (((w3.setCell ⟨w.heap.size, 0, none⟩ (.string x.f.t)).setCell ⟨w.heap.size, 1, none⟩ (.int .i64 0)).setCell ⟨w.heap.size, 2, none⟩ (.int .i64 0)).heap[w.heap.size]? = some (.cells #[.string x.f.t, .int .i64 0, .int .i64 0, .string x.t.t, .int .i64 x.t.l, .int .i64 x.t.c, .string x.on.n, .slice oa x.on.ar.length oc, .int .i64 x.on.l, .int .i64 x.on.c, .slice na x.ns.length nc, .int .i64 x.g, .slice sa x.ss.length sc] 51 (0, 0)) := heap_setCell_same ((w3.setCell ⟨w.heap.size, 0, none⟩ (.string x.f.t)).setCell ⟨w.heap.size, 1, none⟩ (.int .i64 0)) w.heap.size 2 _ _ (.int .i64 0) x1
  have x3 : ((((w3.setCell ⟨w.heap.size, 0, none⟩ (.string x.f.t)).setCell ⟨w.heap.size, 1, none⟩ (.int .i64 0)).setCell ⟨w.heap.size, 2, none⟩ (.int .i64 0)).setCell ⟨w.heap.size, 3, none⟩ (.string x.t.t)).heap[w.heap.size]? = some (.cells #[.string x.f.t, .int .i64 0, .int .i64 0, .string x.t.t, .int .i64 x.t.l, .int .i64 x.t.c, .string x.on.n, .slice oa x.on.ar.length oc, .int .i64 x.on.l, .int .i64 x.on.c, .slice na x.ns.length nc, .int .i64 x.g, .slice sa x.ss.length sc] 51 (0, 0)) := heap_setCell_same (((w3.setCell ⟨w.heap.size, 0, none⟩ (.string x.f.t)).setCell ⟨w.heap.size, 1, none⟩ (.int .i64 0)).setCell ⟨w.heap.size, 2, none⟩ (.int .i64 0)) w.heap.size 3 _ _ (.string x.t.t) x2
  have x4 : (((((w3.setCell ⟨w.heap.size, 0, none⟩ (.string x.f.t)).setCell ⟨w.heap.size, 1, none⟩ (.int .i64 0)).setCell ⟨w.heap.size, 2, none⟩ (.int .i64 0)).setCell ⟨w.heap.size, 3, none⟩ (.string x.t.t)).setCell ⟨w.heap.size, 4, none⟩ (.int .i64 0)).heap[w.heap.size]? = some (.cells #[.string x.f.t, .int .i64 0, .int .i64 0, .string x.t.t, .int .i64 0, .int .i64 x.t.c, .string x.on.n, .slice oa x.on.ar.length oc, .int .i64 x.on.l, .int .i64 x.on.c, .slice na x.ns.length nc, .int .i64 x.g, .slice sa x.ss.length sc] 51 (0, 0)) := heap_setCell_same ((((w3.setCell ⟨w.heap.size, 0, none⟩ (.string x.f.t)).setCell ⟨w.heap.size, 1, none⟩ (.int .i64 0)).setCell ⟨w.heap.size, 2, none⟩ (.int .i64 0)).setCell ⟨w.heap.size, 3, none⟩ (.string x.t.t)) w.heap.size 4 _ _ (.int .i64 0) x3
  have x5 : ((((((w3.setCell ⟨w.heap.size, 0, none⟩ (.string x.f.t)).setCell ⟨w.heap.size, 1, none⟩ (.int .i64 0)).setCell ⟨w.heap.size, 2, none⟩ (.int .i64 0)).setCell ⟨w.heap.size, 3, none⟩ (.string x.t.t)).setCell ⟨w.heap.size, 4, none⟩ (.int .i64 0)).setCell ⟨w.heap.size, 5, none⟩ (.int .i64 0)).heap[w.heap.size]? = some (.cells #[.string x.f.t, .int .i64 0, .int .i64 0, .string x.t.t, .int .i64 0, .int .i64 0, .string x.on.n, .slice oa x.on.ar.length oc, .int .i64 x.on.l, .int .i64 x.on.c, .slice na x.ns.length nc, .int .i64 x.g, .slice sa x.ss.length sc] 51 (0, 0)) := heap_setCell_same (((((w3.setCell ⟨w.heap.size, 0, none⟩ (.string x.f.t)).setCell ⟨w.heap.size, 1, none⟩ (.int .i64 0)).setCell ⟨w.heap.size, 2, none⟩ (.int .i64 0)).setCell ⟨w.heap.size, 3, none⟩ (.string x.t.t)).setCell ⟨w.heap.size, 4, none⟩ (.int .i64 0)) w.heap.size 5 _ _ (.int .i64 0) x4
  have x6 : (((((((w3.setCell ⟨w.heap.size, 0, none⟩ (.string x.f.t)).setCell ⟨w.heap.size, 1, none⟩ (.int .i64 0)).setCell ⟨w.heap.size, 2, none⟩ (.int .i64 0)).setCell ⟨w.heap.size, 3, none⟩ (.string x.t.t)).setCell ⟨w.heap.size, 4, none⟩ (.int .i64 0)).setCell ⟨w.heap.size, 5, none⟩ (.int .i64 0)).setCell ⟨w.heap.size, 6, none⟩ (.string x.on.n)).heap[w.heap.size]? = some (.cells #[.string x.f.t, .int .i64 0, .int .i64 0, .string x.t.t, .int .i64 0, .int .i64 0, .string x.on.n, .slice oa x.on.ar.length oc, .int .i64 x.on.l, .int .i64 x.on.c, .slice na x.ns.length nc, .int .i64 x.g, .slice sa x.ss.length sc] 51 (0, 0)) := heap_setCell_same ((((((w3.setCell ⟨w.heap.size, 0, none⟩ (.string x.f.t)).setCell ⟨w.heap.size, 1, none⟩ (.int .i64 0)).setCell ⟨w.heap.size, 2, none⟩ (.int .i64 0)).setCell ⟨w.heap.size, 3, none⟩ (.string x.t.t)).setCell ⟨w.heap.size, 4, none⟩ (.int .i64 0)).setCell ⟨w.heap.size, 5, none⟩ (.int .i64 0)) w.heap.size 6 _ _ (.string x.on.n) x5
  have x7 : ((((((((w3.setCell ⟨w.heap.size, 0, none⟩ (.string x.f.t)).setCell ⟨w.heap.size, 1, none⟩ (.int .i64 0)).setCell ⟨w.heap.size, 2, none⟩ (.int .i64 0)).setCell ⟨w.heap.size, 3, none⟩ (.string x.t.t)).setCell ⟨w.heap.size, 4, none⟩ (.int .i64 0)).setCell ⟨w.heap.size, 5, none⟩ (.int .i64 0)).setCell ⟨w.heap.size, 6, none⟩ (.string x.on.n)).setCell ⟨w.heap.size, 7, none⟩ (.slice oa' M.length oc')).heap[w.heap.size]? = some (.cells #[.string x.f.t, .int .i64 0, .int .i64 0, .string x.t.t, .int .i64 0, .int .i64 0, .string x.on.n, .slice oa' M.length oc', .int .i64 x.on.l, .int .i64 x.on.c, .slice na x.ns.length nc, .int .i64 x.g, .slice sa x.ss.length sc] 51 (0, 0)) := heap_setCell_same (((((((w3.setCell ⟨w.heap.size, 0, none⟩ (.string x.f.t)).setCell ⟨w.heap.size, 1, none⟩ (.int .i64 0)).setCell ⟨w.heap.size, 2, none⟩ (.int .i64 0)).setCell ⟨w.heap.size, 3, none⟩ (.string x.t.t)).setCell ⟨w.heap.size, 4, none⟩ (.int .i64 0)).setCell ⟨w.heap.size, 5, none⟩ (.int .i64 0)).setCell ⟨w.heap.size, 6, none⟩ (.string x.on.n)) w.heap.size 7 _ _ (.slice oa' M.length oc') x6
  have x8 : (((((((((w3.setCell ⟨w.heap.size, 0, none⟩ (.string x.f.t)).setCell ⟨w.heap.size, 1, none⟩ (.int .i64 0)).setCell ⟨w.heap.size, 2, none⟩ (.int .i64 0)).setCell ⟨w.heap.size, 3, none⟩ (.string x.t.t)).setCell ⟨w.heap.size, 4, none⟩ (.int .i64 0)).setCell ⟨w.heap.size, 5, none⟩ (.int .i64 0)).setCell ⟨w.heap.size, 6, none⟩ (.string x.on.n)).setCell ⟨w.heap.size, 7, none⟩ (.slice oa' M.length oc')).setCell ⟨w.heap.size, 8, none⟩ (.int .i64 0)).heap[w.heap.size]? = some (.cells #[.string x.f.t, .int .i64 0, .int .i64 0, .string x.t.t, .int .i64 0, .int .i64 0, .string x.on.n, .slice oa' M.length oc', .int .i64 0, .int .i64 x.on.c, .slice na x.ns.length nc, .int .i64 x.g, .slice sa x.ss.length sc] 51 (0, 0)) := heap_setCell_same ((((((((w3.setCell ⟨w.heap.size, 0, none⟩ (.string x.f.t)).setCell ⟨w.heap.size, 1, none⟩ (.int .i64 0)).setCell ⟨w.heap.size, 2, none⟩ (.int .i64 0)).setCell ⟨w.heap.size, 3, none⟩ (.string x.t.t)).setCell ⟨w.heap.size, 4, none⟩ (.int .i64 0)).setCell ⟨w.heap.size, 5, none⟩ (.int .i64 0)).setCell ⟨w.heap.size, 6, none⟩ (.string x.on.n)).setCell ⟨w.heap.size, 7, none⟩ (.slice oa' M.length oc')) w.heap.size 8 _ _ (.int .i64 0) x7
  have x9 : ((((((((((w3.setCell ⟨w.heap.size, 0, none⟩ (.string x.f.t)).setCell ⟨w.heap.size, 1, none⟩ (.int .i64 0)).setCell ⟨w.heap.size, 2, none⟩ (.int .i64 0)).setCell ⟨w.heap.size, 3, none⟩ (.string x.t.t)).setCell ⟨w.heap.size, 4, none⟩ (.int .i64 0)).setCell ⟨w.heap.size, 5, none⟩ (.int .i64 0)).setCell ⟨w.heap.size, 6, none⟩ (.string x.on.n)).setCell ⟨w.heap.size, 7, none⟩ (.slice oa' M.length oc')).setCell ⟨w.heap.size, 8, none⟩ (.int .i64 0)).setCell ⟨w.heap.size, 9, none⟩ (.int .i64 0)).heap[w.heap.size]? = some (.cells #[.string x.f.t, .int .i64 0, .int .i64 0, .string x.t.t, .int .i64 0, .int .i64 0, .string x.on.n, .slice oa' M.length oc', .int .i64 0, .int .i64 0, .slice na x.ns.length nc, .int .i64 x.g, .slice sa x.ss.length sc] 51 (0, 0)) := heap_setCell_same (((((((((w3.setCell ⟨w.heap.size, 0, none⟩ (.string x.f.t)).setCell ⟨w.heap.size, 1, none⟩ (.int .i64 0)).setCell ⟨w.heap.size, 2, none⟩ (.int .i64 0)).setCell ⟨w.heap.size, 3, none⟩ (.string x.t.t)).setCell ⟨w.heap.size, 4, none⟩ (.int .i64 0)).setCell ⟨w.heap.size, 5, none⟩ (.int .i64 0)).setCell ⟨w.heap.size, 6, none⟩ (.string x.on.n)).setCell ⟨w.heap.size, 7, none⟩ (.slice oa' M.length oc')).setCell ⟨w.heap.size, 8, none⟩ (.int .i64 0)) w.heap.size 9 _ _ (.int .i64 0) x8
  obtain ⟨wq, hwq⟩ : ∃ wq, wq = ((((((((((w3.setCell ⟨w.heap.size, 0, none⟩ (.string x.f.t)).setCell ⟨w.heap.size, 1, none⟩ (.int .i64 0)).setCell ⟨w.heap.size, 2, none⟩ (.int .i64 0)).setCell ⟨w.heap.size, 3, none⟩ (.string x.t.t)).setCell ⟨w.heap.size, 4, none⟩ (.int .i64 0)).setCell ⟨w.heap.size, 5, none⟩ (.int .i64 0)).setCell ⟨w.heap.size, 6, none⟩ (.string x.on.n)).setCell ⟨w.heap.size, 7, none⟩ (.slice oa' M.length oc')).setCell ⟨w.heap.size, 8, none⟩ (.int .i64 0)).setCell ⟨w.heap.size, 9, none⟩ (.int .i64 0)) := ⟨_, rfl⟩
  have HXq : Hid (wq.heap[w.heap.size]? = some (.cells #[.string x.f.t, .int .i64 0, .int .i64 0, .string x.t.t, .int .i64 0, .int .i64 0, .string x.on.n, .slice oa' M.length oc', .int .i64 0, .int .i64 0, .slice na x.ns.length nc, .int .i64 x.g, .slice sa x.ss.length sc] 51 (0, 0))) := Lib.hid (by rw [hwq]; exact x9)
  clear x0 x1 x2 x3 x4 x5 x6 x7 x8 x9
  have HYq : Hid (wq.heap[w.heap.size + 1]? = some (.cells #[.string ⟨#[]⟩, .int .i64 0, .int .i64 0, .string ⟨#[]⟩, .int .i64 0, .int .i64 0, .string ⟨#[]⟩, .slice none 0 0, .int .i64 0, .int .i64 0, .slice none 0 0, .int .i64 0, .slice none 0 0] 51 (0, 0))) := Lib.hid (by
    rw [hwq]
    repeat rw [heap_setCell_other _ _ _ _ (show w.heap.size + 1 ≠ w.heap.size by omega)]
    exact HY3.out)
  have HBq : Hid (Below w.heap.size w wq) := Lib.hid (by
    rw [hwq]
    refine Below.trans HB3.out ?_
    repeat' (first | (with_reducible refine Below.setCell ?_ (by simp <;> omega) _) | (with_reducible refine Below.alloc ?_ (by simp <;> omega) _) | (with_reducible refine Below.drew ?_) | exact (Below.refl w3.heap.size w3).mono (by omega)))
  have HGq : Hid (GIn rAg 101 True 8 wq oa' M.length M) := Lib.hid (by
    rw [hwq]
    exact HG.out.keptF trivial (by simp) (fun g hc => by
      have e1 := hc.ne b1 (by decide)
      have e2 := hc.ne b2 (by decide)
      repeat rw [heap_setCell_other _ _ _ _ (by first | exact e1 | exact e2)]))
  have hsq : w.heap.size + 1 < wq.heap.size := by rw [hwq]; simpa using hs3
  rw [← hwq]
  clear hwq HX3 HY3 HB3 hs3 b1 b2 HG3 HG HK3 HK2 HK1 HK0 c0 d0 f0 g0_ c1 d1 f1 g1_ c2 d2 f2 g2_ c3 d3 f3 g3_ c4 d4 f4 g4_ c5 d5 f5 g5_ c6 d6 f6 g6_ c7 d7 f7 g7_ c8 d8 f8 g8_ c9 d9 f9 g9_ c10 d10 f10 g10_ c11 d11 f11 g11_ c12 d12 f12 g12_
  have c10 : wq.cell? ⟨w.heap.size, 10, none⟩ = some (.slice na x.ns.length nc) := by rw [cell_of_row _ _ 10 _ _ _ HXq.out]; rfl
  go_wp2_with fail
  refine (HE.out _ HBq.out).mono ?_
  rintro e w4 ⟨na', nc', rfl, hg, k4⟩
  have HX4 : Hid (w4.heap[w.heap.size]? = some (.cells #[.string x.f.t, .int .i64 0, .int .i64 0, .string x.t.t, .int .i64 0, .int .i64 0, .string x.on.n, .slice oa' M.length oc', .int .i64 0, .int .i64 0, .slice na x.ns.length nc, .int .i64 x.g, .slice sa x.ss.length sc] 51 (0, 0))) := Lib.hid ((k4.block _ (by omega)).trans HXq.out)
  have HY4 : Hid (w4.heap[w.heap.size + 1]? = some (.cells #[.string ⟨#[]⟩, .int .i64 0, .int .i64 0, .string ⟨#[]⟩, .int .i64 0, .int .i64 0, .string ⟨#[]⟩, .slice none 0 0, .int .i64 0, .int .i64 0, .slice none 0 0, .int .i64 0, .slice none 0 0] 51 (0, 0))) := Lib.hid ((k4.block _ hsq).trans HYq.out)
  have HB4 := Lib.hid (HBq.out.trans (k4.mono HBq.out.size))
  have HG4 := Lib.hid (HGq.out.belowF k4)
  have HN4 := Lib.hid hg
  have hs4 : w.heap.size + 1 < w4.heap.size := Nat.lt_of_lt_of_le hsq k4.size
  have HB5 : Hid (Below w.heap.size w (w4.setCell ⟨w.heap.size, 10, none⟩ (.slice na' N.length nc'))) := Lib.hid (HB4.out.setCell (Nat.le_refl _) _)
  clear c10 hg k4 HXq HYq HBq HGq hsq
  have c10 : w4.cell? ⟨w.heap.size, 10, none⟩ = some (.slice na x.ns.length nc) := by rw [cell_of_row _ _ 10 _ _ _ HX4.out]; rfl
  have c12 : w4.cell? ⟨w.heap.size, 12, none⟩ = some (.slice sa x.ss.length sc) := by rw [cell_of_row _ _ 12 _ _ _ HX4.out]; rfl
  have f10 : w4.frozen? ⟨w.heap.size, 10, none⟩ = false := frozen_of_row _ _ 10 _ _ HX4.out
  go_wp2_with fail
  refine (HT.out _ HB5.out).mono ?_
  rintro e w6 ⟨sa', sc', rfl, hg, k6⟩
  have HC4 : Hid (CBlk w4 w.heap.size 51) := Lib.hid ⟨_, _, HX4.out⟩
  have HX6 : Hid (w6.heap[w.heap.size]? = some (.cells #[.string x.f.t, .int .i64 0, .int .i64 0, .string x.t.t, .int .i64 0, .int .i64 0, .string x.on.n, .slice oa' M.length oc', .int .i64 0, .int .i64 0, .slice na' N.length nc', .int .i64 x.g, .slice sa x.ss.length sc] 51 (0, 0))) := Lib.hid ((k6.block _ (by simp; omega)).trans (heap_setCell_same _ _ 10 _ _ _ HX4.out))
  have HY6 : Hid (w6.heap[w.heap.size + 1]? = some (.cells #[.string ⟨#[]⟩, .int .i64 0, .int .i64 0, .string ⟨#[]⟩, .int .i64 0, .int .i64 0, .string ⟨#[]⟩, .slice none 0 0, .int .i64 0, .int .i64 0, .slice none 0 0, .int .i64 0, .slice none 0 0] 51 (0, 0))) := Lib.hid ((k6.block _ (by simpa using hs4)).trans ((heap_setCell_other _ _ _ _ (show w.heap.size + 1 ≠ w.heap.size by omega)).trans HY4.out))
  have HB6 := Lib.hid (HB5.out.trans (k6.mono HB5.out.size))
  have HG6 := Lib.hid ((HG4.out.keptF trivial (by simp) (fun g hc => heap_setCell_other _ _ _ _ (hc.ne HC4.out (by decide)))).belowF k6)
  have HN6 := Lib.hid ((HN4.out.keptF trivial (by simp) (fun g hc => heap_setCell_other _ _ _ _ (hc.ne HC4.out (by decide)))).belowF k6)
  have HT6 := Lib.hid hg
  have hs6 : w.heap.size + 1 < w6.heap.size := Nat.lt_of_lt_of_le (by simpa using hs4) k6.size
  clear c10 c12 f10 hg k6 HX4 HY4 HB4 HG4 HN4 hs4 HB5 HC4
  have c0 : w6.cell? ⟨w.heap.size, 0, none⟩ = some (.string x.f.t) := by rw [cell_of_row _ _ 0 _ _ _ HX6.out]; rfl
  have c1 : w6.cell? ⟨w.heap.size, 1, none⟩ = some (.int .i64 0) := by rw [cell_of_row _ _ 1 _ _ _ HX6.out]; rfl
  have c2 : w6.cell? ⟨w.heap.size, 2, none⟩ = some (.int .i64 0) := by rw [cell_of_row _ _ 2 _ _ _ HX6.out]; rfl
  have c3 : w6.cell? ⟨w.heap.size, 3, none⟩ = some (.string x.t.t) := by rw [cell_of_row _ _ 3 _ _ _ HX6.out]; rfl
  have c4 : w6.cell? ⟨w.heap.size, 4, none⟩ = some (.int .i64 0) := by rw [cell_of_row _ _ 4 _ _ _ HX6.out]; rfl
  have c5 : w6.cell? ⟨w.heap.size, 5, none⟩ = some (.int .i64 0) := by rw [cell_of_row _ _ 5 _ _ _ HX6.out]; rfl
  have c6 : w6.cell? ⟨w.heap.size, 6, none⟩ = some (.string x.on.n) := by rw [cell_of_row _ _ 6 _ _ _ HX6.out]; rfl
  have c7 : w6.cell? ⟨w.heap.size, 7, none⟩ = some (.slice oa' M.length oc') := by rw [cell_of_row _ _ 7 _ _ _ HX6.out]; rfl
  have c8 : w6.cell? ⟨w.heap.size, 8, none⟩ = some (.int .i64 0) := by rw [cell_of_row _ _ 8 _ _ _ HX6.out]; rfl
  have c9 : w6.cell? ⟨w.heap.size, 9, none⟩ = some (.int .i64 0) := by rw [cell_of_row _ _ 9 _ _ _ HX6.out]; rfl
  have c10 : w6.cell? ⟨w.heap.size, 10, none⟩ = some (.slice na' N.length nc') := by rw [cell_of_row _ _ 10 _ _ _ HX6.out]; rfl
  have c11 : w6.cell? ⟨w.heap.size, 11, none⟩ = some (.int .i64 x.g) := by rw [cell_of_row _ _ 11 _ _ _ HX6.out]; rfl
  have c12 : w6.cell? ⟨w.heap.size, 12, none⟩ = some (.slice sa x.ss.length sc) := by rw [cell_of_row _ _ 12 _ _ _ HX6.out]; rfl
  have f12 : w6.frozen? ⟨w.heap.size, 12, none⟩ = false := frozen_of_row _ _ 12 _ _ HX6.out
  have d0 : w6.cell? ⟨w.heap.size + 1, 0, none⟩ = some (.string ⟨#[]⟩) := by rw [cell_of_row _ _ 0 _ _ _ HY6.out]; rfl
  have g0 : w6.frozen? ⟨w.heap.size + 1, 0, none⟩ = false := frozen_of_row _ _ 0 _ _ HY6.out
  have d1 : w6.cell? ⟨w.heap.size + 1, 1, none⟩ = some (.int .i64 0) := by rw [cell_of_row _ _ 1 _ _ _ HY6.out]; rfl
  have g1 : w6.frozen? ⟨w.heap.size + 1, 1, none⟩ = false := frozen_of_row _ _ 1 _ _ HY6.out
  have d2 : w6.cell? ⟨w.heap.size + 1, 2, none⟩ = some (.int .i64 0) := by rw [cell_of_row _ _ 2 _ _ _ HY6.out]; rfl
  have g2 : w6.frozen? ⟨w.heap.size + 1, 2, none⟩ = false := frozen_of_row _ _ 2 _ _ HY6.out
  have d3 : w6.cell? ⟨w.heap.size + 1, 3, none⟩ = some (.string ⟨#[]⟩) := by rw [cell_of_row _ _ 3 _ _ _ HY6.out]; rfl
  have g3 : w6.frozen? ⟨w.heap.size + 1, 3, none⟩ = false := frozen_of_row _ _ 3 _ _ HY6.out
  have d4 : w6.cell? ⟨w.heap.size + 1, 4, none⟩ = some (.int .i64 0) := by rw [cell_of_row _ _ 4 _ _ _ HY6.out]; rfl
  have g4 : w6.frozen? ⟨w.heap.size + 1, 4, none⟩ = false := frozen_of_row _ _ 4 _ _ HY6.out
  have d5 : w6.cell? ⟨w.heap.size + 1, 5, none⟩ = some (.int .i64 0) := by rw [cell_of_row _ _ 5 _ _ _ HY6.out]; rfl
  have g5 : w6.frozen? ⟨w.heap.size + 1, 5, none⟩ = false := frozen_of_row _ _ 5 _ _ HY6.out
  have d6 : w6.cell? ⟨w.heap.size + 1, 6, none⟩ = some (.string ⟨#[]⟩) := by rw [cell_of_row _ _ 6 _ _ _ HY6.out]; rfl
  have g6 : w6.frozen? ⟨w.heap.size + 1, 6, none⟩ = false := frozen_of_row _ _ 6 _ _ HY6.out
  have d7 : w6.cell? ⟨w.heap.size + 1, 7, none⟩ = some (.slice none 0 0) := by rw [cell_of_row _ _ 7 _ _ _ HY6.out]; rfl
  have g7 : w6.frozen? ⟨w.heap.size + 1, 7, none⟩ = false := frozen_of_row _ _ 7 _ _ HY6.out
  have d8 : w6.cell? ⟨w.heap.size + 1, 8, none⟩ = some (.int .i64 0) := by rw [cell_of_row _ _ 8 _ _ _ HY6.out]; rfl
  have g8 : w6.frozen? ⟨w.heap.size + 1, 8, none⟩ = false := frozen_of_row _ _ 8 _ _ HY6.out
  have d9 : w6.cell? ⟨w.heap.size + 1, 9, none⟩ = some (.int .i64 0) := by rw [cell_of_row _ _ 9 _ _ _ HY6.out]; rfl
  have g9 : w6.frozen? ⟨w.heap.size + 1, 9, none⟩ = false := frozen_of_row _ _ 9 _ _ HY6.out
  have d10 : w6.cell? ⟨w.heap.size + 1, 10, none⟩ = some (.slice none 0 0) := by rw [cell_of_row _ _ 10 _ _ _ HY6.out]; rfl
  have g10 : w6.frozen? ⟨w.heap.size + 1, 10, none⟩ = false := frozen_of_row _ _ 10 _ _ HY6.out
  have d11 : w6.cell? ⟨w.heap.size + 1, 11, none⟩ = some (.int .i64 0) := by rw [cell_of_row _ _ 11 _ _ _ HY6.out]; rfl
  have g11 : w6.frozen? ⟨w.heap.size + 1, 11, none⟩ = false := frozen_of_row _ _ 11 _ _ HY6.out
  have d12 : w6.cell? ⟨w.heap.size + 1, 12, none⟩ = some (.slice none 0 0) := by rw [cell_of_row _ _ 12 _ _ _ HY6.out]; rfl
  have g12 : w6.frozen? ⟨w.heap.size + 1, 12, none⟩ = false := frozen_of_row _ _ 12 _ _ HY6.out
  have HC6 : Hid (CBlk w6 w.heap.size 51) := Lib.hid ⟨_, _, HX6.out⟩
  have HC7 : Hid (CBlk w6 (w.heap.size + 1) 51) := Lib.hid ⟨_, _, HY6.out⟩
  go_wp2_with fail
  refine bodyPost_ret (v := .agg #[.string x.f.t, .int .i64 0, .int .i64 0, .string x.t.t, .int .i64 0, .int .i64 0, .string x.on.n, .slice oa' M.length oc', .int .i64 0, .int .i64 0, .slice na' N.length nc', .int .i64 x.g, .slice sa' Z.length sc']) ?_ rfl ⟨[.string x.f.t, .int .i64 0, .int .i64 0, .string x.t.t, .int .i64 0, .int .i64 0, .string x.on.n, .slice oa' M.length oc', .int .i64 0, .int .i64 0, .slice na' N.length nc', .int .i64 x.g, .slice sa' Z.length sc'], rfl, rTs_mk HMM.out HMN.out HMZ.out (HG6.out.keptF trivial (by simp) (fun g hc => by
      have e1 := hc.ne HC6.out (by decide)
      have e2 := hc.ne HC7.out (by decide)
      repeat rw [heap_setCell_other _ _ _ _ (by first | exact e1 | exact e2)])) (HN6.out.keptF trivial (by simp) (fun g hc => by
      have e1 := hc.ne HC6.out (by decide)
      have e2 := hc.ne HC7.out (by decide)
      repeat rw [heap_setCell_other _ _ _ _ (by first | exact e1 | exact e2)])) (HT6.out.keptF trivial (by simp) (fun g hc => by
      have e1 := hc.ne HC6.out (by decide)
      have e2 := hc.ne HC7.out (by decide)
      repeat rw [heap_setCell_other _ _ _ _ (by first | exact e1 | exact e2)])) HOK.out, ?_⟩
  · rw [results_cell rfl]
    go_simp
  · refine Below.trans HB6.out ?_
    repeat' (first | (with_reducible refine Below.setCell ?_ (by simp <;> omega) _) | (with_reducible refine Below.alloc ?_ (by simp <;> omega) _) | (with_reducible refine Below.drew ?_) | exact (Below.refl w6.heap.size w6).mono (by omega))
end Go.Proofs.YtojabkhfkbfeaaaGreatDoor

/- TreeEachS -/
namespace Go.Proofs.YtojabkhfkbfeaaaGreatDoor
open Go.RowKit
set_option linter.unusedVariables false


set_option maxHeartbeats 4000000 in
set_option maxRecDepth 100000 in
theorem eachDe_calls {Y : TyT} {O O' : Prop} {T : TypeId} (a : Option Addr) (len cap : Nat) (L : List De) (w : World) (h : GIn (rDe Y O) T O' 4 w a len L) (hl : len ≤ 1000000) (hlx : ∀ x ∈ L, x.ks.length ≤ 1000000) :
    Calls Tryz.prog 20 #[.slice a len cap, .func (.func 21) #[] #[]] w (Made (rDe tyT True) 39 4 (L.map plDe) w) := by
  have eg : ∀ args w, (callFunc 21 args).run Tryz.prog w = .ok (.enter 21 args) w := enters_of Tryz.func21 (by kernel_rfl) rfl
  cases a with
  | none =>
    obtain ⟨rfl, rfl⟩ := gin_none h
    clear h hlx
    go_enter Tryz.func20, Tryz.ntmps20
    go_wp2_with fail
    refine (cloneDe_nil 0 cap w).mono ?_
    rintro e w1 ⟨rfl, rfl⟩
    go_wp2_with fail
    go_loopw [12] (fun i wr => i = .int .i64 0 ∧ Hid (Below w.heap.size w wr)) (fun _ _ => 0)
    case atStart => exact ⟨rfl, Lib.hid (Below.refl _ _)⟩
    case round =>
      obtain ⟨rfl, HB⟩ := hrel
      go_wp2_with fail
      go_ret
      exact ⟨none, 0, rfl, GIn.nil, HB.out⟩
  | some ad =>
    obtain ⟨css, hgs, hcs⟩ := gin_out h (by decide) ad rfl
    have HL := Lib.hid h.leng
    have HGS := Lib.hid hgs
    have HLX := Lib.hid hlx
    have hfl : css.flatten.length = len * 4 := by rw [flat_len _ hgs.all, hgs.leng, h.leng]
    have hone : ∀ u ∈ css.flatten, u.oneCell' = true := gs_one hgs (fun cs x hr u hu => by
      obtain ⟨a, c, rfl, g1, _⟩ := hr
      simp only [List.mem_cons, List.not_mem_nil, or_false] at hu
      rcases hu with rfl | rfl | rfl | rfl <;> rfl)
    have HC := Lib.hid (cloneDe_some ad len cap css.flatten w hfl hcs hone hl)
    clear h hcs hfl hone hlx
    go_enter Tryz.func20, Tryz.ntmps20
    go_wp2_with fail
    refine HC.out.mono ?_
    rintro e w1 ⟨v, rfl, ho, hne, hb⟩
    obtain ⟨g, c, rfl, hlc, hE⟩ := Ea.start ho hne hb hgs.all
    have HE0 := Lib.hid hE
    clear hgs ho hne hb hE HC hlc
    go_wp2_with fail
    go_loopw [12] (fun i wr => ∃ (j : Nat), j ≤ len ∧ i = .int .i64 j ∧ Hid (Ea 39 4 w g css j wr) ∧ Hid (GIn (rDe tyT True) 39 True 4 wr (some ⟨g, 0, none⟩) j ((L.map plDe).take j))) (fun i _ => len - (intOf i).toNat)
    case atStart => exact ⟨0, Nat.zero_le _, rfl, HE0, Lib.hid GIn.nil⟩
    case round =>
      obtain ⟨j, hj, rfl, HE, HG⟩ := hrel
      by_cases hlt : j < len
      case neg =>
        obtain rfl : j = len := by omega
        have hml : (L.map plDe).length = j := by rw [List.length_map, HL.out]
        have HG2 : Hid (GIn (rDe tyT True) 39 True 4 wr (some ⟨g, 0, none⟩) j (L.map plDe)) := Lib.hid (by have := HG.out; rwa [List.take_of_length_le (by omega)] at this)
        have HM := Lib.hid hml
        clear hml
        go_wp2_with fail
        go_ret
        exact ⟨some ⟨g, 0, none⟩, c, by rw [HM.out]; rfl, by rw [HM.out]; exact HG2.out, HE.out.below⟩
      case pos =>
        obtain ⟨x, hx⟩ := at_some HL.out hlt
        obtain ⟨cs, hcs, hr⟩ := HGS.out.at' j x hx
        have hlx := HLX.out x (List.mem_of_getElem? hx)
        have HCS := Lib.hid hcs
        have HMX := Lib.hid (take_map (f := plDe) hx)
        have HK := Lib.hid (fun w1 (hb : Below w.heap.size w w1) => plainDe_calls x cs w1 (rDe_below hr hb) hlx)
        obtain ⟨a1, c1, rfl, g11, _⟩ := hr
        have c0_ : wr.cell? ⟨g, j * 4, none⟩ = some (.string x.n.t) := HE.out.todo j _ (Nat.le_refl _) hcs 0 _ rfl
        have c1_ : wr.cell? ⟨g, j * 4 + 1, none⟩ = some (.int .i64 x.n.l) := HE.out.todo j _ (Nat.le_refl _) hcs 1 _ rfl
        have c2_ : wr.cell? ⟨g, j * 4 + 2, none⟩ = some (.int .i64 x.n.c) := HE.out.todo j _ (Nat.le_refl _) hcs 2 _ rfl
        have c3_ : wr.cell? ⟨g, j * 4 + 3, none⟩ = some (.slice a1 x.ks.length c1) := HE.out.todo j _ (Nat.le_refl _) hcs 3 _ rfl
        have HB2 : Hid (Below wr.heap.size wr (wr.alloc (.cells #[.string x.n.t, .int .i64 x.n.l, .int .i64 x.n.c, .slice a1 x.ks.length c1] 39))) := Lib.hid ((Below.refl wr.heap.size wr).alloc (Nat.le_refl _) _)
        have HBW := Lib.hid (HE.out.below.trans (HB2.out.mono HE.out.below.size))
        clear hx hcs hlx
        go_wp2_with fail
        refine (HK.out _ HBW.out).mono ?_
        rintro e w2 ⟨vs, rfl, hrv, k2⟩
        have HRV := Lib.hid hrv
        obtain ⟨a', c', rfl, hg', hok'⟩ := hrv
        have hb3 := HB2.out.trans (k2.mono (by simp))
        have hE2 := HE.out.call hb3
        have HE2 := Lib.hid hE2
        have HG2 := Lib.hid (HG.out.belowD hb3)
        have d0_ : w2.cell? ⟨g, j * 4, none⟩ = some (.string x.n.t) := hE2.todo j _ (Nat.le_refl _) HCS.out 0 _ rfl
        have f0 : w2.frozen? ⟨g, j * 4, none⟩ = false := hE2.frozen (j * 4)
        have d1_ : w2.cell? ⟨g, j * 4 + 1, none⟩ = some (.int .i64 x.n.l) := hE2.todo j _ (Nat.le_refl _) HCS.out 1 _ rfl
        have f1 : w2.frozen? ⟨g, j * 4 + 1, none⟩ = false := hE2.frozen (j * 4 + 1)
        have d2_ : w2.cell? ⟨g, j * 4 + 2, none⟩ = some (.int .i64 x.n.c) := hE2.todo j _ (Nat.le_refl _) HCS.out 2 _ rfl
        have f2 : w2.frozen? ⟨g, j * 4 + 2, none⟩ = false := hE2.frozen (j * 4 + 2)
        have d3_ : w2.cell? ⟨g, j * 4 + 3, none⟩ = some (.slice a1 x.ks.length c1) := hE2.todo j _ (Nat.le_refl _) HCS.out 3 _ rfl
        have f3 : w2.frozen? ⟨g, j * 4 + 3, none⟩ = false := hE2.frozen (j * 4 + 3)
        clear hE2 hb3 k2 c0_ c1_ c2_ c3_
        go_wp2_with fail
        go_roundw
        case rel => exact ⟨j + 1, hlt, by go_num, Lib.hid (HE2.out.put [.string (plDe x).n.t, .int .i64 (plDe x).n.l, .int .i64 (plDe x).n.c, .slice a' (plDe x).ks.length c'] rfl), Lib.hid (gin_put (vs := [.string (plDe x).n.t, .int .i64 (plDe x).n.l, .int .i64 (plDe x).n.c, .slice a' (plDe x).ks.length c']) HG2.out HE2.out HCS.out rfl HMX.out rfl (rDe_put HRV.out HE2.out.cblk (by decide) _ _) (fun _ _ h => rDe_put h HE2.out.cblk (by decide) _ _) (by omega))⟩
        case measure => simp [intOf] <;> omega

set_option maxHeartbeats 4000000 in
set_option maxRecDepth 100000 in
theorem eachSy_calls {Y : TyT} {O O' : Prop} {T : TypeId} (a : Option Addr) (len cap : Nat) (L : List Sy) (w : World) (h : GIn (rSy Y O) T O' 4 w a len L) (hl : len ≤ 1000000) (hlx : ∀ x ∈ L, x.ar.length ≤ 1000000) :
    Calls Tryz.prog 29 #[.slice a len cap, .func (.func 30) #[] #[]] w (Made (rSy tyT True) 47 4 (L.map plS) w) := by
  have eg : ∀ args w, (callFunc 30 args).run Tryz.prog w = .ok (.enter 30 args) w := enters_of Tryz.func30 (by kernel_rfl) rfl
  cases a with
  | none =>
    obtain ⟨rfl, rfl⟩ := gin_none h
    clear h hlx
    go_enter Tryz.func29, Tryz.ntmps29
    go_wp2_with fail
    refine (cloneSy_nil 0 cap w).mono ?_
    rintro e w1 ⟨rfl, rfl⟩
    go_wp2_with fail
    go_loopw [12] (fun i wr => i = .int .i64 0 ∧ Hid (Below w.heap.size w wr)) (fun _ _ => 0)
    case atStart => exact ⟨rfl, Lib.hid (Below.refl _ _)⟩
    case round =>
      obtain ⟨rfl, HB⟩ := hrel
      go_wp2_with fail
      go_ret
      exact ⟨none, 0, rfl, GIn.nil, HB.out⟩
  | some ad =>
    obtain ⟨css, hgs, hcs⟩ := gin_out h (by decide) ad rfl
    have HL := Lib.hid h.leng
    have HGS := Lib.hid hgs
    have HLX := Lib.hid hlx
    have hfl : css.flatten.length = len * 4 := by rw [flat_len _ hgs.all, hgs.leng, h.leng]
    have hone : ∀ u ∈ css.flatten, u.oneCell' = true := gs_one hgs (fun cs x hr u hu => by
      obtain ⟨a, c, rfl, g1, _⟩ := hr
      simp only [List.mem_cons, List.not_mem_nil, or_false] at hu
      rcases hu with rfl | rfl | rfl | rfl <;> rfl)
    have HC := Lib.hid (cloneSy_some ad len cap css.flatten w hfl hcs hone hl)
    clear h hcs hfl hone hlx
    go_enter Tryz.func29, Tryz.ntmps29
    go_wp2_with fail
    refine HC.out.mono ?_
    rintro e w1 ⟨v, rfl, ho, hne, hb⟩
    obtain ⟨g, c, rfl, hlc, hE⟩ := Ea.start ho hne hb hgs.all
    have HE0 := Lib.hid hE
    clear hgs ho hne hb hE HC hlc
    go_wp2_with fail
    go_loopw [12] (fun i wr => ∃ (j : Nat), j ≤ len ∧ i = .int .i64 j ∧ Hid (Ea 47 4 w g css j wr) ∧ Hid (GIn (rSy tyT True) 47 True 4 wr (some ⟨g, 0, none⟩) j ((L.map plS).take j))) (fun i _ => len - (intOf i).toNat)
    case atStart => exact ⟨0, Nat.zero_le _, rfl, HE0, Lib.hid GIn.nil⟩
    case round =>
      obtain ⟨j, hj, rfl, HE, HG⟩ := hrel
      by_cases hlt : j < len
      case neg =>
        obtain rfl : j = len := by omega
        have hml : (L.map plS).length = j := by rw [List.length_map, HL.out]
        have HG2 : Hid (GIn (rSy tyT True) 47 True 4 wr (some ⟨g, 0, none⟩) j (L.map plS)) := Lib.hid (by have := HG.out; rwa [List.take_of_length_le (by omega)] at this)
        have HM := Lib.hid hml
        clear hml
        go_wp2_with fail
        go_ret
        exact ⟨some ⟨g, 0, none⟩, c, by rw [HM.out]; rfl, by rw [HM.out]; exact HG2.out, HE.out.below⟩
      case pos =>
        obtain ⟨x, hx⟩ := at_some HL.out hlt
        obtain ⟨cs, hcs, hr⟩ := HGS.out.at' j x hx
        have hlx := HLX.out x (List.mem_of_getElem? hx)
        have HCS := Lib.hid hcs
        have HMX := Lib.hid (take_map (f := plS) hx)
        have HK := Lib.hid (fun w1 (hb : Below w.heap.size w w1) => plainSy_calls x cs w1 (rSy_below hr hb) hlx)
        obtain ⟨a1, c1, rfl, g11, _⟩ := hr
        have c0_ : wr.cell? ⟨g, j * 4, none⟩ = some (.string x.n) := HE.out.todo j _ (Nat.le_refl _) hcs 0 _ rfl
        have c1_ : wr.cell? ⟨g, j * 4 + 1, none⟩ = some (.slice a1 x.ar.length c1) := HE.out.todo j _ (Nat.le_refl _) hcs 1 _ rfl
        have c2_ : wr.cell? ⟨g, j * 4 + 2, none⟩ = some (.int .i64 x.l) := HE.out.todo j _ (Nat.le_refl _) hcs 2 _ rfl
        have c3_ : wr.cell? ⟨g, j * 4 + 3, none⟩ = some (.int .i64 x.c) := HE.out.todo j _ (Nat.le_refl _) hcs 3 _ rfl
        have HB2 : Hid (Below wr.heap.size wr (wr.alloc (.cells #[.string x.n, .slice a1 x.ar.length c1, .int .i64 x.l, .int .i64 x.c] 47))) := Lib.hid ((Below.refl wr.heap.size wr).alloc (Nat.le_refl _) _)
        have HBW := Lib.hid (HE.out.below.trans (HB2.out.mono HE.out.below.size))
        clear hx hcs hlx
        go_wp2_with fail
        refine (HK.out _ HBW.out).mono ?_
        rintro e w2 ⟨vs, rfl, hrv, k2⟩
        have HRV := Lib.hid hrv
        obtain ⟨a', c', rfl, hg', hok'⟩ := hrv
        have hb3 := HB2.out.trans (k2.mono (by simp))
        have hE2 := HE.out.call hb3
        have HE2 := Lib.hid hE2
        have HG2 := Lib.hid (HG.out.belowS hb3)
        have d0_ : w2.cell? ⟨g, j * 4, none⟩ = some (.string x.n) := hE2.todo j _ (Nat.le_refl _) HCS.out 0 _ rfl
        have f0 : w2.frozen? ⟨g, j * 4, none⟩ = false := hE2.frozen (j * 4)
        have d1_ : w2.cell? ⟨g, j * 4 + 1, none⟩ = some (.slice a1 x.ar.length c1) := hE2.todo j _ (Nat.le_refl _) HCS.out 1 _ rfl
        have f1 : w2.frozen? ⟨g, j * 4 + 1, none⟩ = false := hE2.frozen (j * 4 + 1)
        have d2_ : w2.cell? ⟨g, j * 4 + 2, none⟩ = some (.int .i64 x.l) := hE2.todo j _ (Nat.le_refl _) HCS.out 2 _ rfl
        have f2 : w2.frozen? ⟨g, j * 4 + 2, none⟩ = false := hE2.frozen (j * 4 + 2)
        have d3_ : w2.cell? ⟨g, j * 4 + 3, none⟩ = some (.int .i64 x.c) := hE2.todo j _ (Nat.le_refl _) HCS.out 3 _ rfl
        have f3 : w2.frozen? ⟨g, j * 4 + 3, none⟩ = false := hE2.frozen (j * 4 + 3)
        clear hE2 hb3 k2 c0_ c1_ c2_ c3_
        go_wp2_with fail
        go_roundw
        case rel => exact ⟨j + 1, hlt, by go_num, Lib.hid (HE2.out.put [.string (plS x).n, .slice a' (plS x).ar.length c', .int .i64 (plS x).l, .int .i64 (plS x).c] rfl), Lib.hid (gin_put (vs := [.string (plS x).n, .slice a' (plS x).ar.length c', .int .i64 (plS x).l, .int .i64 (plS x).c]) HG2.out HE2.out HCS.out rfl HMX.out rfl (rSy_put HRV.out HE2.out.cblk (by decide) _ _) (fun _ _ h => rSy_put h HE2.out.cblk (by decide) _ _) (by omega))⟩
        case measure => simp [intOf] <;> omega

set_option maxHeartbeats 4000000 in
set_option maxRecDepth 100000 in
theorem eachTs_calls {Y : TyT} {O O' : Prop} {T : TypeId} (a : Option Addr) (len cap : Nat) (L : List Ts) (w : World) (h : GIn (rTs Y O) T O' 13 w a len L) (hl : len ≤ 1000000) (hlx : ∀ x ∈ L, x.on.ar.length ≤ 1000000 ∧ x.ns.length ≤ 1000000 ∧ x.ss.length ≤ 1000000) :
    Calls Tryz.prog 31 #[.slice a len cap, .func (.func 32) #[] #[]] w (Made (rTs tyT True) 51 13 (L.map plTs) w) := by
  have eg : ∀ args w, (callFunc 32 args).run Tryz.prog w = .ok (.enter 32 args) w := enters_of Tryz.func32 (by kernel_rfl) rfl
  cases a with
  | none =>
    obtain ⟨rfl, rfl⟩ := gin_none h
    clear h hlx
    go_enter Tryz.func31, Tryz.ntmps31
    go_wp2_with fail
    refine (cloneTs_nil 0 cap w).mono ?_
    rintro e w1 ⟨rfl, rfl⟩
    go_wp2_with fail
    go_loopw [12] (fun i wr => i = .int .i64 0 ∧ Hid (Below w.heap.size w wr)) (fun _ _ => 0)
    case atStart => exact ⟨rfl, Lib.hid (Below.refl _ _)⟩
    case round =>
      obtain ⟨rfl, HB⟩ := hrel
      go_wp2_with fail
      go_ret
      exact ⟨none, 0, rfl, GIn.nil, HB.out⟩
  | some ad =>
    obtain ⟨css, hgs, hcs⟩ := gin_out h (by decide) ad rfl
    have HL := Lib.hid h.leng
    have HGS := Lib.hid hgs
    have HLX := Lib.hid hlx
    have hfl : css.flatten.length = len * 13 := by rw [flat_len _ hgs.all, hgs.leng, h.leng]
    have hone : ∀ u ∈ css.flatten, u.oneCell' = true := gs_one hgs (fun cs x hr u hu => by
      obtain ⟨oa, oc, na, nc, sa, sc, rfl, g1, g2, g3, g4⟩ := hr
      simp only [List.mem_cons, List.not_mem_nil, or_false] at hu
      rcases hu with rfl | rfl | rfl | rfl | rfl | rfl | rfl | rfl | rfl | rfl | rfl | rfl | rfl <;> rfl)
    have HC := Lib.hid (cloneTs_some ad len cap css.flatten w hfl hcs hone hl)
    clear h hcs hfl hone hlx
    go_enter Tryz.func31, Tryz.ntmps31
    go_wp2_with fail
    refine HC.out.mono ?_
    rintro e w1 ⟨v, rfl, ho, hne, hb⟩
    obtain ⟨g, c, rfl, hlc, hE⟩ := Ea.start ho hne hb hgs.all
    have HE0 := Lib.hid hE
    clear hgs ho hne hb hE HC hlc
    go_wp2_with fail
    go_loopw [12] (fun i wr => ∃ (j : Nat), j ≤ len ∧ i = .int .i64 j ∧ Hid (Ea 51 13 w g css j wr) ∧ Hid (GIn (rTs tyT True) 51 True 13 wr (some ⟨g, 0, none⟩) j ((L.map plTs).take j))) (fun i _ => len - (intOf i).toNat)
    case atStart => exact ⟨0, Nat.zero_le _, rfl, HE0, Lib.hid GIn.nil⟩
    case round =>
      obtain ⟨j, hj, rfl, HE, HG⟩ := hrel
      by_cases hlt : j < len
      case neg =>
        obtain rfl : j = len := by omega
        have hml : (L.map plTs).length = j := by rw [List.length_map, HL.out]
        have HG2 : Hid (GIn (rTs tyT True) 51 True 13 wr (some ⟨g, 0, none⟩) j (L.map plTs)) := Lib.hid (by have := HG.out; rwa [List.take_of_length_le (by omega)] at this)
        have HM := Lib.hid hml
        clear hml
        go_wp2_with fail
        go_ret
        exact ⟨some ⟨g, 0, none⟩, c, by rw [HM.out]; rfl, by rw [HM.out]; exact HG2.out, HE.out.below⟩
      case pos =>
        obtain ⟨x, hx⟩ := at_some HL.out hlt
        obtain ⟨cs, hcs, hr⟩ := HGS.out.at' j x hx
        have hlx := HLX.out x (List.mem_of_getElem? hx)
        have HCS := Lib.hid hcs
        have HMX := Lib.hid (take_map (f := plTs) hx)
        have HK := Lib.hid (fun w1 (hb : Below w.heap.size w w1) => plainTs_calls x cs w1 (rTs_below hr hb) hlx.1 hlx.2.1 hlx.2.2)
        obtain ⟨oa1, oc1, na1, nc1, sa1, sc1, rfl, g11, g21, g31, g41⟩ := hr
        have c0_ : wr.cell? ⟨g, j * 13, none⟩ = some (.string x.f.t) := HE.out.todo j _ (Nat.le_refl _) hcs 0 _ rfl
        have c1_ : wr.cell? ⟨g, j * 13 + 1, none⟩ = some (.int .i64 x.f.l) := HE.out.todo j _ (Nat.le_refl _) hcs 1 _ rfl
        have c2_ : wr.cell? ⟨g, j * 13 + 2, none⟩ = some (.int .i64 x.f.c) := HE.out.todo j _ (Nat.le_refl _) hcs 2 _ rfl
        have c3_ : wr.cell? ⟨g, j * 13 + 3, none⟩ = some (.string x.t.t) := HE.out.todo j _ (Nat.le_refl _) hcs 3 _ rfl
        have c4_ : wr.cell? ⟨g, j * 13 + 4, none⟩ = some (.int .i64 x.t.l) := HE.out.todo j _ (Nat.le_refl _) hcs 4 _ rfl
        have c5_ : wr.cell? ⟨g, j * 13 + 5, none⟩ = some (.int .i64 x.t.c) := HE.out.todo j _ (Nat.le_refl _) hcs 5 _ rfl
        have c6_ : wr.cell? ⟨g, j * 13 + 6, none⟩ = some (.string x.on.n) := HE.out.todo j _ (Nat.le_refl _) hcs 6 _ rfl
        have c7_ : wr.cell? ⟨g, j * 13 + 7, none⟩ = some (.slice oa1 x.on.ar.length oc1) := HE.out.todo j _ (Nat.le_refl _) hcs 7 _ rfl
        have c8_ : wr.cell? ⟨g, j * 13 + 8, none⟩ = some (.int .i64 x.on.l) := HE.out.todo j _ (Nat.le_refl _) hcs 8 _ rfl
        have c9_ : wr.cell? ⟨g, j * 13 + 9, none⟩ = some (.int .i64 x.on.c) := HE.out.todo j _ (Nat.le_refl _) hcs 9 _ rfl
        have c10_ : wr.cell? ⟨g, j * 13 + 10, none⟩ = some (.slice na1 x.ns.length nc1) := HE.out.todo j _ (Nat.le_refl _) hcs 10 _ rfl
        have c11_ : wr.cell? ⟨g, j * 13 + 11, none⟩ = some (.int .i64 x.g) := HE.out.todo j _ (Nat.le_refl _) hcs 11 _ rfl
        have c12_ : wr.cell? ⟨g, j * 13 + 12, none⟩ = some (.slice sa1 x.ss.length sc1) := HE.out.todo j _ (Nat.le_refl _) hcs 12 _ rfl
        have HB2 : Hid (Below wr.heap.size wr (wr.alloc (.cells #[.string x.f.t, .int .i64 x.f.l, .int .i64 x.f.c, .string x.t.t, .int .i64 x.t.l, .int .i64 x.t.c, .string x.on.n, .slice oa1 x.on.ar.length oc1, .int .i64 x.on.l, .int .i64 x.on.c, .slice na1 x.ns.length nc1, .int .i64 x.g, .slice sa1 x.ss.length sc1] 51))) := Lib.hid ((Below.refl wr.heap.size wr).alloc (Nat.le_refl _) _)
        have HBW := Lib.hid (HE.out.below.trans (HB2.out.mono HE.out.below.size))
        clear hx hcs hlx
        go_wp2_with fail
        refine (HK.out _ HBW.out).mono ?_
        rintro e w2 ⟨vs, rfl, hrv, k2⟩
        have HRV := Lib.hid hrv
        obtain ⟨oa', oc', na', nc', sa', sc', rfl, hg1', hg2', hg3', hok'⟩ := hrv
        have hb3 := HB2.out.trans (k2.mono (by simp))
        have hE2 := HE.out.call hb3
        have HE2 := Lib.hid hE2
        have HG2 := Lib.hid (HG.out.belowT hb3)
        have d0_ : w2.cell? ⟨g, j * 13, none⟩ = some (.string x.f.t) := hE2.todo j _ (Nat.le_refl _) HCS.out 0 _ rfl
        have f0 : w2.frozen? ⟨g, j * 13, none⟩ = false := hE2.frozen (j * 13)
        have d1_ : w2.cell? ⟨g, j * 13 + 1, none⟩ = some (.int .i64 x.f.l) := hE2.todo j _ (Nat.le_refl _) HCS.out 1 _ rfl
        have f1 : w2.frozen? ⟨g, j * 13 + 1, none⟩ = false := hE2.frozen (j * 13 + 1)
        have d2_ : w2.cell? ⟨g, j * 13 + 2, none⟩ = some (.int .i64 x.f.c) := hE2.todo j _ (Nat.le_refl _) HCS.out 2 _ rfl
        have f2 : w2.frozen? ⟨g, j * 13 + 2, none⟩ = false := hE2.frozen (j * 13 + 2)
        have d3_ : w2.cell? ⟨g, j * 13 + 3, none⟩ = some (.string x.t.t) := hE2.todo j _ (Nat.le_refl _) HCS.out 3 _ rfl
        have f3 : w2.frozen? ⟨g, j * 13 + 3, none⟩ = false := hE2.frozen (j * 13 + 3)
        have d4_ : w2.cell? ⟨g, j * 13 + 4, none⟩ = some (.int .i64 x.t.l) := hE2.todo j _ (Nat.le_refl _) HCS.out 4 _ rfl
        have f4 : w2.frozen? ⟨g, j * 13 + 4, none⟩ = false := hE2.frozen (j * 13 + 4)
        have d5_ : w2.cell? ⟨g, j * 13 + 5, none⟩ = some (.int .i64 x.t.c) := hE2.todo j _ (Nat.le_refl _) HCS.out 5 _ rfl
        have f5 : w2.frozen? ⟨g, j * 13 + 5, none⟩ = false := hE2.frozen (j * 13 + 5)
        have d6_ : w2.cell? ⟨g, j * 13 + 6, none⟩ = some (.string x.on.n) := hE2.todo j _ (Nat.le_refl _) HCS.out 6 _ rfl
        have f6 : w2.frozen? ⟨g, j * 13 + 6, none⟩ = false := hE2.frozen (j * 13 + 6)
        have d7_ : w2.cell? ⟨g, j * 13 + 7, none⟩ = some (.slice oa1 x.on.ar.length oc1) := hE2.todo j _ (Nat.le_refl _) HCS.out 7 _ rfl
        have f7 : w2.frozen? ⟨g, j * 13 + 7, none⟩ = false := hE2.frozen (j * 13 + 7)
        have d8_ : w2.cell? ⟨g, j * 13 + 8, none⟩ = some (.int .i64 x.on.l) := hE2.todo j _ (Nat.le_refl _) HCS.out 8 _ rfl
        have f8 : w2.frozen? ⟨g, j * 13 + 8, none⟩ = false := hE2.frozen (j * 13 + 8)
        have d9_ : w2.cell? ⟨g, j * 13 + 9, none⟩ = some (.int .i64 x.on.c) := hE2.todo j _ (Nat.le_refl _) HCS.out 9 _ rfl
        have f9 : w2.frozen? ⟨g, j * 13 + 9, none⟩ = false := hE2.frozen (j * 13 + 9)
        have d10_ : w2.cell? ⟨g, j * 13 + 10, none⟩ = some (.slice na1 x.ns.length nc1) := hE2.todo j _ (Nat.le_refl _) HCS.out 10 _ rfl
        have f10 : w2.frozen? ⟨g, j * 13 + 10, none⟩ = false := hE2.frozen (j * 13 + 10)
        have d11_ : w2.cell? ⟨g, j * 13 + 11, none⟩ = some (.int .i64 x.g) := hE2.todo j _ (Nat.le_refl _) HCS.out 11 _ rfl
        have f11 : w2.frozen? ⟨g, j * 13 + 11, none⟩ = false := hE2.frozen (j * 13 + 11)
        have d12_ : w2.cell? ⟨g, j * 13 + 12, none⟩ = some (.slice sa1 x.ss.length sc1) := hE2.todo j _ (Nat.le_refl _) HCS.out 12 _ rfl
        have f12 : w2.frozen? ⟨g, j * 13 + 12, none⟩ = false := hE2.frozen (j * 13 + 12)
        clear hE2 hb3 k2 c0_ c1_ c2_ c3_ c4_ c5_ c6_ c7_ c8_ c9_ c10_ c11_ c12_
        go_wp2_with fail
        go_roundw
        case rel => exact ⟨j + 1, hlt, by go_num, Lib.hid (HE2.out.put [.string (plTs x).f.t, .int .i64 (plTs x).f.l, .int .i64 (plTs x).f.c, .string (plTs x).t.t, .int .i64 (plTs x).t.l, .int .i64 (plTs x).t.c, .string (plTs x).on.n, .slice oa' (plTs x).on.ar.length oc', .int .i64 (plTs x).on.l, .int .i64 (plTs x).on.c, .slice na' (plTs x).ns.length nc', .int .i64 (plTs x).g, .slice sa' (plTs x).ss.length sc'] rfl), Lib.hid (gin_put (vs := [.string (plTs x).f.t, .int .i64 (plTs x).f.l, .int .i64 (plTs x).f.c, .string (plTs x).t.t, .int .i64 (plTs x).t.l, .int .i64 (plTs x).t.c, .string (plTs x).on.n, .slice oa' (plTs x).on.ar.length oc', .int .i64 (plTs x).on.l, .int .i64 (plTs x).on.c, .slice na' (plTs x).ns.length nc', .int .i64 (plTs x).g, .slice sa' (plTs x).ss.length sc']) HG2.out HE2.out HCS.out rfl HMX.out rfl (rTs_put HRV.out HE2.out.cblk (by decide) (by decide) (by decide) _ _) (fun _ _ h => rTs_put h HE2.out.cblk (by decide) (by decide) (by decide) _ _) (by omega))⟩
        case measure => simp [intOf] <;> omega
end Go.Proofs.YtojabkhfkbfeaaaGreatDoor

/- TreePlainF -/
namespace Go.Proofs.YtojabkhfkbfeaaaGreatDoor
open Go.RowKit
set_option linter.unusedVariables false

/-- A tree that is not too great. -/
structure SmT (x : Tr) : Prop where
  l0 : x.ds.length ≤ 1000000
  l1 : x.qs.length ≤ 1000000
  l2 : x.fs.length ≤ 1000000
  l3 : x.st.length ≤ 1000000
  l4 : x.al.length ≤ 1000000
  l5 : x.ts.length ≤ 1000000
  d : ∀ d ∈ x.ds, d.ks.length ≤ 1000000
  s : ∀ s ∈ x.al, s.ar.length ≤ 1000000
  t : ∀ t ∈ x.ts, t.on.ar.length ≤ 1000000 ∧ t.ns.length ≤ 1000000 ∧ t.ss.length ≤ 1000000
def MadeTr (x : Tr) (w : World) (e : Ending) (w' : World) : Prop := ∃ cs, e = .returned (.agg cs.toArray) ∧ TrIn tyT True w' cs x ∧ Below w.heap.size w w'
theorem tr_mk {x : Tr} {w : World} {M0 : List De} {M1 : List Qu} {M2 : List Fr} {M3 : List Sta} {M4 : List Sy} {M5 : List Ts} {da' qa' fa' ta' la' xa' : Option Addr} {dc' qc' fc' tc' lc' xc' : Nat} (h0 : M0 = x.ds.map plDe) (h1 : M1 = x.qs.map plQu) (h2 : M2 = x.fs.map plFr) (h3 : M3 = x.st.map plSta) (h4 : M4 = x.al.map plS) (h5 : M5 = x.ts.map plTs) (g0 : GIn (rDe tyT True) tyT.de True 4 w da' M0.length M0) (g1 : GIn rQu tyT.qu True 5 w qa' M1.length M1) (g2 : GIn rFr tyT.fr True 7 w fa' M2.length M2) (g3 : GIn rSta tyT.st True 5 w ta' M3.length M3) (g4 : GIn (rSy tyT True) tyT.sy True 4 w la' M4.length M4) (g5 : GIn (rTs tyT True) tyT.ts True 13 w xa' M5.length M5) (hn : okS x.n.t ∧ okS x.s.t) : TrIn tyT True w [.string x.n.t, .int .i64 0, .int .i64 0, .slice da' M0.length dc', .slice qa' M1.length qc', .slice fa' M2.length fc', .slice ta' M3.length tc', .string x.s.t, .int .i64 0, .int .i64 0, .slice la' M4.length lc', .slice xa' M5.length xc'] (plT x) := by
  subst h0 h1 h2 h3 h4 h5
  exact ⟨⟨da', dc', qa', qc', fa', fc', ta', tc', la', lc', xa', xc', rfl, g0, g1, g2, g3, g4, g5⟩, hn⟩
theorem gin_putD {w : World} {a : Option Addr} {len : Nat} {L : List De} (h : GIn (rDe tyT True) tyT.de True 4 w a len L) {g : Nat} {U : TypeId} (hg : CBlk w g U) (h1 : tyT.de ≠ U) (h2 : tyT.int ≠ U) (o : Nat) (vs : List Value) : GIn (rDe tyT True) tyT.de True 4 (w.setCells g o vs) a len L :=
  h.kept trivial (by rw [setCells_size]; exact Nat.le_refl _) (fun g' hc => setCells_other (hc.ne hg h1) vs o w) (fun _ _ _ hr => rDe_put hr hg h2 o vs)
theorem gin_putS {w : World} {a : Option Addr} {len : Nat} {L : List Sy} (h : GIn (rSy tyT True) tyT.sy True 4 w a len L) {g : Nat} {U : TypeId} (hg : CBlk w g U) (h1 : tyT.sy ≠ U) (h2 : tyT.ag ≠ U) (o : Nat) (vs : List Value) : GIn (rSy tyT True) tyT.sy True 4 (w.setCells g o vs) a len L :=
  h.kept trivial (by rw [setCells_size]; exact Nat.le_refl _) (fun g' hc => setCells_other (hc.ne hg h1) vs o w) (fun _ _ _ hr => rSy_put hr hg h2 o vs)
theorem gin_putT {w : World} {a : Option Addr} {len : Nat} {L : List Ts} (h : GIn (rTs tyT True) tyT.ts True 13 w a len L) {g : Nat} {U : TypeId} (hg : CBlk w g U) (h1 : tyT.ts ≠ U) (h2 : tyT.ag ≠ U) (h3 : tyT.ex ≠ U) (h4 : tyT.se ≠ U) (o : Nat) (vs : List Value) : GIn (rTs tyT True) tyT.ts True 13 (w.setCells g o vs) a len L :=
  h.kept trivial (by rw [setCells_size]; exact Nat.le_refl _) (fun g' hc => setCells_other (hc.ne hg h1) vs o w) (fun _ _ _ hr => rTs_put hr hg h2 h3 h4 o vs)

set_option maxHeartbeats 20000000 in
set_option maxRecDepth 100000 in
theorem plain_calls {Y : TyT} {O : Prop} (x : Tr) (cs : List Value) (w : World) (hr : TrIn Y O w cs x) (hs : SmT x) :
    Calls Tryz.prog 7 #[.agg cs.toArray] w (MadeTr (plT x) w) := by
  obtain ⟨⟨da, dc, qa, qc, fa, fc, ta, tc, la, lc, xa, xc, rfl, g0, g1, g2, g3, g4, g5⟩, hok⟩ := hr
  have HOK := Lib.hid hok
  have HB : Hid (Below w.heap.size w ((w.alloc (.cells #[.string x.n.t, .int .i64 x.n.l, .int .i64 x.n.c, .slice da x.ds.length dc, .slice qa x.qs.length qc, .slice fa x.fs.length fc, .slice ta x.st.length tc, .string x.s.t, .int .i64 x.s.l, .int .i64 x.s.c, .slice la x.al.length lc, .slice xa x.ts.length xc] 31)).alloc (.cells #[.string ⟨#[]⟩, .int .i64 0, .int .i64 0, .slice none 0 0, .slice none 0 0, .slice none 0 0, .slice none 0 0, .string ⟨#[]⟩, .int .i64 0, .int .i64 0, .slice none 0 0, .slice none 0 0] 31))) := Lib.hid (((Below.refl w.heap.size w).alloc (Nat.le_refl _) _).alloc (by simp) _)
  have HK0 : Hid (Below (w.heap.size + 2) ((w.alloc (.cells #[.string x.n.t, .int .i64 x.n.l, .int .i64 x.n.c, .slice da x.ds.length dc, .slice qa x.qs.length qc, .slice fa x.fs.length fc, .slice ta x.st.length tc, .string x.s.t, .int .i64 x.s.l, .int .i64 x.s.c, .slice la x.al.length lc, .slice xa x.ts.length xc] 31)).alloc (.cells #[.string ⟨#[]⟩, .int .i64 0, .int .i64 0, .slice none 0 0, .slice none 0 0, .slice none 0 0, .slice none 0 0, .string ⟨#[]⟩, .int .i64 0, .int .i64 0, .slice none 0 0, .slice none 0 0] 31)) ((w.alloc (.cells #[.string x.n.t, .int .i64 x.n.l, .int .i64 x.n.c, .slice da x.ds.length dc, .slice qa x.qs.length qc, .slice fa x.fs.length fc, .slice ta x.st.length tc, .string x.s.t, .int .i64 x.s.l, .int .i64 x.s.c, .slice la x.al.length lc, .slice xa x.ts.length xc] 31)).alloc (.cells #[.string ⟨#[]⟩, .int .i64 0, .int .i64 0, .slice none 0 0, .slice none 0 0, .slice none 0 0, .slice none 0 0, .string ⟨#[]⟩, .int .i64 0, .int .i64 0, .slice none 0 0, .slice none 0 0] 31)).drew) := Lib.hid ((Below.refl _ _).drew)
  have HN := Lib.hid (fun (y : Id3) w1 => plainName_calls y w1)
  have H0 := Lib.hid (fun w1 (hb : Below w.heap.size w w1) => eachDe_calls da _ dc x.ds w1 (g0.belowD hb) hs.l0 hs.d)
  obtain ⟨M0, hM0⟩ : ∃ M, M = x.ds.map plDe := ⟨_, rfl⟩
  rw [← hM0] at H0
  have HM0 := Lib.hid hM0
  have s0 := g0.small
  have H1 := Lib.hid (fun w1 (hb : Below w.heap.size w w1) => eachQu_calls qa _ qc x.qs w1 (g1.belowF hb) hs.l1)
  obtain ⟨M1, hM1⟩ : ∃ M, M = x.qs.map plQu := ⟨_, rfl⟩
  rw [← hM1] at H1
  have HM1 := Lib.hid hM1
  have s1 := g1.small
  have H2 := Lib.hid (fun w1 (hb : Below w.heap.size w w1) => eachFr_calls fa _ fc x.fs w1 (g2.belowF hb) hs.l2)
  obtain ⟨M2, hM2⟩ : ∃ M, M = x.fs.map plFr := ⟨_, rfl⟩
  rw [← hM2] at H2
  have HM2 := Lib.hid hM2
  have s2 := g2.small
  have H3 := Lib.hid (fun w1 (hb : Below w.heap.size w w1) => eachSta_calls ta _ tc x.st w1 (g3.belowF hb) hs.l3)
  obtain ⟨M3, hM3⟩ : ∃ M, M = x.st.map plSta := ⟨_, rfl⟩
  rw [← hM3] at H3
  have HM3 := Lib.hid hM3
  have s3 := g3.small
  have H4 := Lib.hid (fun w1 (hb : Below w.heap.size w w1) => eachSy_calls la _ lc x.al w1 (g4.belowS hb) hs.l4 hs.s)
  obtain ⟨M4, hM4⟩ : ∃ M, M = x.al.map plS := ⟨_, rfl⟩
  rw [← hM4] at H4
  have HM4 := Lib.hid hM4
  have s4 := g4.small
  have H5 := Lib.hid (fun w1 (hb : Below w.heap.size w w1) => eachTs_calls xa _ xc x.ts w1 (g5.belowT hb) hs.l5 hs.t)
  obtain ⟨M5, hM5⟩ : ∃ M, M = x.ts.map plTs := ⟨_, rfl⟩
  rw [← hM5] at H5
  have HM5 := Lib.hid hM5
  have s5 := g5.small
  clear hok hs g0 hM0 g1 hM1 g2 hM2 g3 hM3 g4 hM4 g5 hM5
  go_enter Tryz.func7, Tryz.ntmps7
  go_wp2_with fail
  refine wp_region_held_drew (S := (fun W => W.cell? ⟨w.heap.size, 0, none⟩ = some (.string x.n.t) ∧ W.cell? ⟨w.heap.size, 1, none⟩ = some (.int .i64 x.n.l) ∧ W.cell? ⟨w.heap.size, 2, none⟩ = some (.int .i64 x.n.c) ∧ W.cell? ⟨w.heap.size, 3, none⟩ = some (.slice da x.ds.length dc) ∧ W.cell? ⟨w.heap.size, 4, none⟩ = some (.slice qa x.qs.length qc) ∧ W.cell? ⟨w.heap.size, 5, none⟩ = some (.slice fa x.fs.length fc) ∧ W.cell? ⟨w.heap.size, 6, none⟩ = some (.slice ta x.st.length tc) ∧ W.cell? ⟨w.heap.size, 7, none⟩ = some (.string x.s.t) ∧ W.cell? ⟨w.heap.size, 8, none⟩ = some (.int .i64 x.s.l) ∧ W.cell? ⟨w.heap.size, 9, none⟩ = some (.int .i64 x.s.c) ∧ W.cell? ⟨w.heap.size, 10, none⟩ = some (.slice la x.al.length lc) ∧ W.cell? ⟨w.heap.size, 11, none⟩ = some (.slice xa x.ts.length xc))) (by kernel_rfl) (by refine ⟨?_, ?_, ?_, ?_, ?_, ?_, ?_, ?_, ?_, ?_, ?_, ?_⟩ <;> go_simp) (fun hH0 => ?_)
  refine wpAnyH_take (i := 0) (v := .pointer (some ⟨w.heap.size, 0, none⟩)) rfl (by kernel_rfl) (by kernel_rfl) (by kernel_rfl) (fun _ _ _ h => h) (Or.inl ⟨by kernel_rfl, fun wS hSw => by (try dsimp only at hSw); go_simp⟩) hH0 ?_
  refine wpAnyH_take (i := 1) (v := .agg #[.string x.n.t, .int .i64 x.n.l, .int .i64 x.n.c]) rfl (by kernel_rfl) (by kernel_rfl) (by kernel_rfl) (fun _ _ _ h => h) (Or.inl ⟨by kernel_rfl, fun wS hSw => by (try dsimp only at hSw); go_simp⟩) hH0 ?_
  refine wpAnyH_take (i := 3) (v := .pointer (some ⟨w.heap.size, 3, none⟩)) rfl (by kernel_rfl) (by kernel_rfl) (by kernel_rfl) (fun _ _ _ h => h) (Or.inl ⟨by kernel_rfl, fun wS hSw => by (try dsimp only at hSw); go_simp⟩) hH0 ?_
  refine wpAnyH_take (i := 4) (v := .slice da x.ds.length dc) rfl (by kernel_rfl) (by kernel_rfl) (by kernel_rfl) (fun _ _ _ h => h) (Or.inl ⟨by kernel_rfl, fun wS hSw => by (try dsimp only at hSw); go_simp⟩) hH0 ?_
  refine wpAnyH_take (i := 6) (v := .pointer (some ⟨w.heap.size, 4, none⟩)) rfl (by kernel_rfl) (by kernel_rfl) (by kernel_rfl) (fun _ _ _ h => h) (Or.inl ⟨by kernel_rfl, fun wS hSw => by (try dsimp only at hSw); go_simp⟩) hH0 ?_
  refine wpAnyH_take (i := 7) (v := .slice qa x.qs.length qc) rfl (by kernel_rfl) (by kernel_rfl) (by kernel_rfl) (fun _ _ _ h => h) (Or.inl ⟨by kernel_rfl, fun wS hSw => by (try dsimp only at hSw); go_simp⟩) hH0 ?_
  refine wpAnyH_take (i := 9) (v := .pointer (some ⟨w.heap.size, 5, none⟩)) rfl (by kernel_rfl) (by kernel_rfl) (by kernel_rfl) (fun _ _ _ h => h) (Or.inl ⟨by kernel_rfl, fun wS hSw => by (try dsimp only at hSw); go_simp⟩) hH0 ?_
  refine wpAnyH_take (i := 10) (v := .slice fa x.fs.length fc) rfl (by kernel_rfl) (by kernel_rfl) (by kernel_rfl) (fun _ _ _ h => h) (Or.inl ⟨by kernel_rfl, fun wS hSw => by (try dsimp only at hSw); go_simp⟩) hH0 ?_
  refine wpAnyH_take (i := 12) (v := .pointer (some ⟨w.heap.size, 6, none⟩)) rfl (by kernel_rfl) (by kernel_rfl) (by kernel_rfl) (fun _ _ _ h => h) (Or.inl ⟨by kernel_rfl, fun wS hSw => by (try dsimp only at hSw); go_simp⟩) hH0 ?_
  refine wpAnyH_take (i := 13) (v := .slice ta x.st.length tc) rfl (by kernel_rfl) (by kernel_rfl) (by kernel_rfl) (fun _ _ _ h => h) (Or.inl ⟨by kernel_rfl, fun wS hSw => by (try dsimp only at hSw); go_simp⟩) hH0 ?_
  refine wpAnyH_take (i := 15) (v := .pointer (some ⟨w.heap.size, 7, none⟩)) rfl (by kernel_rfl) (by kernel_rfl) (by kernel_rfl) (fun _ _ _ h => h) (Or.inl ⟨by kernel_rfl, fun wS hSw => by (try dsimp only at hSw); go_simp⟩) hH0 ?_
  refine wpAnyH_take (i := 16) (v := .agg #[.string x.s.t, .int .i64 x.s.l, .int .i64 x.s.c]) rfl (by kernel_rfl) (by kernel_rfl) (by kernel_rfl) (fun _ _ _ h => h) (Or.inl ⟨by kernel_rfl, fun wS hSw => by (try dsimp only at hSw); go_simp⟩) hH0 ?_
  refine wpAnyH_take (i := 18) (v := .pointer (some ⟨w.heap.size, 10, none⟩)) rfl (by kernel_rfl) (by kernel_rfl) (by kernel_rfl) (fun _ _ _ h => h) (Or.inl ⟨by kernel_rfl, fun wS hSw => by (try dsimp only at hSw); go_simp⟩) hH0 ?_
  refine wpAnyH_take (i := 19) (v := .slice la x.al.length lc) rfl (by kernel_rfl) (by kernel_rfl) (by kernel_rfl) (fun _ _ _ h => h) (Or.inl ⟨by kernel_rfl, fun wS hSw => by (try dsimp only at hSw); go_simp⟩) hH0 ?_
  refine wpAnyH_take (i := 21) (v := .pointer (some ⟨w.heap.size, 11, none⟩)) rfl (by kernel_rfl) (by kernel_rfl) (by kernel_rfl) (fun _ _ _ h => h) (Or.inl ⟨by kernel_rfl, fun wS hSw => by (try dsimp only at hSw); go_simp⟩) hH0 ?_
  refine wpAnyH_take (i := 22) (v := .slice xa x.ts.length xc) rfl (by kernel_rfl) (by kernel_rfl) (by kernel_rfl) (fun _ _ _ h => h) (Or.inl ⟨by kernel_rfl, fun wS hSw => by (try dsimp only at hSw); go_simp⟩) hH0 ?_
  refine wpAnyH_ready (rs := [2]) (by kernel_rfl) (by simp) ?_
  refine AllReadyH.cons rfl (fun K hK => ?_) AllReadyH.nil
  rw [if_pos (by kernel_rfl)]
  go_simp
  refine (HN.out x.n _).mono ?_
  rintro e w1 ⟨rfl, k⟩
  have HK1 := Lib.hid (below2_step HK0.out (by simp) k)
  clear k
  refine hK.out _ _ (by obtain ⟨u, _⟩ := box2 HK1.out; exact ⟨u 0 _ rfl, u 1 _ rfl, u 2 _ rfl, u 3 _ rfl, u 4 _ rfl, u 5 _ rfl, u 6 _ rfl, u 7 _ rfl, u 8 _ rfl, u 9 _ rfl, u 10 _ rfl, u 11 _ rfl⟩) (fun hH1 => ?_)
  clear hK K
  refine wpAnyH_ready (rs := [5]) (by kernel_rfl) (by simp) ?_
  refine AllReadyH.cons rfl (fun K hK => ?_) AllReadyH.nil
  rw [if_pos (by kernel_rfl)]
  go_simp
  refine (H0.out _ (HB.out.trans (HK1.out.mono (Nat.le_add_right _ 2)))).mono ?_
  rintro e w2 ⟨da', dc', rfl, hg, k⟩
  have HK2 := Lib.hid (below2_step HK1.out (by simp) k)
  have HG0 := Lib.hid hg
  clear hg
  clear k
  refine hK.out _ _ (by obtain ⟨u, _⟩ := box2 HK2.out; exact ⟨u 0 _ rfl, u 1 _ rfl, u 2 _ rfl, u 3 _ rfl, u 4 _ rfl, u 5 _ rfl, u 6 _ rfl, u 7 _ rfl, u 8 _ rfl, u 9 _ rfl, u 10 _ rfl, u 11 _ rfl⟩) (fun hH2 => ?_)
  clear hK K
  refine wpAnyH_ready (rs := [8]) (by kernel_rfl) (by simp) ?_
  refine AllReadyH.cons rfl (fun K hK => ?_) AllReadyH.nil
  rw [if_pos (by kernel_rfl)]
  go_simp
  refine (H1.out _ (HB.out.trans (HK2.out.mono (Nat.le_add_right _ 2)))).mono ?_
  rintro e w3 ⟨qa', qc', rfl, hg, k⟩
  have HK3 := Lib.hid (below2_step HK2.out (by simp) k)
  replace HG0 := Lib.hid (HG0.out.belowD k)
  have HG1 := Lib.hid hg
  clear hg
  clear k
  refine hK.out _ _ (by obtain ⟨u, _⟩ := box2 HK3.out; exact ⟨u 0 _ rfl, u 1 _ rfl, u 2 _ rfl, u 3 _ rfl, u 4 _ rfl, u 5 _ rfl, u 6 _ rfl, u 7 _ rfl, u 8 _ rfl, u 9 _ rfl, u 10 _ rfl, u 11 _ rfl⟩) (fun hH3 => ?_)
  clear hK K
  refine wpAnyH_ready (rs := [11]) (by kernel_rfl) (by simp) ?_
  refine AllReadyH.cons rfl (fun K hK => ?_) AllReadyH.nil
  rw [if_pos (by kernel_rfl)]
  go_simp
  refine (H2.out _ (HB.out.trans (HK3.out.mono (Nat.le_add_right _ 2)))).mono ?_
  rintro e w4 ⟨fa', fc', rfl, hg, k⟩
  have HK4 := Lib.hid (below2_step HK3.out (by simp) k)
  replace HG0 := Lib.hid (HG0.out.belowD k)
  replace HG1 := Lib.hid (HG1.out.belowF k)
  have HG2 := Lib.hid hg
  clear hg
  clear k
  refine hK.out _ _ (by obtain ⟨u, _⟩ := box2 HK4.out; exact ⟨u 0 _ rfl, u 1 _ rfl, u 2 _ rfl, u 3 _ rfl, u 4 _ rfl, u 5 _ rfl, u 6 _ rfl, u 7 _ rfl, u 8 _ rfl, u 9 _ rfl, u 10 _ rfl, u 11 _ rfl⟩) (fun hH4 => ?_)
  clear hK K
  refine wpAnyH_ready (rs := [14]) (by kernel_rfl) (by simp) ?_
  refine AllReadyH.cons rfl (fun K hK => ?_) AllReadyH.nil
  rw [if_pos (by kernel_rfl)]
  go_simp
  refine (H3.out _ (HB.out.trans (HK4.out.mono (Nat.le_add_right _ 2)))).mono ?_
  rintro e w5 ⟨ta', tc', rfl, hg, k⟩
  have HK5 := Lib.hid (below2_step HK4.out (by simp) k)
  replace HG0 := Lib.hid (HG0.out.belowD k)
  replace HG1 := Lib.hid (HG1.out.belowF k)
  replace HG2 := Lib.hid (HG2.out.belowF k)
  have HG3 := Lib.hid hg
  clear hg
  clear k
  refine hK.out _ _ (by obtain ⟨u, _⟩ := box2 HK5.out; exact ⟨u 0 _ rfl, u 1 _ rfl, u 2 _ rfl, u 3 _ rfl, u 4 _ rfl, u 5 _ rfl, u 6 _ rfl, u 7 _ rfl, u 8 _ rfl, u 9 _ rfl, u 10 _ rfl, u 11 _ rfl⟩) (fun hH5 => ?_)
  clear hK K
  refine wpAnyH_ready (rs := [17]) (by kernel_rfl) (by simp) ?_
  refine AllReadyH.cons rfl (fun K hK => ?_) AllReadyH.nil
  rw [if_pos (by kernel_rfl)]
  go_simp
  refine (HN.out x.s _).mono ?_
  rintro e w6 ⟨rfl, k⟩
  have HK6 := Lib.hid (below2_step HK5.out (by simp) k)
  replace HG0 := Lib.hid (HG0.out.belowD k)
  replace HG1 := Lib.hid (HG1.out.belowF k)
  replace HG2 := Lib.hid (HG2.out.belowF k)
  replace HG3 := Lib.hid (HG3.out.belowF k)
  clear k
  refine hK.out _ _ (by obtain ⟨u, _⟩ := box2 HK6.out; exact ⟨u 0 _ rfl, u 1 _ rfl, u 2 _ rfl, u 3 _ rfl, u 4 _ rfl, u 5 _ rfl, u 6 _ rfl, u 7 _ rfl, u 8 _ rfl, u 9 _ rfl, u 10 _ rfl, u 11 _ rfl⟩) (fun hH6 => ?_)
  clear hK K
  refine wpAnyH_ready (rs := [20]) (by kernel_rfl) (by simp) ?_
  refine AllReadyH.cons rfl (fun K hK => ?_) AllReadyH.nil
  rw [if_pos (by kernel_rfl)]
  go_simp
  refine (H4.out _ (HB.out.trans (HK6.out.mono (Nat.le_add_right _ 2)))).mono ?_
  rintro e w7 ⟨la', lc', rfl, hg, k⟩
  have HK7 := Lib.hid (below2_step HK6.out (by simp) k)
  replace HG0 := Lib.hid (HG0.out.belowD k)
  replace HG1 := Lib.hid (HG1.out.belowF k)
  replace HG2 := Lib.hid (HG2.out.belowF k)
  replace HG3 := Lib.hid (HG3.out.belowF k)
  have HG4 := Lib.hid hg
  clear hg
  clear k
  refine hK.out _ _ (by obtain ⟨u, _⟩ := box2 HK7.out; exact ⟨u 0 _ rfl, u 1 _ rfl, u 2 _ rfl, u 3 _ rfl, u 4 _ rfl, u 5 _ rfl, u 6 _ rfl, u 7 _ rfl, u 8 _ rfl, u 9 _ rfl, u 10 _ rfl, u 11 _ rfl⟩) (fun hH7 => ?_)
  clear hK K
  refine wpAnyH_ready (rs := [23]) (by kernel_rfl) (by simp) ?_
  refine AllReadyH.cons rfl (fun K hK => ?_) AllReadyH.nil
  rw [if_pos (by kernel_rfl)]
  go_simp
  refine (H5.out _ (HB.out.trans (HK7.out.mono (Nat.le_add_right _ 2)))).mono ?_
  rintro e w8 ⟨xa', xc', rfl, hg, k⟩
  have HK8 := Lib.hid (below2_step HK7.out (by simp) k)
  replace HG0 := Lib.hid (HG0.out.belowD k)
  replace HG1 := Lib.hid (HG1.out.belowF k)
  replace HG2 := Lib.hid (HG2.out.belowF k)
  replace HG3 := Lib.hid (HG3.out.belowF k)
  replace HG4 := Lib.hid (HG4.out.belowS k)
  have HG5 := Lib.hid hg
  clear hg
  clear k
  refine hK.out _ _ (by obtain ⟨u, _⟩ := box2 HK8.out; exact ⟨u 0 _ rfl, u 1 _ rfl, u 2 _ rfl, u 3 _ rfl, u 4 _ rfl, u 5 _ rfl, u 6 _ rfl, u 7 _ rfl, u 8 _ rfl, u 9 _ rfl, u 10 _ rfl, u 11 _ rfl⟩) (fun hH8 => ?_)
  clear hK K
  refine wpAnyH_take (i := 24) (v := .agg #[.string x.n.t, .int .i64 0, .int .i64 0, .slice da' M0.length dc', .slice qa' M1.length qc', .slice fa' M2.length fc', .slice ta' M3.length tc', .string x.s.t, .int .i64 0, .int .i64 0, .slice la' M4.length lc', .slice xa' M5.length xc']) rfl (by kernel_rfl) (by kernel_rfl) (by kernel_rfl) (fun _ _ _ h => h) (Or.inl ⟨by kernel_rfl, fun wS hSw => by (try dsimp only at hSw); go_simp⟩) hH8 ?_
  obtain ⟨_, v⟩ := box2 HK8.out
  obtain ⟨_, q⟩ := frozen2 HK8.out
  have d0 := v 0 _ rfl
  have g0_ := q 0
  have d1 := v 1 _ rfl
  have g1_ := q 1
  have d2 := v 2 _ rfl
  have g2_ := q 2
  have d3 := v 3 _ rfl
  have g3_ := q 3
  have d4 := v 4 _ rfl
  have g4_ := q 4
  have d5 := v 5 _ rfl
  have g5_ := q 5
  have d6 := v 6 _ rfl
  have g6_ := q 6
  have d7 := v 7 _ rfl
  have g7_ := q 7
  have d8 := v 8 _ rfl
  have g8_ := q 8
  have d9 := v 9 _ rfl
  have g9_ := q 9
  have d10 := v 10 _ rfl
  have g10_ := q 10
  have d11 := v 11 _ rfl
  have g11_ := q 11
  clear v q hH0 hH1 hH2 hH3 hH4 hH5 hH6 hH7
  obtain ⟨b1, b2⟩ := blk2 HK8.out
  have HC := Lib.hid b2
  have HBF := Lib.hid (HB.out.trans (HK8.out.mono (Nat.le_add_right _ 2)))
  have hsz : w.heap.size + 1 < w8.heap.size := by have := HK8.out.size; simp at this; omega
  clear b1 b2
  refine wpAnyH_ready (rs := [25]) (by kernel_rfl) (by simp) ?_
  refine AllReadyH.cons rfl (fun K hK => ?_) AllReadyH.nil
  rw [if_pos (by kernel_rfl)]
  go_simp
  refine hK.out _ _ (by obtain ⟨u, _⟩ := box2 HK8.out; exact ⟨by have h := u 0 _ rfl; clear u; go_simp, by have h := u 1 _ rfl; clear u; go_simp, by have h := u 2 _ rfl; clear u; go_simp, by have h := u 3 _ rfl; clear u; go_simp, by have h := u 4 _ rfl; clear u; go_simp, by have h := u 5 _ rfl; clear u; go_simp, by have h := u 6 _ rfl; clear u; go_simp, by have h := u 7 _ rfl; clear u; go_simp, by have h := u 8 _ rfl; clear u; go_simp, by have h := u 9 _ rfl; clear u; go_simp, by have h := u 10 _ rfl; clear u; go_simp, by have h := u 11 _ rfl; clear u; go_simp⟩) (fun hH9 => ?_)
  clear hK K
  refine wpAnyH_done (by kernel_rfl) ?_ _
  go_simp
  go_wp2_with fail
  refine bodyPost_ret (v := .agg #[.string x.n.t, .int .i64 0, .int .i64 0, .slice da' M0.length dc', .slice qa' M1.length qc', .slice fa' M2.length fc', .slice ta' M3.length tc', .string x.s.t, .int .i64 0, .int .i64 0, .slice la' M4.length lc', .slice xa' M5.length xc']) ?_ rfl ⟨[.string x.n.t, .int .i64 0, .int .i64 0, .slice da' M0.length dc', .slice qa' M1.length qc', .slice fa' M2.length fc', .slice ta' M3.length tc', .string x.s.t, .int .i64 0, .int .i64 0, .slice la' M4.length lc', .slice xa' M5.length xc'], rfl, tr_mk HM0.out HM1.out HM2.out HM3.out HM4.out HM5.out (gin_putD HG0.out HC.out (by decide) (by decide) 0 [.string x.n.t, .int .i64 0, .int .i64 0, .slice da' M0.length dc', .slice qa' M1.length qc', .slice fa' M2.length fc', .slice ta' M3.length tc', .string x.s.t, .int .i64 0, .int .i64 0, .slice la' M4.length lc', .slice xa' M5.length xc']) (gin_apart HG1.out HC.out (by decide) 0 [.string x.n.t, .int .i64 0, .int .i64 0, .slice da' M0.length dc', .slice qa' M1.length qc', .slice fa' M2.length fc', .slice ta' M3.length tc', .string x.s.t, .int .i64 0, .int .i64 0, .slice la' M4.length lc', .slice xa' M5.length xc']) (gin_apart HG2.out HC.out (by decide) 0 [.string x.n.t, .int .i64 0, .int .i64 0, .slice da' M0.length dc', .slice qa' M1.length qc', .slice fa' M2.length fc', .slice ta' M3.length tc', .string x.s.t, .int .i64 0, .int .i64 0, .slice la' M4.length lc', .slice xa' M5.length xc']) (gin_apart HG3.out HC.out (by decide) 0 [.string x.n.t, .int .i64 0, .int .i64 0, .slice da' M0.length dc', .slice qa' M1.length qc', .slice fa' M2.length fc', .slice ta' M3.length tc', .string x.s.t, .int .i64 0, .int .i64 0, .slice la' M4.length lc', .slice xa' M5.length xc']) (gin_putS HG4.out HC.out (by decide) (by decide) 0 [.string x.n.t, .int .i64 0, .int .i64 0, .slice da' M0.length dc', .slice qa' M1.length qc', .slice fa' M2.length fc', .slice ta' M3.length tc', .string x.s.t, .int .i64 0, .int .i64 0, .slice la' M4.length lc', .slice xa' M5.length xc']) (gin_putT HG5.out HC.out (by decide) (by decide) (by decide) (by decide) 0 [.string x.n.t, .int .i64 0, .int .i64 0, .slice da' M0.length dc', .slice qa' M1.length qc', .slice fa' M2.length fc', .slice ta' M3.length tc', .string x.s.t, .int .i64 0, .int .i64 0, .slice la' M4.length lc', .slice xa' M5.length xc']) HOK.out, ?_⟩
  · rw [results_cell rfl]
    go_simp
  · refine Below.trans HBF.out ?_
    repeat' (first | (with_reducible refine Below.setCell ?_ (by simp <;> omega) _) | (with_reducible refine Below.alloc ?_ (by simp <;> omega) _) | (with_reducible refine Below.drew ?_) | exact (Below.refl w8.heap.size w8).mono (by omega))
end Go.Proofs.YtojabkhfkbfeaaaGreatDoor
