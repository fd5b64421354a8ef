/- Lists are copied: slices.Clone at the types of a tree's lists. -/
import Derived.Test.YtojabkhfkbfeaaaGreatDoorTreeMem
import Derived.Maps.AppendAt
import Derived.OwnWalk
import Derived.Lib.SliceRun
namespace Go.Proofs.YtojabkhfkbfeaaaGreatDoor
open Go.RowKit
set_option linter.unusedVariables false

theorem infoInt : (Tryz.prog.info? 3).map (fun i => (i.zero, i.size, i.bytes)) = some (some (.int .i64 0), 1, 8) := by kernel_rfl
set_option maxHeartbeats 1000000 in
set_option maxRecDepth 100000 in
theorem cloneInt_nil (n c : Nat) (w : World) : Calls Tryz.prog 22 #[.slice none n c] w fun e w' => e = .returned (.slice none 0 0) ∧ w = w' := by
  have q : ∀ w, (binOp .eql 37 (.slice none n c) (.slice none 0 0)).run Tryz.prog w = .ok (.bool true) w := fun w => Lib.run_eql_slice_nil w _ _ none n c 0 0 Tryz.underlying37
  go_enter Tryz.func22, Tryz.ntmps22
  go_wp2_with fail
  go_ret
  exact ⟨rfl, rfl⟩
set_option maxHeartbeats 1000000 in
set_option maxRecDepth 100000 in
theorem cloneInt_some (ad : Addr) (m c : Nat) (news : List Value) (w : World) (hl : news.length = m * 1) (hc : ∀ j u, news[j]? = some u → w.cell? (ad.add j) = some u) (h1 : ∀ u ∈ news, u.oneCell' = true) (hm : m ≤ 1000000) :
    Calls Tryz.prog 22 #[.slice (some ad) m c] w fun e w' => ∃ v, e = .returned v ∧ w'.ownsRow w.heap.size 3 1 v m news ∧ v ≠ .slice none 0 0 ∧ Below w.heap.size w w' := by
  obtain ⟨i0, hi, hz0, hz1, hz2⟩ := info_parts infoInt
  have HI := Lib.hid hi
  have HZ0 := Lib.hid hz0
  have HZ1 := Lib.hid hz1
  have HZ2 := Lib.hid hz2
  clear hi hz0 hz1 hz2
  have HL := Lib.hid hl
  have HC : Hid (∀ (T : Obj) j u, news[j]? = some u → (w.alloc T).cell? (ad.add j) = some u) := Lib.hid (fun T j u hj => Lib.cell?_alloc_some _ (hc j u hj))
  have H1 := Lib.hid h1
  have q : ∀ w, (binOp .eql 37 (.slice (some ad) m c) (.slice none 0 0)).run Tryz.prog w = .ok (.bool false) w := fun w => Lib.run_eql_slice_nil w _ _ (some ad) m c 0 0 Tryz.underlying37
  clear hl hc h1
  go_enter Tryz.func22, Tryz.ntmps22
  go_wp2_with (at_builtin; refine wpList_append_own _ rfl _ _ 37 rfl w.heap.size 3 i0 _ 1 8 Tryz.underlying37 HI.out HZ0.out HZ1.out HZ2.out rfl (by decide) _ _ _ rfl (World.ownsRow_made w #[] 0 (Nat.le_refl _) (Nat.zero_le _) (by simp)) ad m c news rfl HL.out (HC.out _) H1.out (by unfold maxLen; omega) (by omega) (by simp) ?_; intro v4 w4 ho4 hg4 hn4)
  have HO := Lib.hid ho4
  have HN : Hid (v4 ≠ .slice none 0 0) := Lib.hid (fun e => by have := (hn4.1 e).1; cases this)
  have HB : Hid (Below w.heap.size w w4) := Lib.hid (((Below.refl _ w).alloc (Nat.le_refl _) _).grown hg4 (by simp) (by intro k hk; have hk2 : (Value.slice (some ⟨w.heap.size, 0, none⟩) 0 0).ownBlock = some k := hk; simp [Value.ownBlock] at hk2; omega))
  clear ho4 hg4 hn4
  go_wp2_with fail
  go_ret
  exact ⟨v4, rfl, by simpa using HO.out, HN.out, HB.out⟩
theorem infoAg : (Tryz.prog.info? 101).map (fun i => (i.zero, i.size, i.bytes)) = some (some (.agg #[.int .i64 0, .string ⟨#[]⟩, .int .i64 0, .int .i64 0, .string ⟨#[]⟩, .bool false, .int .i64 0, .int .i64 0]), 8, 80) := by kernel_rfl
set_option maxHeartbeats 1000000 in
set_option maxRecDepth 100000 in
theorem cloneAg_nil (n c : Nat) (w : World) : Calls Tryz.prog 111 #[.slice none n c] w fun e w' => e = .returned (.slice none 0 0) ∧ w = w' := by
  have q : ∀ w, (binOp .eql 45 (.slice none n c) (.slice none 0 0)).run Tryz.prog w = .ok (.bool true) w := fun w => Lib.run_eql_slice_nil w _ _ none n c 0 0 Tryz.underlying45
  go_enter Tryz.func111, Tryz.ntmps111
  go_wp2_with fail
  go_ret
  exact ⟨rfl, rfl⟩
set_option maxHeartbeats 1000000 in
set_option maxRecDepth 100000 in
theorem cloneAg_some (ad : Addr) (m c : Nat) (news : List Value) (w : World) (hl : news.length = m * 8) (hc : ∀ j u, news[j]? = some u → w.cell? (ad.add j) = some u) (h1 : ∀ u ∈ news, u.oneCell' = true) (hm : m ≤ 1000000) :
    Calls Tryz.prog 111 #[.slice (some ad) m c] w fun e w' => ∃ v, e = .returned v ∧ w'.ownsRow w.heap.size 101 8 v m news ∧ v ≠ .slice none 0 0 ∧ Below w.heap.size w w' := by
  obtain ⟨i0, hi, hz0, hz1, hz2⟩ := info_parts infoAg
  have HI := Lib.hid hi
  have HZ0 := Lib.hid hz0
  have HZ1 := Lib.hid hz1
  have HZ2 := Lib.hid hz2
  clear hi hz0 hz1 hz2
  have HL := Lib.hid hl
  have HC : Hid (∀ (T : Obj) j u, news[j]? = some u → (w.alloc T).cell? (ad.add j) = some u) := Lib.hid (fun T j u hj => Lib.cell?_alloc_some _ (hc j u hj))
  have H1 := Lib.hid h1
  have q : ∀ w, (binOp .eql 45 (.slice (some ad) m c) (.slice none 0 0)).run Tryz.prog w = .ok (.bool false) w := fun w => Lib.run_eql_slice_nil w _ _ (some ad) m c 0 0 Tryz.underlying45
  clear hl hc h1
  go_enter Tryz.func111, Tryz.ntmps111
  go_wp2_with (at_builtin; refine wpList_append_own _ rfl _ _ 45 rfl w.heap.size 101 i0 _ 8 80 Tryz.underlying45 HI.out HZ0.out HZ1.out HZ2.out rfl (by decide) _ _ _ rfl (World.ownsRow_made w #[] 0 (Nat.le_refl _) (Nat.zero_le _) (by simp)) ad m c news rfl HL.out (HC.out _) H1.out (by unfold maxLen; omega) (by omega) (by simp) ?_; intro v4 w4 ho4 hg4 hn4)
  have HO := Lib.hid ho4
  have HN : Hid (v4 ≠ .slice none 0 0) := Lib.hid (fun e => by have := (hn4.1 e).1; cases this)
  have HB : Hid (Below w.heap.size w w4) := Lib.hid (((Below.refl _ w).alloc (Nat.le_refl _) _).grown hg4 (by simp) (by intro k hk; have hk2 : (Value.slice (some ⟨w.heap.size, 0, none⟩) 0 0).ownBlock = some k := hk; simp [Value.ownBlock] at hk2; omega))
  clear ho4 hg4 hn4
  go_wp2_with fail
  go_ret
  exact ⟨v4, rfl, by simpa using HO.out, HN.out, HB.out⟩
theorem infoEx : (Tryz.prog.info? 53).map (fun i => (i.zero, i.size, i.bytes)) = some (some (.agg #[.int .i64 0, .int .i64 0, .int .i64 0, .string ⟨#[]⟩, .int .i64 0, .int .i64 0, .string ⟨#[]⟩, .bool false, .int .i64 0, .int .i64 0]), 10, 96) := by kernel_rfl
set_option maxHeartbeats 1000000 in
set_option maxRecDepth 100000 in
theorem cloneEx_nil (n c : Nat) (w : World) : Calls Tryz.prog 112 #[.slice none n c] w fun e w' => e = .returned (.slice none 0 0) ∧ w = w' := by
  have q : ∀ w, (binOp .eql 48 (.slice none n c) (.slice none 0 0)).run Tryz.prog w = .ok (.bool true) w := fun w => Lib.run_eql_slice_nil w _ _ none n c 0 0 Tryz.underlying48
  go_enter Tryz.func112, Tryz.ntmps112
  go_wp2_with fail
  go_ret
  exact ⟨rfl, rfl⟩
set_option maxHeartbeats 1000000 in
set_option maxRecDepth 100000 in
theorem cloneEx_some (ad : Addr) (m c : Nat) (news : List Value) (w : World) (hl : news.length = m * 10) (hc : ∀ j u, news[j]? = some u → w.cell? (ad.add j) = some u) (h1 : ∀ u ∈ news, u.oneCell' = true) (hm : m ≤ 1000000) :
    Calls Tryz.prog 112 #[.slice (some ad) m c] w fun e w' => ∃ v, e = .returned v ∧ w'.ownsRow w.heap.size 53 10 v m news ∧ v ≠ .slice none 0 0 ∧ Below w.heap.size w w' := by
  obtain ⟨i0, hi, hz0, hz1, hz2⟩ := info_parts infoEx
  have HI := Lib.hid hi
  have HZ0 := Lib.hid hz0
  have HZ1 := Lib.hid hz1
  have HZ2 := Lib.hid hz2
  clear hi hz0 hz1 hz2
  have HL := Lib.hid hl
  have HC : Hid (∀ (T : Obj) j u, news[j]? = some u → (w.alloc T).cell? (ad.add j) = some u) := Lib.hid (fun T j u hj => Lib.cell?_alloc_some _ (hc j u hj))
  have H1 := Lib.hid h1
  have q : ∀ w, (binOp .eql 48 (.slice (some ad) m c) (.slice none 0 0)).run Tryz.prog w = .ok (.bool false) w := fun w => Lib.run_eql_slice_nil w _ _ (some ad) m c 0 0 Tryz.underlying48
  clear hl hc h1
  go_enter Tryz.func112, Tryz.ntmps112
  go_wp2_with (at_builtin; refine wpList_append_own _ rfl _ _ 48 rfl w.heap.size 53 i0 _ 10 96 Tryz.underlying48 HI.out HZ0.out HZ1.out HZ2.out rfl (by decide) _ _ _ rfl (World.ownsRow_made w #[] 0 (Nat.le_refl _) (Nat.zero_le _) (by simp)) ad m c news rfl HL.out (HC.out _) H1.out (by unfold maxLen; omega) (by omega) (by simp) ?_; intro v4 w4 ho4 hg4 hn4)
  have HO := Lib.hid ho4
  have HN : Hid (v4 ≠ .slice none 0 0) := Lib.hid (fun e => by have := (hn4.1 e).1; cases this)
  have HB : Hid (Below w.heap.size w w4) := Lib.hid (((Below.refl _ w).alloc (Nat.le_refl _) _).grown hg4 (by simp) (by intro k hk; have hk2 : (Value.slice (some ⟨w.heap.size, 0, none⟩) 0 0).ownBlock = some k := hk; simp [Value.ownBlock] at hk2; omega))
  clear ho4 hg4 hn4
  go_wp2_with fail
  go_ret
  exact ⟨v4, rfl, by simpa using HO.out, HN.out, HB.out⟩
theorem infoSe : (Tryz.prog.info? 92).map (fun i => (i.zero, i.size, i.bytes)) = some (some (.agg #[.string ⟨#[]⟩, .int .i64 0, .int .i64 0, .int .i64 0]), 4, 40) := by kernel_rfl
set_option maxHeartbeats 1000000 in
set_option maxRecDepth 100000 in
theorem cloneSe_nil (n c : Nat) (w : World) : Calls Tryz.prog 113 #[.slice none n c] w fun e w' => e = .returned (.slice none 0 0) ∧ w = w' := by
  have q : ∀ w, (binOp .eql 49 (.slice none n c) (.slice none 0 0)).run Tryz.prog w = .ok (.bool true) w := fun w => Lib.run_eql_slice_nil w _ _ none n c 0 0 Tryz.underlying49
  go_enter Tryz.func113, Tryz.ntmps113
  go_wp2_with fail
  go_ret
  exact ⟨rfl, rfl⟩
set_option maxHeartbeats 1000000 in
set_option maxRecDepth 100000 in
theorem cloneSe_some (ad : Addr) (m c : Nat) (news : List Value) (w : World) (hl : news.length = m * 4) (hc : ∀ j u, news[j]? = some u → w.cell? (ad.add j) = some u) (h1 : ∀ u ∈ news, u.oneCell' = true) (hm : m ≤ 1000000) :
    Calls Tryz.prog 113 #[.slice (some ad) m c] w fun e w' => ∃ v, e = .returned v ∧ w'.ownsRow w.heap.size 92 4 v m news ∧ v ≠ .slice none 0 0 ∧ Below w.heap.size w w' := by
  obtain ⟨i0, hi, hz0, hz1, hz2⟩ := info_parts infoSe
  have HI := Lib.hid hi
  have HZ0 := Lib.hid hz0
  have HZ1 := Lib.hid hz1
  have HZ2 := Lib.hid hz2
  clear hi hz0 hz1 hz2
  have HL := Lib.hid hl
  have HC : Hid (∀ (T : Obj) j u, news[j]? = some u → (w.alloc T).cell? (ad.add j) = some u) := Lib.hid (fun T j u hj => Lib.cell?_alloc_some _ (hc j u hj))
  have H1 := Lib.hid h1
  have q : ∀ w, (binOp .eql 49 (.slice (some ad) m c) (.slice none 0 0)).run Tryz.prog w = .ok (.bool false) w := fun w => Lib.run_eql_slice_nil w _ _ (some ad) m c 0 0 Tryz.underlying49
  clear hl hc h1
  go_enter Tryz.func113, Tryz.ntmps113
  go_wp2_with (at_builtin; refine wpList_append_own _ rfl _ _ 49 rfl w.heap.size 92 i0 _ 4 40 Tryz.underlying49 HI.out HZ0.out HZ1.out HZ2.out rfl (by decide) _ _ _ rfl (World.ownsRow_made w #[] 0 (Nat.le_refl _) (Nat.zero_le _) (by simp)) ad m c news rfl HL.out (HC.out _) H1.out (by unfold maxLen; omega) (by omega) (by simp) ?_; intro v4 w4 ho4 hg4 hn4)
  have HO := Lib.hid ho4
  have HN : Hid (v4 ≠ .slice none 0 0) := Lib.hid (fun e => by have := (hn4.1 e).1; cases this)
  have HB : Hid (Below w.heap.size w w4) := Lib.hid (((Below.refl _ w).alloc (Nat.le_refl _) _).grown hg4 (by simp) (by intro k hk; have hk2 : (Value.slice (some ⟨w.heap.size, 0, none⟩) 0 0).ownBlock = some k := hk; simp [Value.ownBlock] at hk2; omega))
  clear ho4 hg4 hn4
  go_wp2_with fail
  go_ret
  exact ⟨v4, rfl, by simpa using HO.out, HN.out, HB.out⟩
theorem infoQu : (Tryz.prog.info? 57).map (fun i => (i.zero, i.size, i.bytes)) = some (some (.agg #[.bool false, .string ⟨#[]⟩, .int .i64 0, .int .i64 0, .int .i64 0]), 5, 48) := by kernel_rfl
set_option maxHeartbeats 1000000 in
set_option maxRecDepth 100000 in
theorem cloneQu_nil (n c : Nat) (w : World) : Calls Tryz.prog 68 #[.slice none n c] w fun e w' => e = .returned (.slice none 0 0) ∧ w = w' := by
  have q : ∀ w, (binOp .eql 25 (.slice none n c) (.slice none 0 0)).run Tryz.prog w = .ok (.bool true) w := fun w => Lib.run_eql_slice_nil w _ _ none n c 0 0 Tryz.underlying25
  go_enter Tryz.func68, Tryz.ntmps68
  go_wp2_with fail
  go_ret
  exact ⟨rfl, rfl⟩
set_option maxHeartbeats 1000000 in
set_option maxRecDepth 100000 in
theorem cloneQu_some (ad : Addr) (m c : Nat) (news : List Value) (w : World) (hl : news.length = m * 5) (hc : ∀ j u, news[j]? = some u → w.cell? (ad.add j) = some u) (h1 : ∀ u ∈ news, u.oneCell' = true) (hm : m ≤ 1000000) :
    Calls Tryz.prog 68 #[.slice (some ad) m c] w fun e w' => ∃ v, e = .returned v ∧ w'.ownsRow w.heap.size 57 5 v m news ∧ v ≠ .slice none 0 0 ∧ Below w.heap.size w w' := by
  obtain ⟨i0, hi, hz0, hz1, hz2⟩ := info_parts infoQu
  have HI := Lib.hid hi
  have HZ0 := Lib.hid hz0
  have HZ1 := Lib.hid hz1
  have HZ2 := Lib.hid hz2
  clear hi hz0 hz1 hz2
  have HL := Lib.hid hl
  have HC : Hid (∀ (T : Obj) j u, news[j]? = some u → (w.alloc T).cell? (ad.add j) = some u) := Lib.hid (fun T j u hj => Lib.cell?_alloc_some _ (hc j u hj))
  have H1 := Lib.hid h1
  have q : ∀ w, (binOp .eql 25 (.slice (some ad) m c) (.slice none 0 0)).run Tryz.prog w = .ok (.bool false) w := fun w => Lib.run_eql_slice_nil w _ _ (some ad) m c 0 0 Tryz.underlying25
  clear hl hc h1
  go_enter Tryz.func68, Tryz.ntmps68
  go_wp2_with (at_builtin; refine wpList_append_own _ rfl _ _ 25 rfl w.heap.size 57 i0 _ 5 48 Tryz.underlying25 HI.out HZ0.out HZ1.out HZ2.out rfl (by decide) _ _ _ rfl (World.ownsRow_made w #[] 0 (Nat.le_refl _) (Nat.zero_le _) (by simp)) ad m c news rfl HL.out (HC.out _) H1.out (by unfold maxLen; omega) (by omega) (by simp) ?_; intro v4 w4 ho4 hg4 hn4)
  have HO := Lib.hid ho4
  have HN : Hid (v4 ≠ .slice none 0 0) := Lib.hid (fun e => by have := (hn4.1 e).1; cases this)
  have HB : Hid (Below w.heap.size w w4) := Lib.hid (((Below.refl _ w).alloc (Nat.le_refl _) _).grown hg4 (by simp) (by intro k hk; have hk2 : (Value.slice (some ⟨w.heap.size, 0, none⟩) 0 0).ownBlock = some k := hk; simp [Value.ownBlock] at hk2; omega))
  clear ho4 hg4 hn4
  go_wp2_with fail
  go_ret
  exact ⟨v4, rfl, by simpa using HO.out, HN.out, HB.out⟩
theorem infoFr : (Tryz.prog.info? 43).map (fun i => (i.zero, i.size, i.bytes)) = some (some (.agg #[.string ⟨#[]⟩, .int .i64 0, .int .i64 0, .int .i64 0, .int .i64 0, .string ⟨#[]⟩, .bool false]), 7, 72) := by kernel_rfl
set_option maxHeartbeats 1000000 in
set_option maxRecDepth 100000 in
theorem cloneFr_nil (n c : Nat) (w : World) : Calls Tryz.prog 69 #[.slice none n c] w fun e w' => e = .returned (.slice none 0 0) ∧ w = w' := by
  have q : ∀ w, (binOp .eql 26 (.slice none n c) (.slice none 0 0)).run Tryz.prog w = .ok (.bool true) w := fun w => Lib.run_eql_slice_nil w _ _ none n c 0 0 Tryz.underlying26
  go_enter Tryz.func69, Tryz.ntmps69
  go_wp2_with fail
  go_ret
  exact ⟨rfl, rfl⟩
set_option maxHeartbeats 1000000 in
set_option maxRecDepth 100000 in
theorem cloneFr_some (ad : Addr) (m c : Nat) (news : List Value) (w : World) (hl : news.length = m * 7) (hc : ∀ j u, news[j]? = some u → w.cell? (ad.add j) = some u) (h1 : ∀ u ∈ news, u.oneCell' = true) (hm : m ≤ 1000000) :
    Calls Tryz.prog 69 #[.slice (some ad) m c] w fun e w' => ∃ v, e = .returned v ∧ w'.ownsRow w.heap.size 43 7 v m news ∧ v ≠ .slice none 0 0 ∧ Below w.heap.size w w' := by
  obtain ⟨i0, hi, hz0, hz1, hz2⟩ := info_parts infoFr
  have HI := Lib.hid hi
  have HZ0 := Lib.hid hz0
  have HZ1 := Lib.hid hz1
  have HZ2 := Lib.hid hz2
  clear hi hz0 hz1 hz2
  have HL := Lib.hid hl
  have HC : Hid (∀ (T : Obj) j u, news[j]? = some u → (w.alloc T).cell? (ad.add j) = some u) := Lib.hid (fun T j u hj => Lib.cell?_alloc_some _ (hc j u hj))
  have H1 := Lib.hid h1
  have q : ∀ w, (binOp .eql 26 (.slice (some ad) m c) (.slice none 0 0)).run Tryz.prog w = .ok (.bool false) w := fun w => Lib.run_eql_slice_nil w _ _ (some ad) m c 0 0 Tryz.underlying26
  clear hl hc h1
  go_enter Tryz.func69, Tryz.ntmps69
  go_wp2_with (at_builtin; refine wpList_append_own _ rfl _ _ 26 rfl w.heap.size 43 i0 _ 7 72 Tryz.underlying26 HI.out HZ0.out HZ1.out HZ2.out rfl (by decide) _ _ _ rfl (World.ownsRow_made w #[] 0 (Nat.le_refl _) (Nat.zero_le _) (by simp)) ad m c news rfl HL.out (HC.out _) H1.out (by unfold maxLen; omega) (by omega) (by simp) ?_; intro v4 w4 ho4 hg4 hn4)
  have HO := Lib.hid ho4
  have HN : Hid (v4 ≠ .slice none 0 0) := Lib.hid (fun e => by have := (hn4.1 e).1; cases this)
  have HB : Hid (Below w.heap.size w w4) := Lib.hid (((Below.refl _ w).alloc (Nat.le_refl _) _).grown hg4 (by simp) (by intro k hk; have hk2 : (Value.slice (some ⟨w.heap.size, 0, none⟩) 0 0).ownBlock = some k := hk; simp [Value.ownBlock] at hk2; omega))
  clear ho4 hg4 hn4
  go_wp2_with fail
  go_ret
  exact ⟨v4, rfl, by simpa using HO.out, HN.out, HB.out⟩
theorem infoSta : (Tryz.prog.info? 60).map (fun i => (i.zero, i.size, i.bytes)) = some (some (.agg #[.string ⟨#[]⟩, .int .i64 0, .int .i64 0, .bool false, .bool false]), 5, 40) := by kernel_rfl
set_option maxHeartbeats 1000000 in
set_option maxRecDepth 100000 in
theorem cloneSta_nil (n c : Nat) (w : World) : Calls Tryz.prog 70 #[.slice none n c] w fun e w' => e = .returned (.slice none 0 0) ∧ w = w' := by
  have q : ∀ w, (binOp .eql 27 (.slice none n c) (.slice none 0 0)).run Tryz.prog w = .ok (.bool true) w := fun w => Lib.run_eql_slice_nil w _ _ none n c 0 0 Tryz.underlying27
  go_enter Tryz.func70, Tryz.ntmps70
  go_wp2_with fail
  go_ret
  exact ⟨rfl, rfl⟩
set_option maxHeartbeats 1000000 in
set_option maxRecDepth 100000 in
theorem cloneSta_some (ad : Addr) (m c : Nat) (news : List Value) (w : World) (hl : news.length = m * 5) (hc : ∀ j u, news[j]? = some u → w.cell? (ad.add j) = some u) (h1 : ∀ u ∈ news, u.oneCell' = true) (hm : m ≤ 1000000) :
    Calls Tryz.prog 70 #[.slice (some ad) m c] w fun e w' => ∃ v, e = .returned v ∧ w'.ownsRow w.heap.size 60 5 v m news ∧ v ≠ .slice none 0 0 ∧ Below w.heap.size w w' := by
  obtain ⟨i0, hi, hz0, hz1, hz2⟩ := info_parts infoSta
  have HI := Lib.hid hi
  have HZ0 := Lib.hid hz0
  have HZ1 := Lib.hid hz1
  have HZ2 := Lib.hid hz2
  clear hi hz0 hz1 hz2
  have HL := Lib.hid hl
  have HC : Hid (∀ (T : Obj) j u, news[j]? = some u → (w.alloc T).cell? (ad.add j) = some u) := Lib.hid (fun T j u hj => Lib.cell?_alloc_some _ (hc j u hj))
  have H1 := Lib.hid h1
  have q : ∀ w, (binOp .eql 27 (.slice (some ad) m c) (.slice none 0 0)).run Tryz.prog w = .ok (.bool false) w := fun w => Lib.run_eql_slice_nil w _ _ (some ad) m c 0 0 Tryz.underlying27
  clear hl hc h1
  go_enter Tryz.func70, Tryz.ntmps70
  go_wp2_with (at_builtin; refine wpList_append_own _ rfl _ _ 27 rfl w.heap.size 60 i0 _ 5 40 Tryz.underlying27 HI.out HZ0.out HZ1.out HZ2.out rfl (by decide) _ _ _ rfl (World.ownsRow_made w #[] 0 (Nat.le_refl _) (Nat.zero_le _) (by simp)) ad m c news rfl HL.out (HC.out _) H1.out (by unfold maxLen; omega) (by omega) (by simp) ?_; intro v4 w4 ho4 hg4 hn4)
  have HO := Lib.hid ho4
  have HN : Hid (v4 ≠ .slice none 0 0) := Lib.hid (fun e => by have := (hn4.1 e).1; cases this)
  have HB : Hid (Below w.heap.size w w4) := Lib.hid (((Below.refl _ w).alloc (Nat.le_refl _) _).grown hg4 (by simp) (by intro k hk; have hk2 : (Value.slice (some ⟨w.heap.size, 0, none⟩) 0 0).ownBlock = some k := hk; simp [Value.ownBlock] at hk2; omega))
  clear ho4 hg4 hn4
  go_wp2_with fail
  go_ret
  exact ⟨v4, rfl, by simpa using HO.out, HN.out, HB.out⟩
theorem infoDe : (Tryz.prog.info? 39).map (fun i => (i.zero, i.size, i.bytes)) = some (some (.agg #[.string ⟨#[]⟩, .int .i64 0, .int .i64 0, .slice none 0 0]), 4, 56) := by kernel_rfl
set_option maxHeartbeats 1000000 in
set_option maxRecDepth 100000 in
theorem cloneDe_nil (n c : Nat) (w : World) : Calls Tryz.prog 67 #[.slice none n c] w fun e w' => e = .returned (.slice none 0 0) ∧ w = w' := by
  have q : ∀ w, (binOp .eql 24 (.slice none n c) (.slice none 0 0)).run Tryz.prog w = .ok (.bool true) w := fun w => Lib.run_eql_slice_nil w _ _ none n c 0 0 Tryz.underlying24
  go_enter Tryz.func67, Tryz.ntmps67
  go_wp2_with fail
  go_ret
  exact ⟨rfl, rfl⟩
set_option maxHeartbeats 1000000 in
set_option maxRecDepth 100000 in
theorem cloneDe_some (ad : Addr) (m c : Nat) (news : List Value) (w : World) (hl : news.length = m * 4) (hc : ∀ j u, news[j]? = some u → w.cell? (ad.add j) = some u) (h1 : ∀ u ∈ news, u.oneCell' = true) (hm : m ≤ 1000000) :
    Calls Tryz.prog 67 #[.slice (some ad) m c] w fun e w' => ∃ v, e = .returned v ∧ w'.ownsRow w.heap.size 39 4 v m news ∧ v ≠ .slice none 0 0 ∧ Below w.heap.size w w' := by
  obtain ⟨i0, hi, hz0, hz1, hz2⟩ := info_parts infoDe
  have HI := Lib.hid hi
  have HZ0 := Lib.hid hz0
  have HZ1 := Lib.hid hz1
  have HZ2 := Lib.hid hz2
  clear hi hz0 hz1 hz2
  have HL := Lib.hid hl
  have HC : Hid (∀ (T : Obj) j u, news[j]? = some u → (w.alloc T).cell? (ad.add j) = some u) := Lib.hid (fun T j u hj => Lib.cell?_alloc_some _ (hc j u hj))
  have H1 := Lib.hid h1
  have q : ∀ w, (binOp .eql 24 (.slice (some ad) m c) (.slice none 0 0)).run Tryz.prog w = .ok (.bool false) w := fun w => Lib.run_eql_slice_nil w _ _ (some ad) m c 0 0 Tryz.underlying24
  clear hl hc h1
  go_enter Tryz.func67, Tryz.ntmps67
  go_wp2_with (at_builtin; refine wpList_append_own _ rfl _ _ 24 rfl w.heap.size 39 i0 _ 4 56 Tryz.underlying24 HI.out HZ0.out HZ1.out HZ2.out rfl (by decide) _ _ _ rfl (World.ownsRow_made w #[] 0 (Nat.le_refl _) (Nat.zero_le _) (by simp)) ad m c news rfl HL.out (HC.out _) H1.out (by unfold maxLen; omega) (by omega) (by simp) ?_; intro v4 w4 ho4 hg4 hn4)
  have HO := Lib.hid ho4
  have HN : Hid (v4 ≠ .slice none 0 0) := Lib.hid (fun e => by have := (hn4.1 e).1; cases this)
  have HB : Hid (Below w.heap.size w w4) := Lib.hid (((Below.refl _ w).alloc (Nat.le_refl _) _).grown hg4 (by simp) (by intro k hk; have hk2 : (Value.slice (some ⟨w.heap.size, 0, none⟩) 0 0).ownBlock = some k := hk; simp [Value.ownBlock] at hk2; omega))
  clear ho4 hg4 hn4
  go_wp2_with fail
  go_ret
  exact ⟨v4, rfl, by simpa using HO.out, HN.out, HB.out⟩
theorem infoSy : (Tryz.prog.info? 47).map (fun i => (i.zero, i.size, i.bytes)) = some (some (.agg #[.string ⟨#[]⟩, .slice none 0 0, .int .i64 0, .int .i64 0]), 4, 56) := by kernel_rfl
set_option maxHeartbeats 1000000 in
set_option maxRecDepth 100000 in
theorem cloneSy_nil (n c : Nat) (w : World) : Calls Tryz.prog 71 #[.slice none n c] w fun e w' => e = .returned (.slice none 0 0) ∧ w = w' := by
  have q : ∀ w, (binOp .eql 28 (.slice none n c) (.slice none 0 0)).run Tryz.prog w = .ok (.bool true) w := fun w => Lib.run_eql_slice_nil w _ _ none n c 0 0 Tryz.underlying28
  go_enter Tryz.func71, Tryz.ntmps71
  go_wp2_with fail
  go_ret
  exact ⟨rfl, rfl⟩
set_option maxHeartbeats 1000000 in
set_option maxRecDepth 100000 in
theorem cloneSy_some (ad : Addr) (m c : Nat) (news : List Value) (w : World) (hl : news.length = m * 4) (hc : ∀ j u, news[j]? = some u → w.cell? (ad.add j) = some u) (h1 : ∀ u ∈ news, u.oneCell' = true) (hm : m ≤ 1000000) :
    Calls Tryz.prog 71 #[.slice (some ad) m c] w fun e w' => ∃ v, e = .returned v ∧ w'.ownsRow w.heap.size 47 4 v m news ∧ v ≠ .slice none 0 0 ∧ Below w.heap.size w w' := by
  obtain ⟨i0, hi, hz0, hz1, hz2⟩ := info_parts infoSy
  have HI := Lib.hid hi
  have HZ0 := Lib.hid hz0
  have HZ1 := Lib.hid hz1
  have HZ2 := Lib.hid hz2
  clear hi hz0 hz1 hz2
  have HL := Lib.hid hl
  have HC : Hid (∀ (T : Obj) j u, news[j]? = some u → (w.alloc T).cell? (ad.add j) = some u) := Lib.hid (fun T j u hj => Lib.cell?_alloc_some _ (hc j u hj))
  have H1 := Lib.hid h1
  have q : ∀ w, (binOp .eql 28 (.slice (some ad) m c) (.slice none 0 0)).run Tryz.prog w = .ok (.bool false) w := fun w => Lib.run_eql_slice_nil w _ _ (some ad) m c 0 0 Tryz.underlying28
  clear hl hc h1
  go_enter Tryz.func71, Tryz.ntmps71
  go_wp2_with (at_builtin; refine wpList_append_own _ rfl _ _ 28 rfl w.heap.size 47 i0 _ 4 56 Tryz.underlying28 HI.out HZ0.out HZ1.out HZ2.out rfl (by decide) _ _ _ rfl (World.ownsRow_made w #[] 0 (Nat.le_refl _) (Nat.zero_le _) (by simp)) ad m c news rfl HL.out (HC.out _) H1.out (by unfold maxLen; omega) (by omega) (by simp) ?_; intro v4 w4 ho4 hg4 hn4)
  have HO := Lib.hid ho4
  have HN : Hid (v4 ≠ .slice none 0 0) := Lib.hid (fun e => by have := (hn4.1 e).1; cases this)
  have HB : Hid (Below w.heap.size w w4) := Lib.hid (((Below.refl _ w).alloc (Nat.le_refl _) _).grown hg4 (by simp) (by intro k hk; have hk2 : (Value.slice (some ⟨w.heap.size, 0, none⟩) 0 0).ownBlock = some k := hk; simp [Value.ownBlock] at hk2; omega))
  clear ho4 hg4 hn4
  go_wp2_with fail
  go_ret
  exact ⟨v4, rfl, by simpa using HO.out, HN.out, HB.out⟩
theorem infoTs : (Tryz.prog.info? 51).map (fun i => (i.zero, i.size, i.bytes)) = some (some (.agg #[.string ⟨#[]⟩, .int .i64 0, .int .i64 0, .string ⟨#[]⟩, .int .i64 0, .int .i64 0, .string ⟨#[]⟩, .slice none 0 0, .int .i64 0, .int .i64 0, .slice none 0 0, .int .i64 0, .slice none 0 0]), 13, 176) := by kernel_rfl
set_option maxHeartbeats 1000000 in
set_option maxRecDepth 100000 in
theorem cloneTs_nil (n c : Nat) (w : World) : Calls Tryz.prog 74 #[.slice none n c] w fun e w' => e = .returned (.slice none 0 0) ∧ w = w' := by
  have q : ∀ w, (binOp .eql 29 (.slice none n c) (.slice none 0 0)).run Tryz.prog w = .ok (.bool true) w := fun w => Lib.run_eql_slice_nil w _ _ none n c 0 0 Tryz.underlying29
  go_enter Tryz.func74, Tryz.ntmps74
  go_wp2_with fail
  go_ret
  exact ⟨rfl, rfl⟩
set_option maxHeartbeats 1000000 in
set_option maxRecDepth 100000 in
theorem cloneTs_some (ad : Addr) (m c : Nat) (news : List Value) (w : World) (hl : news.length = m * 13) (hc : ∀ j u, news[j]? = some u → w.cell? (ad.add j) = some u) (h1 : ∀ u ∈ news, u.oneCell' = true) (hm : m ≤ 1000000) :
    Calls Tryz.prog 74 #[.slice (some ad) m c] w fun e w' => ∃ v, e = .returned v ∧ w'.ownsRow w.heap.size 51 13 v m news ∧ v ≠ .slice none 0 0 ∧ Below w.heap.size w w' := by
  obtain ⟨i0, hi, hz0, hz1, hz2⟩ := info_parts infoTs
  have HI := Lib.hid hi
  have HZ0 := Lib.hid hz0
  have HZ1 := Lib.hid hz1
  have HZ2 := Lib.hid hz2
  clear hi hz0 hz1 hz2
  have HL := Lib.hid hl
  have HC : Hid (∀ (T : Obj) j u, news[j]? = some u → (w.alloc T).cell? (ad.add j) = some u) := Lib.hid (fun T j u hj => Lib.cell?_alloc_some _ (hc j u hj))
  have H1 := Lib.hid h1
  have q : ∀ w, (binOp .eql 29 (.slice (some ad) m c) (.slice none 0 0)).run Tryz.prog w = .ok (.bool false) w := fun w => Lib.run_eql_slice_nil w _ _ (some ad) m c 0 0 Tryz.underlying29
  clear hl hc h1
  go_enter Tryz.func74, Tryz.ntmps74
  go_wp2_with (at_builtin; refine wpList_append_own _ rfl _ _ 29 rfl w.heap.size 51 i0 _ 13 176 Tryz.underlying29 HI.out HZ0.out HZ1.out HZ2.out rfl (by decide) _ _ _ rfl (World.ownsRow_made w #[] 0 (Nat.le_refl _) (Nat.zero_le _) (by simp)) ad m c news rfl HL.out (HC.out _) H1.out (by unfold maxLen; omega) (by omega) (by simp) ?_; intro v4 w4 ho4 hg4 hn4)
  have HO := Lib.hid ho4
  have HN : Hid (v4 ≠ .slice none 0 0) := Lib.hid (fun e => by have := (hn4.1 e).1; cases this)
  have HB : Hid (Below w.heap.size w w4) := Lib.hid (((Below.refl _ w).alloc (Nat.le_refl _) _).grown hg4 (by simp) (by intro k hk; have hk2 : (Value.slice (some ⟨w.heap.size, 0, none⟩) 0 0).ownBlock = some k := hk; simp [Value.ownBlock] at hk2; omega))
  clear ho4 hg4 hn4
  go_wp2_with fail
  go_ret
  exact ⟨v4, rfl, by simpa using HO.out, HN.out, HB.out⟩
end Go.Proofs.YtojabkhfkbfeaaaGreatDoor
