/- A list of things made anew one by one: tree's each, of flat things. -/
import Derived.Test.YtojabkhfkbfeaaaGreatDoorTreeClone
import Derived.Test.YtojabkhfkbfeaaaGreatDoorTreePlain
import Derived.Test.YtojabkhfkbfeaaaGreatDoorGinPut
import Derived.Test.YtojabkhfkbfeaaaGreatDoorTreeFew
import Derived.Laws.EntriesVeiled
import Derived.Shelf.Abstract
namespace Go.Proofs.YtojabkhfkbfeaaaGreatDoor
open Go.RowKit
set_option linter.unusedVariables false

def plQu (q : Qu) : Qu := ⟨q.all, plI q.n, q.t⟩
def plFr (f : Fr) : Fr := ⟨plI f.n, f.v⟩
def plSta (x : Sta) : Sta := ⟨plI x.n, x.nx, x.ac⟩
def plSe (s : Se) : Se := ⟨plI s.n, s.e⟩
/-- A list of things that a call has made. -/
def Made {α : Type} (R : World → List Value → α → Prop) (T : TypeId) (k : Nat) (L : List α) (w : World) (e : Ending) (w' : World) : Prop :=
  ∃ a c, e = .returned (.slice a L.length c) ∧ GIn R T True k w' a L.length L ∧ Below w.heap.size w w'
theorem gin_none {α : Type} {R : World → List Value → α → Prop} {T : TypeId} {O : Prop} {k len : Nat} {w : World} {L : List α} (h : GIn R T O k w none len L) : len = 0 ∧ L = [] := by
  have : L = [] := by
    cases L with
    | nil => rfl
    | cons x r =>
      obtain ⟨g, off, cs, e, _⟩ := h.at' 0 x rfl
      cases e
  subst this
  exact ⟨h.leng.symm, rfl⟩
theorem take_map {α β : Type} {f : α → β} {L : List α} {n : Nat} {x : α} (h : L[n]? = some x) : (L.map f)[n]? = some (f x) := by rw [List.getElem?_map, h]; rfl

set_option maxHeartbeats 4000000 in
set_option maxRecDepth 100000 in
theorem eachAg_calls {T : TypeId} {O : Prop} (a : Option Addr) (len cap : Nat) (L : List Ag) (w : World) (h : GIn rAg T O 8 w a len L) (hl : len ≤ 1000000) :
    Calls Tryz.prog 72 #[.slice a len cap, .func (.func 73) #[] #[]] w (Made rAg 101 8 (L.map plA) w) := by
  have eg : ∀ args w, (callFunc 73 args).run Tryz.prog w = .ok (.enter 73 args) w := enters_of Tryz.func73 (by kernel_rfl) rfl
  cases a with
  | none =>
    obtain ⟨rfl, rfl⟩ := gin_none h
    clear h
    go_enter Tryz.func72, Tryz.ntmps72
    go_wp2_with fail
    refine (cloneAg_nil 0 cap w).mono ?_
    rintro e w1 ⟨rfl, rfl⟩
    go_wp2_with fail
    go_loopw [12] (fun i wr => i = .int .i64 0 ∧ Hid (Below w.heap.size w wr)) (fun _ _ => 0)
    case atStart => exact ⟨rfl, Lib.hid (Below.refl _ _)⟩
    case round =>
      obtain ⟨rfl, HB⟩ := hrel
      go_wp2_with fail
      go_ret
      exact ⟨none, 0, rfl, GIn.nil, HB.out⟩
  | some ad =>
    obtain ⟨css, hgs, hcs⟩ := gin_out h (by decide) ad rfl
    have HL := Lib.hid h.leng
    have HGS := Lib.hid hgs
    have hfl : css.flatten.length = len * 8 := by rw [flat_len _ hgs.all, hgs.leng, h.leng]
    have hone : ∀ u ∈ css.flatten, u.oneCell' = true := gs_one hgs (fun cs x hr u hu => by
      rw [hr.1] at hu
      simp only [agC, List.mem_cons, List.not_mem_nil, or_false] at hu
      rcases hu with rfl | rfl | rfl | rfl | rfl | rfl | rfl | rfl <;> rfl)
    have HC := Lib.hid (cloneAg_some ad len cap css.flatten w hfl hcs hone hl)
    clear h hcs hfl hone
    go_enter Tryz.func72, Tryz.ntmps72
    go_wp2_with fail
    refine HC.out.mono ?_
    rintro e w1 ⟨v, rfl, ho, hne, hb⟩
    obtain ⟨g, c, rfl, hlc, hE⟩ := Ea.start ho hne hb hgs.all
    have HE0 := Lib.hid hE
    clear hgs ho hne hb hE HC hlc
    go_wp2_with fail
    go_loopw [12] (fun i wr => ∃ (j : Nat), j ≤ len ∧ i = .int .i64 j ∧ Hid (Ea 101 8 w g css j wr) ∧ Hid (GIn rAg 101 True 8 wr (some ⟨g, 0, none⟩) j ((L.map plA).take j))) (fun i _ => len - (intOf i).toNat)
    case atStart => exact ⟨0, Nat.zero_le _, rfl, HE0, Lib.hid GIn.nil⟩
    case round =>
      obtain ⟨j, hj, rfl, HE, HG⟩ := hrel
      by_cases hlt : j < len
      case neg =>
        obtain rfl : j = len := by omega
        have hml : (L.map plA).length = j := by rw [List.length_map, HL.out]
        have HG2 : Hid (GIn rAg 101 True 8 wr (some ⟨g, 0, none⟩) j (L.map plA)) := Lib.hid (by have := HG.out; rwa [List.take_of_length_le (by omega)] at this)
        have HM := Lib.hid hml
        clear hml
        go_wp2_with fail
        go_ret
        exact ⟨some ⟨g, 0, none⟩, c, by rw [HM.out]; rfl, by rw [HM.out]; exact HG2.out, HE.out.below⟩
      case pos =>
        obtain ⟨x, hx⟩ := at_some HL.out hlt
        obtain ⟨cs, hcs, hr, hp⟩ := HGS.out.at' j x hx
        subst hr
        have HCS := Lib.hid hcs
        have HMX := Lib.hid (take_map (f := plA) hx)
        have HP := Lib.hid hp
        have c0 : wr.cell? ⟨g, j * 8, none⟩ = some (.int .i64 x.k) := HE.out.todo j _ (Nat.le_refl _) hcs 0 _ rfl
        have c1 : wr.cell? ⟨g, j * 8 + 1, none⟩ = some (.string x.n) := HE.out.todo j _ (Nat.le_refl _) hcs 1 _ rfl
        have c2 : wr.cell? ⟨g, j * 8 + 2, none⟩ = some (.int .i64 x.v.k) := HE.out.todo j _ (Nat.le_refl _) hcs 2 _ rfl
        have c3 : wr.cell? ⟨g, j * 8 + 3, none⟩ = some (.int .i64 x.v.i) := HE.out.todo j _ (Nat.le_refl _) hcs 3 _ rfl
        have c4 : wr.cell? ⟨g, j * 8 + 4, none⟩ = some (.string x.v.s) := HE.out.todo j _ (Nat.le_refl _) hcs 4 _ rfl
        have c5 : wr.cell? ⟨g, j * 8 + 5, none⟩ = some (.bool x.v.b) := HE.out.todo j _ (Nat.le_refl _) hcs 5 _ rfl
        have c6 : wr.cell? ⟨g, j * 8 + 6, none⟩ = some (.int .i64 x.l) := HE.out.todo j _ (Nat.le_refl _) hcs 6 _ rfl
        have c7 : wr.cell? ⟨g, j * 8 + 7, none⟩ = some (.int .i64 x.c) := HE.out.todo j _ (Nat.le_refl _) hcs 7 _ rfl
        have HB2 : Hid (Below wr.heap.size wr (wr.alloc (.cells #[.int .i64 x.k, .string x.n, .int .i64 x.v.k, .int .i64 x.v.i, .string x.v.s, .bool x.v.b, .int .i64 x.l, .int .i64 x.c] 101))) := Lib.hid ((Below.refl wr.heap.size wr).alloc (Nat.le_refl _) _)
        have HK := Lib.hid (fun w1 => plainAg_calls x w1)
        clear hx hcs hp
        go_wp2_with fail
        refine (HK.out _).mono ?_
        rintro e w2 ⟨rfl, k2⟩
        have hb3 := HB2.out.trans (k2.mono (by simp))
        have hE2 := HE.out.call hb3
        have HE2 := Lib.hid hE2
        have HG2 := Lib.hid (HG.out.belowF hb3)
        have d0 : w2.cell? ⟨g, j * 8, none⟩ = some (.int .i64 x.k) := hE2.todo j _ (Nat.le_refl _) HCS.out 0 _ rfl
        have f0 : w2.frozen? ⟨g, j * 8, none⟩ = false := hE2.frozen (j * 8)
        have d1 : w2.cell? ⟨g, j * 8 + 1, none⟩ = some (.string x.n) := hE2.todo j _ (Nat.le_refl _) HCS.out 1 _ rfl
        have f1 : w2.frozen? ⟨g, j * 8 + 1, none⟩ = false := hE2.frozen (j * 8 + 1)
        have d2 : w2.cell? ⟨g, j * 8 + 2, none⟩ = some (.int .i64 x.v.k) := hE2.todo j _ (Nat.le_refl _) HCS.out 2 _ rfl
        have f2 : w2.frozen? ⟨g, j * 8 + 2, none⟩ = false := hE2.frozen (j * 8 + 2)
        have d3 : w2.cell? ⟨g, j * 8 + 3, none⟩ = some (.int .i64 x.v.i) := hE2.todo j _ (Nat.le_refl _) HCS.out 3 _ rfl
        have f3 : w2.frozen? ⟨g, j * 8 + 3, none⟩ = false := hE2.frozen (j * 8 + 3)
        have d4 : w2.cell? ⟨g, j * 8 + 4, none⟩ = some (.string x.v.s) := hE2.todo j _ (Nat.le_refl _) HCS.out 4 _ rfl
        have f4 : w2.frozen? ⟨g, j * 8 + 4, none⟩ = false := hE2.frozen (j * 8 + 4)
        have d5 : w2.cell? ⟨g, j * 8 + 5, none⟩ = some (.bool x.v.b) := hE2.todo j _ (Nat.le_refl _) HCS.out 5 _ rfl
        have f5 : w2.frozen? ⟨g, j * 8 + 5, none⟩ = false := hE2.frozen (j * 8 + 5)
        have d6 : w2.cell? ⟨g, j * 8 + 6, none⟩ = some (.int .i64 x.l) := hE2.todo j _ (Nat.le_refl _) HCS.out 6 _ rfl
        have f6 : w2.frozen? ⟨g, j * 8 + 6, none⟩ = false := hE2.frozen (j * 8 + 6)
        have d7 : w2.cell? ⟨g, j * 8 + 7, none⟩ = some (.int .i64 x.c) := hE2.todo j _ (Nat.le_refl _) HCS.out 7 _ rfl
        have f7 : w2.frozen? ⟨g, j * 8 + 7, none⟩ = false := hE2.frozen (j * 8 + 7)
        clear hE2 hb3 k2
        clear c0 c1 c2 c3 c4 c5 c6 c7
        go_wp2_with fail
        go_roundw
        case rel => exact ⟨j + 1, hlt, by go_num, Lib.hid (HE2.out.put [.int .i64 x.k, .string x.n, .int .i64 x.v.k, .int .i64 x.v.i, .string x.v.s, .bool x.v.b, .int .i64 0, .int .i64 0] rfl), Lib.hid (gin_put (vs := [.int .i64 x.k, .string x.n, .int .i64 x.v.k, .int .i64 x.v.i, .string x.v.s, .bool x.v.b, .int .i64 0, .int .i64 0]) HG2.out HE2.out HCS.out rfl HMX.out rfl ⟨rfl, HP.out⟩ (fun _ _ h => RF.any h) (by omega))⟩
        case measure => simp [intOf] <;> omega

set_option maxHeartbeats 4000000 in
set_option maxRecDepth 100000 in
theorem eachEx_calls {T : TypeId} {O : Prop} (a : Option Addr) (len cap : Nat) (L : List Ex) (w : World) (h : GIn rEx T O 10 w a len L) (hl : len ≤ 1000000) :
    Calls Tryz.prog 75 #[.slice a len cap, .func (.func 76) #[] #[]] w (Made rEx 53 10 (L.map plE) w) := by
  have eg : ∀ args w, (callFunc 76 args).run Tryz.prog w = .ok (.enter 76 args) w := enters_of Tryz.func76 (by kernel_rfl) rfl
  cases a with
  | none =>
    obtain ⟨rfl, rfl⟩ := gin_none h
    clear h
    go_enter Tryz.func75, Tryz.ntmps75
    go_wp2_with fail
    refine (cloneEx_nil 0 cap w).mono ?_
    rintro e w1 ⟨rfl, rfl⟩
    go_wp2_with fail
    go_loopw [12] (fun i wr => i = .int .i64 0 ∧ Hid (Below w.heap.size w wr)) (fun _ _ => 0)
    case atStart => exact ⟨rfl, Lib.hid (Below.refl _ _)⟩
    case round =>
      obtain ⟨rfl, HB⟩ := hrel
      go_wp2_with fail
      go_ret
      exact ⟨none, 0, rfl, GIn.nil, HB.out⟩
  | some ad =>
    obtain ⟨css, hgs, hcs⟩ := gin_out h (by decide) ad rfl
    have HL := Lib.hid h.leng
    have HGS := Lib.hid hgs
    have hfl : css.flatten.length = len * 10 := by rw [flat_len _ hgs.all, hgs.leng, h.leng]
    have hone : ∀ u ∈ css.flatten, u.oneCell' = true := gs_one hgs (fun cs x hr u hu => by
      rw [hr.1] at hu
      simp only [exC, List.mem_cons, List.not_mem_nil, or_false] at hu
      rcases hu with rfl | rfl | rfl | rfl | rfl | rfl | rfl | rfl | rfl | rfl <;> rfl)
    have HC := Lib.hid (cloneEx_some ad len cap css.flatten w hfl hcs hone hl)
    clear h hcs hfl hone
    go_enter Tryz.func75, Tryz.ntmps75
    go_wp2_with fail
    refine HC.out.mono ?_
    rintro e w1 ⟨v, rfl, ho, hne, hb⟩
    obtain ⟨g, c, rfl, hlc, hE⟩ := Ea.start ho hne hb hgs.all
    have HE0 := Lib.hid hE
    clear hgs ho hne hb hE HC hlc
    go_wp2_with fail
    go_loopw [12] (fun i wr => ∃ (j : Nat), j ≤ len ∧ i = .int .i64 j ∧ Hid (Ea 53 10 w g css j wr) ∧ Hid (GIn rEx 53 True 10 wr (some ⟨g, 0, none⟩) j ((L.map plE).take j))) (fun i _ => len - (intOf i).toNat)
    case atStart => exact ⟨0, Nat.zero_le _, rfl, HE0, Lib.hid GIn.nil⟩
    case round =>
      obtain ⟨j, hj, rfl, HE, HG⟩ := hrel
      by_cases hlt : j < len
      case neg =>
        obtain rfl : j = len := by omega
        have hml : (L.map plE).length = j := by rw [List.length_map, HL.out]
        have HG2 : Hid (GIn rEx 53 True 10 wr (some ⟨g, 0, none⟩) j (L.map plE)) := Lib.hid (by have := HG.out; rwa [List.take_of_length_le (by omega)] at this)
        have HM := Lib.hid hml
        clear hml
        go_wp2_with fail
        go_ret
        exact ⟨some ⟨g, 0, none⟩, c, by rw [HM.out]; rfl, by rw [HM.out]; exact HG2.out, HE.out.below⟩
      case pos =>
        obtain ⟨x, hx⟩ := at_some HL.out hlt
        obtain ⟨cs, hcs, hr, hp⟩ := HGS.out.at' j x hx
        subst hr
        have HCS := Lib.hid hcs
        have HMX := Lib.hid (take_map (f := plE) hx)
        have HP := Lib.hid hp
        have c0 : wr.cell? ⟨g, j * 10, none⟩ = some (.int .i64 x.op) := HE.out.todo j _ (Nat.le_refl _) hcs 0 _ rfl
        have c1 : wr.cell? ⟨g, j * 10 + 1, none⟩ = some (.int .i64 x.a) := HE.out.todo j _ (Nat.le_refl _) hcs 1 _ rfl
        have c2 : wr.cell? ⟨g, j * 10 + 2, none⟩ = some (.int .i64 x.b) := HE.out.todo j _ (Nat.le_refl _) hcs 2 _ rfl
        have c3 : wr.cell? ⟨g, j * 10 + 3, none⟩ = some (.string x.n) := HE.out.todo j _ (Nat.le_refl _) hcs 3 _ rfl
        have c4 : wr.cell? ⟨g, j * 10 + 4, none⟩ = some (.int .i64 x.v.k) := HE.out.todo j _ (Nat.le_refl _) hcs 4 _ rfl
        have c5 : wr.cell? ⟨g, j * 10 + 5, none⟩ = some (.int .i64 x.v.i) := HE.out.todo j _ (Nat.le_refl _) hcs 5 _ rfl
        have c6 : wr.cell? ⟨g, j * 10 + 6, none⟩ = some (.string x.v.s) := HE.out.todo j _ (Nat.le_refl _) hcs 6 _ rfl
        have c7 : wr.cell? ⟨g, j * 10 + 7, none⟩ = some (.bool x.v.b) := HE.out.todo j _ (Nat.le_refl _) hcs 7 _ rfl
        have c8 : wr.cell? ⟨g, j * 10 + 8, none⟩ = some (.int .i64 x.l) := HE.out.todo j _ (Nat.le_refl _) hcs 8 _ rfl
        have c9 : wr.cell? ⟨g, j * 10 + 9, none⟩ = some (.int .i64 x.c) := HE.out.todo j _ (Nat.le_refl _) hcs 9 _ rfl
        have HB2 : Hid (Below wr.heap.size wr (wr.alloc (.cells #[.int .i64 x.op, .int .i64 x.a, .int .i64 x.b, .string x.n, .int .i64 x.v.k, .int .i64 x.v.i, .string x.v.s, .bool x.v.b, .int .i64 x.l, .int .i64 x.c] 53))) := Lib.hid ((Below.refl wr.heap.size wr).alloc (Nat.le_refl _) _)
        have HK := Lib.hid (fun w1 => plainEx_calls x w1)
        clear hx hcs hp
        go_wp2_with fail
        refine (HK.out _).mono ?_
        rintro e w2 ⟨rfl, k2⟩
        have hb3 := HB2.out.trans (k2.mono (by simp))
        have hE2 := HE.out.call hb3
        have HE2 := Lib.hid hE2
        have HG2 := Lib.hid (HG.out.belowF hb3)
        have d0 : w2.cell? ⟨g, j * 10, none⟩ = some (.int .i64 x.op) := hE2.todo j _ (Nat.le_refl _) HCS.out 0 _ rfl
        have f0 : w2.frozen? ⟨g, j * 10, none⟩ = false := hE2.frozen (j * 10)
        have d1 : w2.cell? ⟨g, j * 10 + 1, none⟩ = some (.int .i64 x.a) := hE2.todo j _ (Nat.le_refl _) HCS.out 1 _ rfl
        have f1 : w2.frozen? ⟨g, j * 10 + 1, none⟩ = false := hE2.frozen (j * 10 + 1)
        have d2 : w2.cell? ⟨g, j * 10 + 2, none⟩ = some (.int .i64 x.b) := hE2.todo j _ (Nat.le_refl _) HCS.out 2 _ rfl
        have f2 : w2.frozen? ⟨g, j * 10 + 2, none⟩ = false := hE2.frozen (j * 10 + 2)
        have d3 : w2.cell? ⟨g, j * 10 + 3, none⟩ = some (.string x.n) := hE2.todo j _ (Nat.le_refl _) HCS.out 3 _ rfl
        have f3 : w2.frozen? ⟨g, j * 10 + 3, none⟩ = false := hE2.frozen (j * 10 + 3)
        have d4 : w2.cell? ⟨g, j * 10 + 4, none⟩ = some (.int .i64 x.v.k) := hE2.todo j _ (Nat.le_refl _) HCS.out 4 _ rfl
        have f4 : w2.frozen? ⟨g, j * 10 + 4, none⟩ = false := hE2.frozen (j * 10 + 4)
        have d5 : w2.cell? ⟨g, j * 10 + 5, none⟩ = some (.int .i64 x.v.i) := hE2.todo j _ (Nat.le_refl _) HCS.out 5 _ rfl
        have f5 : w2.frozen? ⟨g, j * 10 + 5, none⟩ = false := hE2.frozen (j * 10 + 5)
        have d6 : w2.cell? ⟨g, j * 10 + 6, none⟩ = some (.string x.v.s) := hE2.todo j _ (Nat.le_refl _) HCS.out 6 _ rfl
        have f6 : w2.frozen? ⟨g, j * 10 + 6, none⟩ = false := hE2.frozen (j * 10 + 6)
        have d7 : w2.cell? ⟨g, j * 10 + 7, none⟩ = some (.bool x.v.b) := hE2.todo j _ (Nat.le_refl _) HCS.out 7 _ rfl
        have f7 : w2.frozen? ⟨g, j * 10 + 7, none⟩ = false := hE2.frozen (j * 10 + 7)
        have d8 : w2.cell? ⟨g, j * 10 + 8, none⟩ = some (.int .i64 x.l) := hE2.todo j _ (Nat.le_refl _) HCS.out 8 _ rfl
        have f8 : w2.frozen? ⟨g, j * 10 + 8, none⟩ = false := hE2.frozen (j * 10 + 8)
        have d9 : w2.cell? ⟨g, j * 10 + 9, none⟩ = some (.int .i64 x.c) := hE2.todo j _ (Nat.le_refl _) HCS.out 9 _ rfl
        have f9 : w2.frozen? ⟨g, j * 10 + 9, none⟩ = false := hE2.frozen (j * 10 + 9)
        clear hE2 hb3 k2
        clear c0 c1 c2 c3 c4 c5 c6 c7 c8 c9
        go_wp2_with fail
        go_roundw
        case rel => exact ⟨j + 1, hlt, by go_num, Lib.hid (HE2.out.put [.int .i64 x.op, .int .i64 x.a, .int .i64 x.b, .string x.n, .int .i64 x.v.k, .int .i64 x.v.i, .string x.v.s, .bool x.v.b, .int .i64 0, .int .i64 0] rfl), Lib.hid (gin_put (vs := [.int .i64 x.op, .int .i64 x.a, .int .i64 x.b, .string x.n, .int .i64 x.v.k, .int .i64 x.v.i, .string x.v.s, .bool x.v.b, .int .i64 0, .int .i64 0]) HG2.out HE2.out HCS.out rfl HMX.out rfl ⟨rfl, HP.out⟩ (fun _ _ h => RF.any h) (by omega))⟩
        case measure => simp [intOf] <;> omega

set_option maxHeartbeats 4000000 in
set_option maxRecDepth 100000 in
theorem eachSe_calls {T : TypeId} {O : Prop} (a : Option Addr) (len cap : Nat) (L : List Se) (w : World) (h : GIn rSe T O 4 w a len L) (hl : len ≤ 1000000) :
    Calls Tryz.prog 77 #[.slice a len cap, .func (.func 78) #[] #[]] w (Made rSe 92 4 (L.map plSe) w) := by
  have eg : ∀ args w, (callFunc 78 args).run Tryz.prog w = .ok (.enter 78 args) w := enters_of Tryz.func78 (by kernel_rfl) rfl
  cases a with
  | none =>
    obtain ⟨rfl, rfl⟩ := gin_none h
    clear h
    go_enter Tryz.func77, Tryz.ntmps77
    go_wp2_with fail
    refine (cloneSe_nil 0 cap w).mono ?_
    rintro e w1 ⟨rfl, rfl⟩
    go_wp2_with fail
    go_loopw [12] (fun i wr => i = .int .i64 0 ∧ Hid (Below w.heap.size w wr)) (fun _ _ => 0)
    case atStart => exact ⟨rfl, Lib.hid (Below.refl _ _)⟩
    case round =>
      obtain ⟨rfl, HB⟩ := hrel
      go_wp2_with fail
      go_ret
      exact ⟨none, 0, rfl, GIn.nil, HB.out⟩
  | some ad =>
    obtain ⟨css, hgs, hcs⟩ := gin_out h (by decide) ad rfl
    have HL := Lib.hid h.leng
    have HGS := Lib.hid hgs
    have hfl : css.flatten.length = len * 4 := by rw [flat_len _ hgs.all, hgs.leng, h.leng]
    have hone : ∀ u ∈ css.flatten, u.oneCell' = true := gs_one hgs (fun cs x hr u hu => by
      rw [hr.1] at hu
      simp only [seC, List.mem_cons, List.not_mem_nil, or_false] at hu
      rcases hu with rfl | rfl | rfl | rfl <;> rfl)
    have HC := Lib.hid (cloneSe_some ad len cap css.flatten w hfl hcs hone hl)
    clear h hcs hfl hone
    go_enter Tryz.func77, Tryz.ntmps77
    go_wp2_with fail
    refine HC.out.mono ?_
    rintro e w1 ⟨v, rfl, ho, hne, hb⟩
    obtain ⟨g, c, rfl, hlc, hE⟩ := Ea.start ho hne hb hgs.all
    have HE0 := Lib.hid hE
    clear hgs ho hne hb hE HC hlc
    go_wp2_with fail
    go_loopw [12] (fun i wr => ∃ (j : Nat), j ≤ len ∧ i = .int .i64 j ∧ Hid (Ea 92 4 w g css j wr) ∧ Hid (GIn rSe 92 True 4 wr (some ⟨g, 0, none⟩) j ((L.map plSe).take j))) (fun i _ => len - (intOf i).toNat)
    case atStart => exact ⟨0, Nat.zero_le _, rfl, HE0, Lib.hid GIn.nil⟩
    case round =>
      obtain ⟨j, hj, rfl, HE, HG⟩ := hrel
      by_cases hlt : j < len
      case neg =>
        obtain rfl : j = len := by omega
        have hml : (L.map plSe).length = j := by rw [List.length_map, HL.out]
        have HG2 : Hid (GIn rSe 92 True 4 wr (some ⟨g, 0, none⟩) j (L.map plSe)) := Lib.hid (by have := HG.out; rwa [List.take_of_length_le (by omega)] at this)
        have HM := Lib.hid hml
        clear hml
        go_wp2_with fail
        go_ret
        exact ⟨some ⟨g, 0, none⟩, c, by rw [HM.out]; rfl, by rw [HM.out]; exact HG2.out, HE.out.below⟩
      case pos =>
        obtain ⟨x, hx⟩ := at_some HL.out hlt
        obtain ⟨cs, hcs, hr, hp⟩ := HGS.out.at' j x hx
        subst hr
        have HCS := Lib.hid hcs
        have HMX := Lib.hid (take_map (f := plSe) hx)
        have HP := Lib.hid hp
        have c0 : wr.cell? ⟨g, j * 4, none⟩ = some (.string x.n.t) := HE.out.todo j _ (Nat.le_refl _) hcs 0 _ rfl
        have c1 : wr.cell? ⟨g, j * 4 + 1, none⟩ = some (.int .i64 x.n.l) := HE.out.todo j _ (Nat.le_refl _) hcs 1 _ rfl
        have c2 : wr.cell? ⟨g, j * 4 + 2, none⟩ = some (.int .i64 x.n.c) := HE.out.todo j _ (Nat.le_refl _) hcs 2 _ rfl
        have c3 : wr.cell? ⟨g, j * 4 + 3, none⟩ = some (.int .i64 x.e) := HE.out.todo j _ (Nat.le_refl _) hcs 3 _ rfl
        have HB2 : Hid (Below wr.heap.size wr (wr.alloc (.cells #[.string x.n.t, .int .i64 x.n.l, .int .i64 x.n.c, .int .i64 x.e] 92))) := Lib.hid ((Below.refl wr.heap.size wr).alloc (Nat.le_refl _) _)
        have HK := Lib.hid (fun w1 => plainSe_calls x w1)
        clear hx hcs hp
        go_wp2_with fail
        refine (HK.out _).mono ?_
        rintro e w2 ⟨rfl, k2⟩
        have hb3 := HB2.out.trans (k2.mono (by simp))
        have hE2 := HE.out.call hb3
        have HE2 := Lib.hid hE2
        have HG2 := Lib.hid (HG.out.belowF hb3)
        have d0 : w2.cell? ⟨g, j * 4, none⟩ = some (.string x.n.t) := hE2.todo j _ (Nat.le_refl _) HCS.out 0 _ rfl
        have f0 : w2.frozen? ⟨g, j * 4, none⟩ = false := hE2.frozen (j * 4)
        have d1 : w2.cell? ⟨g, j * 4 + 1, none⟩ = some (.int .i64 x.n.l) := hE2.todo j _ (Nat.le_refl _) HCS.out 1 _ rfl
        have f1 : w2.frozen? ⟨g, j * 4 + 1, none⟩ = false := hE2.frozen (j * 4 + 1)
        have d2 : w2.cell? ⟨g, j * 4 + 2, none⟩ = some (.int .i64 x.n.c) := hE2.todo j _ (Nat.le_refl _) HCS.out 2 _ rfl
        have f2 : w2.frozen? ⟨g, j * 4 + 2, none⟩ = false := hE2.frozen (j * 4 + 2)
        have d3 : w2.cell? ⟨g, j * 4 + 3, none⟩ = some (.int .i64 x.e) := hE2.todo j _ (Nat.le_refl _) HCS.out 3 _ rfl
        have f3 : w2.frozen? ⟨g, j * 4 + 3, none⟩ = false := hE2.frozen (j * 4 + 3)
        clear hE2 hb3 k2
        clear c0 c1 c2 c3
        go_wp2_with fail
        go_roundw
        case rel => exact ⟨j + 1, hlt, by go_num, Lib.hid (HE2.out.put [.string x.n.t, .int .i64 0, .int .i64 0, .int .i64 x.e] rfl), Lib.hid (gin_put (vs := [.string x.n.t, .int .i64 0, .int .i64 0, .int .i64 x.e]) HG2.out HE2.out HCS.out rfl HMX.out rfl ⟨rfl, HP.out⟩ (fun _ _ h => RF.any h) (by omega))⟩
        case measure => simp [intOf] <;> omega

set_option maxHeartbeats 4000000 in
set_option maxRecDepth 100000 in
theorem eachQu_calls {T : TypeId} {O : Prop} (a : Option Addr) (len cap : Nat) (L : List Qu) (w : World) (h : GIn rQu T O 5 w a len L) (hl : len ≤ 1000000) :
    Calls Tryz.prog 23 #[.slice a len cap, .func (.func 24) #[] #[]] w (Made rQu 57 5 (L.map plQu) w) := by
  have eg : ∀ args w, (callFunc 24 args).run Tryz.prog w = .ok (.enter 24 args) w := enters_of Tryz.func24 (by kernel_rfl) rfl
  cases a with
  | none =>
    obtain ⟨rfl, rfl⟩ := gin_none h
    clear h
    go_enter Tryz.func23, Tryz.ntmps23
    go_wp2_with fail
    refine (cloneQu_nil 0 cap w).mono ?_
    rintro e w1 ⟨rfl, rfl⟩
    go_wp2_with fail
    go_loopw [12] (fun i wr => i = .int .i64 0 ∧ Hid (Below w.heap.size w wr)) (fun _ _ => 0)
    case atStart => exact ⟨rfl, Lib.hid (Below.refl _ _)⟩
    case round =>
      obtain ⟨rfl, HB⟩ := hrel
      go_wp2_with fail
      go_ret
      exact ⟨none, 0, rfl, GIn.nil, HB.out⟩
  | some ad =>
    obtain ⟨css, hgs, hcs⟩ := gin_out h (by decide) ad rfl
    have HL := Lib.hid h.leng
    have HGS := Lib.hid hgs
    have hfl : css.flatten.length = len * 5 := by rw [flat_len _ hgs.all, hgs.leng, h.leng]
    have hone : ∀ u ∈ css.flatten, u.oneCell' = true := gs_one hgs (fun cs x hr u hu => by
      rw [hr.1] at hu
      simp only [quC, List.mem_cons, List.not_mem_nil, or_false] at hu
      rcases hu with rfl | rfl | rfl | rfl | rfl <;> rfl)
    have HC := Lib.hid (cloneQu_some ad len cap css.flatten w hfl hcs hone hl)
    clear h hcs hfl hone
    go_enter Tryz.func23, Tryz.ntmps23
    go_wp2_with fail
    refine HC.out.mono ?_
    rintro e w1 ⟨v, rfl, ho, hne, hb⟩
    obtain ⟨g, c, rfl, hlc, hE⟩ := Ea.start ho hne hb hgs.all
    have HE0 := Lib.hid hE
    clear hgs ho hne hb hE HC hlc
    go_wp2_with fail
    go_loopw [12] (fun i wr => ∃ (j : Nat), j ≤ len ∧ i = .int .i64 j ∧ Hid (Ea 57 5 w g css j wr) ∧ Hid (GIn rQu 57 True 5 wr (some ⟨g, 0, none⟩) j ((L.map plQu).take j))) (fun i _ => len - (intOf i).toNat)
    case atStart => exact ⟨0, Nat.zero_le _, rfl, HE0, Lib.hid GIn.nil⟩
    case round =>
      obtain ⟨j, hj, rfl, HE, HG⟩ := hrel
      by_cases hlt : j < len
      case neg =>
        obtain rfl : j = len := by omega
        have hml : (L.map plQu).length = j := by rw [List.length_map, HL.out]
        have HG2 : Hid (GIn rQu 57 True 5 wr (some ⟨g, 0, none⟩) j (L.map plQu)) := Lib.hid (by have := HG.out; rwa [List.take_of_length_le (by omega)] at this)
        have HM := Lib.hid hml
        clear hml
        go_wp2_with fail
        go_ret
        exact ⟨some ⟨g, 0, none⟩, c, by rw [HM.out]; rfl, by rw [HM.out]; exact HG2.out, HE.out.below⟩
      case pos =>
        obtain ⟨x, hx⟩ := at_some HL.out hlt
        obtain ⟨cs, hcs, hr, hp⟩ := HGS.out.at' j x hx
        subst hr
        have HCS := Lib.hid hcs
        have HMX := Lib.hid (take_map (f := plQu) hx)
        have HP := Lib.hid hp
        have c0 : wr.cell? ⟨g, j * 5, none⟩ = some (.bool x.all) := HE.out.todo j _ (Nat.le_refl _) hcs 0 _ rfl
        have c1 : wr.cell? ⟨g, j * 5 + 1, none⟩ = some (.string x.n.t) := HE.out.todo j _ (Nat.le_refl _) hcs 1 _ rfl
        have c2 : wr.cell? ⟨g, j * 5 + 2, none⟩ = some (.int .i64 x.n.l) := HE.out.todo j _ (Nat.le_refl _) hcs 2 _ rfl
        have c3 : wr.cell? ⟨g, j * 5 + 3, none⟩ = some (.int .i64 x.n.c) := HE.out.todo j _ (Nat.le_refl _) hcs 3 _ rfl
        have c4 : wr.cell? ⟨g, j * 5 + 4, none⟩ = some (.int .i64 x.t) := HE.out.todo j _ (Nat.le_refl _) hcs 4 _ rfl
        have HB2 : Hid (Below wr.heap.size wr (wr.alloc (.cells #[.bool x.all, .string x.n.t, .int .i64 x.n.l, .int .i64 x.n.c, .int .i64 x.t] 57))) := Lib.hid ((Below.refl wr.heap.size wr).alloc (Nat.le_refl _) _)
        have HK := Lib.hid (fun w1 => plainQu_calls x w1)
        clear hx hcs hp
        go_wp2_with fail
        refine (HK.out _).mono ?_
        rintro e w2 ⟨rfl, k2⟩
        have hb3 := HB2.out.trans (k2.mono (by simp))
        have hE2 := HE.out.call hb3
        have HE2 := Lib.hid hE2
        have HG2 := Lib.hid (HG.out.belowF hb3)
        have d0 : w2.cell? ⟨g, j * 5, none⟩ = some (.bool x.all) := hE2.todo j _ (Nat.le_refl _) HCS.out 0 _ rfl
        have f0 : w2.frozen? ⟨g, j * 5, none⟩ = false := hE2.frozen (j * 5)
        have d1 : w2.cell? ⟨g, j * 5 + 1, none⟩ = some (.string x.n.t) := hE2.todo j _ (Nat.le_refl _) HCS.out 1 _ rfl
        have f1 : w2.frozen? ⟨g, j * 5 + 1, none⟩ = false := hE2.frozen (j * 5 + 1)
        have d2 : w2.cell? ⟨g, j * 5 + 2, none⟩ = some (.int .i64 x.n.l) := hE2.todo j _ (Nat.le_refl _) HCS.out 2 _ rfl
        have f2 : w2.frozen? ⟨g, j * 5 + 2, none⟩ = false := hE2.frozen (j * 5 + 2)
        have d3 : w2.cell? ⟨g, j * 5 + 3, none⟩ = some (.int .i64 x.n.c) := hE2.todo j _ (Nat.le_refl _) HCS.out 3 _ rfl
        have f3 : w2.frozen? ⟨g, j * 5 + 3, none⟩ = false := hE2.frozen (j * 5 + 3)
        have d4 : w2.cell? ⟨g, j * 5 + 4, none⟩ = some (.int .i64 x.t) := hE2.todo j _ (Nat.le_refl _) HCS.out 4 _ rfl
        have f4 : w2.frozen? ⟨g, j * 5 + 4, none⟩ = false := hE2.frozen (j * 5 + 4)
        clear hE2 hb3 k2
        clear c0 c1 c2 c3 c4
        go_wp2_with fail
        go_roundw
        case rel => exact ⟨j + 1, hlt, by go_num, Lib.hid (HE2.out.put [.bool x.all, .string x.n.t, .int .i64 0, .int .i64 0, .int .i64 x.t] rfl), Lib.hid (gin_put (vs := [.bool x.all, .string x.n.t, .int .i64 0, .int .i64 0, .int .i64 x.t]) HG2.out HE2.out HCS.out rfl HMX.out rfl ⟨rfl, HP.out⟩ (fun _ _ h => RF.any h) (by omega))⟩
        case measure => simp [intOf] <;> omega

set_option maxHeartbeats 4000000 in
set_option maxRecDepth 100000 in
theorem eachFr_calls {T : TypeId} {O : Prop} (a : Option Addr) (len cap : Nat) (L : List Fr) (w : World) (h : GIn rFr T O 7 w a len L) (hl : len ≤ 1000000) :
    Calls Tryz.prog 25 #[.slice a len cap, .func (.func 26) #[] #[]] w (Made rFr 43 7 (L.map plFr) w) := by
  have eg : ∀ args w, (callFunc 26 args).run Tryz.prog w = .ok (.enter 26 args) w := enters_of Tryz.func26 (by kernel_rfl) rfl
  cases a with
  | none =>
    obtain ⟨rfl, rfl⟩ := gin_none h
    clear h
    go_enter Tryz.func25, Tryz.ntmps25
    go_wp2_with fail
    refine (cloneFr_nil 0 cap w).mono ?_
    rintro e w1 ⟨rfl, rfl⟩
    go_wp2_with fail
    go_loopw [12] (fun i wr => i = .int .i64 0 ∧ Hid (Below w.heap.size w wr)) (fun _ _ => 0)
    case atStart => exact ⟨rfl, Lib.hid (Below.refl _ _)⟩
    case round =>
      obtain ⟨rfl, HB⟩ := hrel
      go_wp2_with fail
      go_ret
      exact ⟨none, 0, rfl, GIn.nil, HB.out⟩
  | some ad =>
    obtain ⟨css, hgs, hcs⟩ := gin_out h (by decide) ad rfl
    have HL := Lib.hid h.leng
    have HGS := Lib.hid hgs
    have hfl : css.flatten.length = len * 7 := by rw [flat_len _ hgs.all, hgs.leng, h.leng]
    have hone : ∀ u ∈ css.flatten, u.oneCell' = true := gs_one hgs (fun cs x hr u hu => by
      rw [hr.1] at hu
      simp only [frC, List.mem_cons, List.not_mem_nil, or_false] at hu
      rcases hu with rfl | rfl | rfl | rfl | rfl | rfl | rfl <;> rfl)
    have HC := Lib.hid (cloneFr_some ad len cap css.flatten w hfl hcs hone hl)
    clear h hcs hfl hone
    go_enter Tryz.func25, Tryz.ntmps25
    go_wp2_with fail
    refine HC.out.mono ?_
    rintro e w1 ⟨v, rfl, ho, hne, hb⟩
    obtain ⟨g, c, rfl, hlc, hE⟩ := Ea.start ho hne hb hgs.all
    have HE0 := Lib.hid hE
    clear hgs ho hne hb hE HC hlc
    go_wp2_with fail
    go_loopw [12] (fun i wr => ∃ (j : Nat), j ≤ len ∧ i = .int .i64 j ∧ Hid (Ea 43 7 w g css j wr) ∧ Hid (GIn rFr 43 True 7 wr (some ⟨g, 0, none⟩) j ((L.map plFr).take j))) (fun i _ => len - (intOf i).toNat)
    case atStart => exact ⟨0, Nat.zero_le _, rfl, HE0, Lib.hid GIn.nil⟩
    case round =>
      obtain ⟨j, hj, rfl, HE, HG⟩ := hrel
      by_cases hlt : j < len
      case neg =>
        obtain rfl : j = len := by omega
        have hml : (L.map plFr).length = j := by rw [List.length_map, HL.out]
        have HG2 : Hid (GIn rFr 43 True 7 wr (some ⟨g, 0, none⟩) j (L.map plFr)) := Lib.hid (by have := HG.out; rwa [List.take_of_length_le (by omega)] at this)
        have HM := Lib.hid hml
        clear hml
        go_wp2_with fail
        go_ret
        exact ⟨some ⟨g, 0, none⟩, c, by rw [HM.out]; rfl, by rw [HM.out]; exact HG2.out, HE.out.below⟩
      case pos =>
        obtain ⟨x, hx⟩ := at_some HL.out hlt
        obtain ⟨cs, hcs, hr, hp⟩ := HGS.out.at' j x hx
        subst hr
        have HCS := Lib.hid hcs
        have HMX := Lib.hid (take_map (f := plFr) hx)
        have HP := Lib.hid hp
        have c0 : wr.cell? ⟨g, j * 7, none⟩ = some (.string x.n.t) := HE.out.todo j _ (Nat.le_refl _) hcs 0 _ rfl
        have c1 : wr.cell? ⟨g, j * 7 + 1, none⟩ = some (.int .i64 x.n.l) := HE.out.todo j _ (Nat.le_refl _) hcs 1 _ rfl
        have c2 : wr.cell? ⟨g, j * 7 + 2, none⟩ = some (.int .i64 x.n.c) := HE.out.todo j _ (Nat.le_refl _) hcs 2 _ rfl
        have c3 : wr.cell? ⟨g, j * 7 + 3, none⟩ = some (.int .i64 x.v.k) := HE.out.todo j _ (Nat.le_refl _) hcs 3 _ rfl
        have c4 : wr.cell? ⟨g, j * 7 + 4, none⟩ = some (.int .i64 x.v.i) := HE.out.todo j _ (Nat.le_refl _) hcs 4 _ rfl
        have c5 : wr.cell? ⟨g, j * 7 + 5, none⟩ = some (.string x.v.s) := HE.out.todo j _ (Nat.le_refl _) hcs 5 _ rfl
        have c6 : wr.cell? ⟨g, j * 7 + 6, none⟩ = some (.bool x.v.b) := HE.out.todo j _ (Nat.le_refl _) hcs 6 _ rfl
        have HB2 : Hid (Below wr.heap.size wr (wr.alloc (.cells #[.string x.n.t, .int .i64 x.n.l, .int .i64 x.n.c, .int .i64 x.v.k, .int .i64 x.v.i, .string x.v.s, .bool x.v.b] 43))) := Lib.hid ((Below.refl wr.heap.size wr).alloc (Nat.le_refl _) _)
        have HK := Lib.hid (fun w1 => plainFr_calls x w1)
        clear hx hcs hp
        go_wp2_with fail
        refine (HK.out _).mono ?_
        rintro e w2 ⟨rfl, k2⟩
        have hb3 := HB2.out.trans (k2.mono (by simp))
        have hE2 := HE.out.call hb3
        have HE2 := Lib.hid hE2
        have HG2 := Lib.hid (HG.out.belowF hb3)
        have d0 : w2.cell? ⟨g, j * 7, none⟩ = some (.string x.n.t) := hE2.todo j _ (Nat.le_refl _) HCS.out 0 _ rfl
        have f0 : w2.frozen? ⟨g, j * 7, none⟩ = false := hE2.frozen (j * 7)
        have d1 : w2.cell? ⟨g, j * 7 + 1, none⟩ = some (.int .i64 x.n.l) := hE2.todo j _ (Nat.le_refl _) HCS.out 1 _ rfl
        have f1 : w2.frozen? ⟨g, j * 7 + 1, none⟩ = false := hE2.frozen (j * 7 + 1)
        have d2 : w2.cell? ⟨g, j * 7 + 2, none⟩ = some (.int .i64 x.n.c) := hE2.todo j _ (Nat.le_refl _) HCS.out 2 _ rfl
        have f2 : w2.frozen? ⟨g, j * 7 + 2, none⟩ = false := hE2.frozen (j * 7 + 2)
        have d3 : w2.cell? ⟨g, j * 7 + 3, none⟩ = some (.int .i64 x.v.k) := hE2.todo j _ (Nat.le_refl _) HCS.out 3 _ rfl
        have f3 : w2.frozen? ⟨g, j * 7 + 3, none⟩ = false := hE2.frozen (j * 7 + 3)
        have d4 : w2.cell? ⟨g, j * 7 + 4, none⟩ = some (.int .i64 x.v.i) := hE2.todo j _ (Nat.le_refl _) HCS.out 4 _ rfl
        have f4 : w2.frozen? ⟨g, j * 7 + 4, none⟩ = false := hE2.frozen (j * 7 + 4)
        have d5 : w2.cell? ⟨g, j * 7 + 5, none⟩ = some (.string x.v.s) := hE2.todo j _ (Nat.le_refl _) HCS.out 5 _ rfl
        have f5 : w2.frozen? ⟨g, j * 7 + 5, none⟩ = false := hE2.frozen (j * 7 + 5)
        have d6 : w2.cell? ⟨g, j * 7 + 6, none⟩ = some (.bool x.v.b) := hE2.todo j _ (Nat.le_refl _) HCS.out 6 _ rfl
        have f6 : w2.frozen? ⟨g, j * 7 + 6, none⟩ = false := hE2.frozen (j * 7 + 6)
        clear hE2 hb3 k2
        clear c0 c1 c2 c3 c4 c5 c6
        go_wp2_with fail
        go_roundw
        case rel => exact ⟨j + 1, hlt, by go_num, Lib.hid (HE2.out.put [.string x.n.t, .int .i64 0, .int .i64 0, .int .i64 x.v.k, .int .i64 x.v.i, .string x.v.s, .bool x.v.b] rfl), Lib.hid (gin_put (vs := [.string x.n.t, .int .i64 0, .int .i64 0, .int .i64 x.v.k, .int .i64 x.v.i, .string x.v.s, .bool x.v.b]) HG2.out HE2.out HCS.out rfl HMX.out rfl ⟨rfl, HP.out⟩ (fun _ _ h => RF.any h) (by omega))⟩
        case measure => simp [intOf] <;> omega

set_option maxHeartbeats 4000000 in
set_option maxRecDepth 100000 in
theorem eachSta_calls {T : TypeId} {O : Prop} (a : Option Addr) (len cap : Nat) (L : List Sta) (w : World) (h : GIn rSta T O 5 w a len L) (hl : len ≤ 1000000) :
    Calls Tryz.prog 27 #[.slice a len cap, .func (.func 28) #[] #[]] w (Made rSta 60 5 (L.map plSta) w) := by
  have eg : ∀ args w, (callFunc 28 args).run Tryz.prog w = .ok (.enter 28 args) w := enters_of Tryz.func28 (by kernel_rfl) rfl
  cases a with
  | none =>
    obtain ⟨rfl, rfl⟩ := gin_none h
    clear h
    go_enter Tryz.func27, Tryz.ntmps27
    go_wp2_with fail
    refine (cloneSta_nil 0 cap w).mono ?_
    rintro e w1 ⟨rfl, rfl⟩
    go_wp2_with fail
    go_loopw [12] (fun i wr => i = .int .i64 0 ∧ Hid (Below w.heap.size w wr)) (fun _ _ => 0)
    case atStart => exact ⟨rfl, Lib.hid (Below.refl _ _)⟩
    case round =>
      obtain ⟨rfl, HB⟩ := hrel
      go_wp2_with fail
      go_ret
      exact ⟨none, 0, rfl, GIn.nil, HB.out⟩
  | some ad =>
    obtain ⟨css, hgs, hcs⟩ := gin_out h (by decide) ad rfl
    have HL := Lib.hid h.leng
    have HGS := Lib.hid hgs
    have hfl : css.flatten.length = len * 5 := by rw [flat_len _ hgs.all, hgs.leng, h.leng]
    have hone : ∀ u ∈ css.flatten, u.oneCell' = true := gs_one hgs (fun cs x hr u hu => by
      rw [hr.1] at hu
      simp only [staC, List.mem_cons, List.not_mem_nil, or_false] at hu
      rcases hu with rfl | rfl | rfl | rfl | rfl <;> rfl)
    have HC := Lib.hid (cloneSta_some ad len cap css.flatten w hfl hcs hone hl)
    clear h hcs hfl hone
    go_enter Tryz.func27, Tryz.ntmps27
    go_wp2_with fail
    refine HC.out.mono ?_
    rintro e w1 ⟨v, rfl, ho, hne, hb⟩
    obtain ⟨g, c, rfl, hlc, hE⟩ := Ea.start ho hne hb hgs.all
    have HE0 := Lib.hid hE
    clear hgs ho hne hb hE HC hlc
    go_wp2_with fail
    go_loopw [12] (fun i wr => ∃ (j : Nat), j ≤ len ∧ i = .int .i64 j ∧ Hid (Ea 60 5 w g css j wr) ∧ Hid (GIn rSta 60 True 5 wr (some ⟨g, 0, none⟩) j ((L.map plSta).take j))) (fun i _ => len - (intOf i).toNat)
    case atStart => exact ⟨0, Nat.zero_le _, rfl, HE0, Lib.hid GIn.nil⟩
    case round =>
      obtain ⟨j, hj, rfl, HE, HG⟩ := hrel
      by_cases hlt : j < len
      case neg =>
        obtain rfl : j = len := by omega
        have hml : (L.map plSta).length = j := by rw [List.length_map, HL.out]
        have HG2 : Hid (GIn rSta 60 True 5 wr (some ⟨g, 0, none⟩) j (L.map plSta)) := Lib.hid (by have := HG.out; rwa [List.take_of_length_le (by omega)] at this)
        have HM := Lib.hid hml
        clear hml
        go_wp2_with fail
        go_ret
        exact ⟨some ⟨g, 0, none⟩, c, by rw [HM.out]; rfl, by rw [HM.out]; exact HG2.out, HE.out.below⟩
      case pos =>
        obtain ⟨x, hx⟩ := at_some HL.out hlt
        obtain ⟨cs, hcs, hr, hp⟩ := HGS.out.at' j x hx
        subst hr
        have HCS := Lib.hid hcs
        have HMX := Lib.hid (take_map (f := plSta) hx)
        have HP := Lib.hid hp
        have c0 : wr.cell? ⟨g, j * 5, none⟩ = some (.string x.n.t) := HE.out.todo j _ (Nat.le_refl _) hcs 0 _ rfl
        have c1 : wr.cell? ⟨g, j * 5 + 1, none⟩ = some (.int .i64 x.n.l) := HE.out.todo j _ (Nat.le_refl _) hcs 1 _ rfl
        have c2 : wr.cell? ⟨g, j * 5 + 2, none⟩ = some (.int .i64 x.n.c) := HE.out.todo j _ (Nat.le_refl _) hcs 2 _ rfl
        have c3 : wr.cell? ⟨g, j * 5 + 3, none⟩ = some (.bool x.nx) := HE.out.todo j _ (Nat.le_refl _) hcs 3 _ rfl
        have c4 : wr.cell? ⟨g, j * 5 + 4, none⟩ = some (.bool x.ac) := HE.out.todo j _ (Nat.le_refl _) hcs 4 _ rfl
        have HB2 : Hid (Below wr.heap.size wr (wr.alloc (.cells #[.string x.n.t, .int .i64 x.n.l, .int .i64 x.n.c, .bool x.nx, .bool x.ac] 60))) := Lib.hid ((Below.refl wr.heap.size wr).alloc (Nat.le_refl _) _)
        have HK := Lib.hid (fun w1 => plainSta_calls x w1)
        clear hx hcs hp
        go_wp2_with fail
        refine (HK.out _).mono ?_
        rintro e w2 ⟨rfl, k2⟩
        have hb3 := HB2.out.trans (k2.mono (by simp))
        have hE2 := HE.out.call hb3
        have HE2 := Lib.hid hE2
        have HG2 := Lib.hid (HG.out.belowF hb3)
        have d0 : w2.cell? ⟨g, j * 5, none⟩ = some (.string x.n.t) := hE2.todo j _ (Nat.le_refl _) HCS.out 0 _ rfl
        have f0 : w2.frozen? ⟨g, j * 5, none⟩ = false := hE2.frozen (j * 5)
        have d1 : w2.cell? ⟨g, j * 5 + 1, none⟩ = some (.int .i64 x.n.l) := hE2.todo j _ (Nat.le_refl _) HCS.out 1 _ rfl
        have f1 : w2.frozen? ⟨g, j * 5 + 1, none⟩ = false := hE2.frozen (j * 5 + 1)
        have d2 : w2.cell? ⟨g, j * 5 + 2, none⟩ = some (.int .i64 x.n.c) := hE2.todo j _ (Nat.le_refl _) HCS.out 2 _ rfl
        have f2 : w2.frozen? ⟨g, j * 5 + 2, none⟩ = false := hE2.frozen (j * 5 + 2)
        have d3 : w2.cell? ⟨g, j * 5 + 3, none⟩ = some (.bool x.nx) := hE2.todo j _ (Nat.le_refl _) HCS.out 3 _ rfl
        have f3 : w2.frozen? ⟨g, j * 5 + 3, none⟩ = false := hE2.frozen (j * 5 + 3)
        have d4 : w2.cell? ⟨g, j * 5 + 4, none⟩ = some (.bool x.ac) := hE2.todo j _ (Nat.le_refl _) HCS.out 4 _ rfl
        have f4 : w2.frozen? ⟨g, j * 5 + 4, none⟩ = false := hE2.frozen (j * 5 + 4)
        clear hE2 hb3 k2
        clear c0 c1 c2 c3 c4
        go_wp2_with fail
        go_roundw
        case rel => exact ⟨j + 1, hlt, by go_num, Lib.hid (HE2.out.put [.string x.n.t, .int .i64 0, .int .i64 0, .bool x.nx, .bool x.ac] rfl), Lib.hid (gin_put (vs := [.string x.n.t, .int .i64 0, .int .i64 0, .bool x.nx, .bool x.ac]) HG2.out HE2.out HCS.out rfl HMX.out rfl ⟨rfl, HP.out⟩ (fun _ _ h => RF.any h) (by omega))⟩
        case measure => simp [intOf] <;> omega
end Go.Proofs.YtojabkhfkbfeaaaGreatDoor
