/- What slices.Compact does with a row of slots that may be written. -/
import Derived.Test.YtjohiehlnbgdaaaSlotUnion
import Derived.Test.YtjohiehlnbgdaaaSlotRight
import Derived.Shelf.GgSortFunc.RowK
import Derived.Lib.SliceRun
import Derived.Lib.SlicesCompact
namespace Go.Proofs.Ytjohiehlnbgdaaa
open Go.RowKit Go.Sort
set_option linter.unusedVariables false

theorem setMany_one {α : Type} [Inhabited α] (enc : α → List Value) (k : Nat) (hk : ∀ x, (enc x).length = k) (d : Array α) (i : Nat) (x : α) (hi : i < d.size) :
    setMany (flatK enc k d) (i * k) (enc x) = flatK enc k (d.setIfInBounds i x) := by
  refine ext_get! (by simp) fun t ht => ?_
  have ht' : t < d.size * k := by simpa using ht
  have k0 : 0 < k := by
    rcases Nat.eq_zero_or_pos k with h | h
    · subst h; simp at ht'
    · exact h
  rw [get_setMany _ _ _ t (by simpa using ht'), get_flatK _ _ _ t ht', get_flatK _ _ _ t (by simpa using ht'), hk]
  by_cases a : t / k = i
  · rw [if_pos ((blk_iff k i t k0).2 a), a, getElem!_set_same d i x hi, show t - i * k = t % k by rw [← a, Nat.mod_eq_sub_div_mul]]
  · rw [if_neg (fun h => a ((blk_iff k i t k0).1 h)), getElem!_set_other d i _ x a]
/-- A row of slots that may be written. -/
abbrev RowS (w : World) (g off : Nat) (d : Array Sd) : Prop := HoldsK encS 5 w g off d
theorem RowS.at' {w : World} {g off : Nat} {d : Array Sd} (h : RowS w g off d) {n : Nat} (hn : n < d.size) : LiesS g (off + n * 5) d[n]! w :=
  LiesS.of_enc (fun i v hi => by
    have hi5 : i < 5 := by have := (List.getElem?_eq_some_iff.1 hi).1; rwa [encS_len] at this
    have := (HoldsK.cell h hn hi5).1
    rw [this]
    simp [List.getElem!_eq_getElem?_getD, hi])
theorem RowS.free {w : World} {g off : Nat} {d : Array Sd} (h : RowS w g off d) {n : Nat} (hn : n < d.size) :
    w.frozen? ⟨g, off + n * 5, none⟩ = false ∧ w.frozen? ⟨g, off + n * 5 + 1, none⟩ = false ∧ w.frozen? ⟨g, off + n * 5 + 2, none⟩ = false ∧ w.frozen? ⟨g, off + n * 5 + 3, none⟩ = false ∧ w.frozen? ⟨g, off + n * 5 + 4, none⟩ = false :=
  ⟨(HoldsK.cell h hn (c := 0) (by omega)).2, (HoldsK.cell h hn (c := 1) (by omega)).2, (HoldsK.cell h hn (c := 2) (by omega)).2, (HoldsK.cell h hn (c := 3) (by omega)).2, (HoldsK.cell h hn (c := 4) (by omega)).2⟩
/-- A slot stored at a place. -/
def setAt (w : World) (g o : Nat) (z : Sd) : World := ((((w.setCell ⟨g, o, none⟩ (.int .i64 z.x)).setCell ⟨g, o + 1, none⟩ (.int .i64 z.v.k)).setCell ⟨g, o + 2, none⟩ (.int .i64 z.v.i)).setCell ⟨g, o + 3, none⟩ (.string z.v.s)).setCell ⟨g, o + 4, none⟩ (.bool z.v.b)
theorem RowS.set {w : World} {g off : Nat} {d : Array Sd} (h : RowS w g off d) {n : Nat} (hn : n < d.size) (z : Sd) : RowS (setAt w g (off + n * 5) z) g off (d.setIfInBounds n z) := by
  have e : setAt w g (off + n * 5) z = putRowK encS 5 w g off (d.setIfInBounds n z) := by
    have h1 := setCells_putRow w g off (encS z) (n * 5) (flatK encS 5 d) (by rw [encS_len, size_flatK]; omega)
    rw [show putRow id w g off (flatK encS 5 d) = w from putRowK_self encS 5 w g off d h, setMany_one encS 5 encS_len d n z hn] at h1
    exact h1
  rw [e]
  exact holdsK_putRowK encS 5 w g off d _ h (by simp)
theorem below_setAt {B : Nat} {a w : World} (h : Below B a w) {g : Nat} (hg : B ≤ g) (o : Nat) (z : Sd) : Below B a (setAt w g o z) :=
  ((((h.setCell hg _).setCell hg _).setCell hg _).setCell hg _).setCell hg _
theorem size_setAt (w : World) (g o : Nat) (z : Sd) : (setAt w g o z).heap.size = w.heap.size := by simp [setAt]
theorem setCells_below : ∀ (vs : List Value) {B : Nat} {a w : World} (h : Below B a w) {g : Nat} (hg : B ≤ g) (o : Nat), Below B a (w.setCells g o vs)
  | [], _, _, _, h, _, _, _ => h
  | v :: r, _, _, _, h, g, hg, o => setCells_below r (h.setCell (p := ⟨g, o, none⟩) hg v) hg (o + 1)
theorem setCells_ahead : ∀ (vs : List Value) (w : World) (g o j : Nat), j < o → (w.setCells g o vs).cell? ⟨g, j, none⟩ = w.cell? ⟨g, j, none⟩
  | [], _, _, _, _, _ => rfl
  | v :: r, w, g, o, j, h => by
    rw [World.setCells, setCells_ahead r _ g (o + 1) j (by omega)]
    exact World.cell?_setCell_other _ _ _ _ (by simp only [ne_eq, Addr.mk.injEq, not_and]; intro _ e; omega)
theorem setCells_size : ∀ (vs : List Value) (w : World) (g o : Nat), (w.setCells g o vs).heap.size = w.heap.size
  | [], _, _, _ => rfl
  | v :: r, w, g, o => by rw [World.setCells, setCells_size r]; simp
def zeroS : Value := .agg #[.int .i64 0, .int .i64 0, .int .i64 0, .string ⟨#[]⟩, .bool false]
def clearedS (n : Nat) : List Value := (Builtin.zeroCells zeroS.cells n).toList
theorem clearedS_len (n : Nat) : (clearedS n).length = 5 * n := by
  simp [clearedS, Builtin.zeroCells, zeroS, Value.cells]
  omega
theorem run_clearS (w : World) (ty : TypeId) (g o n c : Nat) (hn : 0 < n) (hc : ∀ j, j < n * 5 → (w.cell? ⟨g, o + j, none⟩).isSome = true) (hf : ∀ j, j < n * 5 → w.frozen? ⟨g, o + j, none⟩ = false) :
    (Builtin.clear_ #[22] ty #[.slice (some ⟨g, o, none⟩) n c]).run Try.prog w = .ok (.tuple #[]) (w.setCells g o (clearedS n)) := by
  have hst := run_storeCells_cells (P := Try.prog) g o (clearedS n) 0 w (by rw [clearedS_len]; intro j hj; simpa using hc j (by omega)) (by rw [clearedS_len]; intro j hj; exact hf j (by omega)) (by
    intro v hv
    simp [clearedS, Builtin.zeroCells, zeroS, Value.cells] at hv
    obtain ⟨a, _, rfl⟩ := hv
    have h5 : a % 5 < 5 := Nat.mod_lt _ (by omega)
    generalize a % 5 = q at h5
    match q, h5 with
    | 0, _ => rfl
    | 1, _ => rfl
    | 2, _ => rfl
    | 3, _ => rfl
    | 4, _ => rfl)
  simp only [Nat.add_zero] at hst
  obtain ⟨m, rfl⟩ : ∃ m, n = m + 1 := ⟨n - 1, by omega⟩
  simp [Builtin.clear_, run_underlying Try.underlying22, Try.zeroValue32]
  change ((Sem.run _ (storeCells _ (clearedS (m + 1))) w).andThen _) = _
  rw [hst]
  rfl

/-- What is told of a row of slots behind Compact. -/
def CompPost (D : List Sd) (g off cap : Nat) (w : World) (e : Ending) (w' : World) : Prop :=
  e = .returned (.slice (some ⟨g, off, none⟩) (Lib.compact D).length cap) ∧ (∀ n, n < (Lib.compact D).length → LiesS g (off + n * 5) ((Lib.compact D).getD n default) w') ∧ w.heap.size ≤ w'.heap.size ∧ ∀ B, B ≤ g → Below B w w'
theorem toArr_at (D : List Sd) (n : Nat) : D.toArray[n]! = D.getD n default := by
  simp [List.getD]

set_option maxHeartbeats 4000000 in
set_option maxRecDepth 100000 in
theorem compact_calls (g off cap : Nat) (D : List Sd) (w : World) (hr : RowS w g off D.toArray) (hcap : D.length ≤ cap) (hsm : cap ≤ 9223372036854775807) (hg : g < w.heap.size) :
    Calls Try.prog 24 #[.slice (some ⟨g, off, none⟩) D.length cap] w (CompPost D g off cap w) := by
  obtain ⟨d, hd⟩ : ∃ d, d = D.toArray := ⟨_, rfl⟩
  have hds : d.size = D.length := by rw [hd]; simp
  rw [← hd, ] at hr
  rw [← hds] at hcap ⊢
  have HR := Lib.hid hr
  have HD := Lib.hid hd
  have HDS := Lib.hid hds
  have hall0 := Lib.keeps_lt_one d
  have q2 := guardS
  clear hd
  by_cases h2 : d.size < 2
  case pos =>
    have t1 : decide ((d.size : Int) < 2) = true := decide_eq_true (by omega)
    have HE : Hid (Lib.compact D = D) := Lib.hid (Lib.compact_all D (fun j hj => by
      have hj0 : j < 1 := by omega
      rw [← HD.out]
      exact hall0 j hj0))
    clear hr hds hall0
    go_enter Try.func24, Try.ntmps24
    go_wp2_with fail
    go_ret
    refine ⟨by rw [HE.out, ← HDS.out]; rfl, fun n hn => ?_, Nat.le_refl _, fun B _ => Below.refl _ _⟩
    rw [HE.out] at hn ⊢
    have := HR.out.at' (n := n) (by rw [HDS.out]; exact hn)
    rwa [HD.out, toArr_at] at this
  have t1 : decide ((d.size : Int) < 2) = false := decide_eq_false (by omega)
  clear hr hds
  go_enter Try.func24, Try.ntmps24
  go_wp2_with fail
  go_loopw [3] (fun i wr => ∃ (k : Nat), 1 ≤ k ∧ k ≤ d.size ∧ i = .int .i64 k ∧ Hid (RowS wr g off d) ∧ Hid (wr.heap.size = w.heap.size ∧ ∀ B, B ≤ g → Below B w wr) ∧ Hid (∀ j, j < k → Lib.keeps d j = true)) (fun i _ => d.size - (intOf i).toNat)
  case atStart => exact ⟨1, Nat.le_refl _, by omega, rfl, HR, Lib.hid ⟨rfl, fun B _ => Below.refl _ _⟩, Lib.hid hall0⟩
  case round =>
    obtain ⟨k, hk1, hk, rfl, HRk, HW, HAll⟩ := hrel
    by_cases hlt : k < d.size
    case neg =>
      obtain rfl : k = d.size := by omega
      have HE : Hid (Lib.compact D = D) := Lib.hid (Lib.compact_all D (fun j hj => by rw [← HD.out]; exact HAll.out j (by rw [HDS.out]; exact hj)))
      go_wp2_with fail
      go_ret
      refine ⟨by rw [HE.out, ← HDS.out]; rfl, fun n hn => ?_, Nat.le_of_eq HW.out.1.symm, HW.out.2⟩
      rw [HE.out] at hn ⊢
      have := HRk.out.at' (n := n) (by rw [HDS.out]; exact hn)
      rw [HD.out, toArr_at] at this
      exact this
    case pos =>
      obtain ⟨m, hm⟩ : ∃ m, k = m + 1 := ⟨k - 1, by omega⟩
      have hml : m < d.size := by omega
      have hws : IntKind.i64.wrap ((k : Int) - 1) = (m : Int) := by rw [hm, IntKind.wrap_i64]; push_cast; omega
      have HM := Lib.hid hm
      have hr1 := HRk.out.at' hlt
      have hr0 := HRk.out.at' hml
      have HKp : Hid (d[k]! = d[m]! → Lib.keeps d k = false) := Lib.hid (fun e => Lib.keeps_neg (by omega) (by rw [e, hm]; rfl))
      have HKn : Hid (d[k]! ≠ d[m]! → Lib.keeps d k = true) := Lib.hid (fun e => Lib.keeps_pos (by rw [show k - 1 = m by omega]; exact e))
      generalize d[k]! = x at hr1 HKp HKn
      generalize d[m]! = y at hr0 HKp HKn
      obtain ⟨c0, c1, c2, c3, c4⟩ := hr1
      obtain ⟨e0, e1, e2, e3, e4⟩ := hr0
      have q1 := eqInS x y
      clear hm
      by_cases hxy : x = y
      case neg =>
        have HX := Lib.hid (HKn.out hxy)
        rw [decide_eq_false hxy] at q1
        clear hxy HKp HKn
        go_wp2_with fail
        go_quiet (fail)
        go_wp2_with fail
        go_roundw
        case rel => exact ⟨k + 1, by omega, by omega, by go_num, HRk, Lib.hid ⟨HW.out.1, fun B hB => below_drewN _ (HW.out.2 B hB)⟩, Lib.hid (fun j hj => by
          by_cases e : j < k
          · exact HAll.out j e
          · rw [show j = k by omega]; exact HX.out)⟩
        case measure => simp [intOf]; omega
      case pos =>
        have HX := Lib.hid (HKp.out hxy)
        rw [decide_eq_true hxy] at q1
        clear hxy HKp HKn
        go_wp2_with fail
        go_quiet (fail)
        obtain ⟨wq, hwq⟩ : ∃ wq, wr.drewN nq = wq := ⟨_, rfl⟩
        have HRq : Hid (RowS wq g off d) := Lib.hid (by rw [← hwq]; exact HRk.out)
        have HWq : Hid (wq.heap.size = w.heap.size ∧ ∀ B, B ≤ g → Below B w wq) := Lib.hid (by rw [← hwq]; exact ⟨HW.out.1, fun B hB => below_drewN _ (HW.out.2 B hB)⟩)
        rw [hwq]
        clear hwq HRk HW c0 c1 c2 c3 c4 e0 e1 e2 e3 e4 q1
        go_wp2_with fail
        go_loopw [3, 5] (fun s3 s5 wr => ∃ (kk k2 : Nat) (dk : Array Sd), 1 ≤ k2 ∧ k + k2 ≤ d.size ∧ kk < k + k2 ∧ s3 = .int .i64 kk ∧ s5 = .int .i64 k2 ∧ Hid (RowS wr g off dk) ∧ Hid (wr.heap.size = w.heap.size ∧ ∀ B, B ≤ g → Below B w wr) ∧ Hid (Lib.CompInv d (k + k2) kk dk)) (fun _ s5 _ => d.size - (k + (intOf s5).toNat))
        case atStart => exact ⟨k, 1, d, Nat.le_refl _, by omega, by omega, rfl, rfl, HRq, HWq, Lib.hid (Lib.CompInv.start HAll.out HX.out)⟩
        case round =>
          obtain ⟨kk, k2, dk, hk21, hle, hkk, rfl, rfl, HRd, HWd, HI⟩ := hrel
          have hdk := HI.out.size
          by_cases hlt2 : k + k2 < d.size
          case neg =>
            have hend : k + k2 = d.size := by omega
            have HI2 : Hid (Lib.CompInv d d.size kk dk) := Lib.hid (by rw [← hend]; exact HI.out)
            have hkd : kk < d.size := by omega
            have hcl : ∀ ty, (Builtin.clear_ #[22] ty #[.slice (some ⟨g, off + kk * 5, none⟩) (d.size - kk) (cap - kk)]).run Try.prog wr = .ok (.tuple #[]) (wr.setCells g (off + kk * 5) (clearedS (d.size - kk))) := fun ty => run_clearS wr ty g (off + kk * 5) _ _ (by omega) (fun j hj => by
                have := (HoldsK.cell HRd.out (i := kk + j / 5) (c := j % 5) (by omega) (by omega)).1
                rw [show off + (kk + j / 5) * 5 + j % 5 = off + kk * 5 + j by omega] at this
                rw [this]; rfl) (fun j hj => by
                have := (HoldsK.cell HRd.out (i := kk + j / 5) (c := j % 5) (by omega) (by omega)).2
                rwa [show off + (kk + j / 5) * 5 + j % 5 = off + kk * 5 + j by omega] at this)
            have t2 : decide ((k2 : Int) < ((d.size - k : Nat) : Int)) = false := decide_eq_false (by omega)
            have hlen : (Lib.compact D).length = kk := by
              have := HI2.out.len
              rw [HDS.out, HD.out] at this
              exact this
            have HLen := Lib.hid hlen
            clear hlen hend
            go_wp2_with fail
            go_ret
            refine ⟨by rw [HLen.out]; rfl, fun n hn => ?_, by rw [setCells_size]; exact Nat.le_of_eq HWd.out.1.symm, fun B hB => setCells_below _ (HWd.out.2 B hB) hB _⟩
            rw [HLen.out] at hn
            have h1 := HI2.out.low n hn
            rw [HDS.out, HD.out] at h1
            have h2 : (Lib.compact D).getD n default = dk[n]! := by
              rw [List.getD, show (Lib.compact D)[n]? = some dk[n]! from h1]; rfl
            rw [h2]
            have h3 := HRd.out.at' (n := n) (by omega)
            exact LiesS.of_enc (fun i v hi => by
              have hi5 : i < 5 := by have := (List.getElem?_eq_some_iff.1 hi).1; rwa [encS_len] at this
              rw [setCells_ahead _ _ _ _ _ (by omega)]
              exact h3.enc i v hi)
          case pos =>
            obtain ⟨m2, hm2⟩ : ∃ m2, k2 = m2 + 1 := ⟨k2 - 1, by omega⟩
            have hml2 : m2 < d.size - k := by omega
            have hk2l : k2 < d.size - k := by omega
            have hws2 : IntKind.i64.wrap ((k2 : Int) - 1) = (m2 : Int) := by rw [hm2, IntKind.wrap_i64]; push_cast; omega
            have t2 : decide ((k2 : Int) < ((d.size - k : Nat) : Int)) = true := decide_eq_true (by omega)
            have hr1 := HRd.out.at' (n := k + k2) (by omega)
            have hr0 := HRd.out.at' (n := k + m2) (by omega)
            have hro := HRd.out.at' (n := kk) (by omega)
            have hrf := HRd.out.free (n := kk) (by omega)
            have HSet := Lib.hid (fun u => HRd.out.set (n := kk) (by omega) u)
            rw [HI.out.high (k + k2) (by omega), show off + (k + k2) * 5 = off + k * 5 + k2 * 5 by omega] at hr1
            rw [HI.out.high (k + m2) (by omega), show off + (k + m2) * 5 = off + k * 5 + m2 * 5 by omega] at hr0
            have HSk : Hid (d[k + k2]! = d[k + m2]! → Lib.CompInv d (k + (k2 + 1)) kk dk) := Lib.hid (fun e => HI.out.skip (Lib.keeps_neg (by omega) (by rw [e, show k + k2 - 1 = k + m2 by omega])))
            have HKe : Hid (d[k + k2]! ≠ d[k + m2]! → Lib.CompInv d (k + (k2 + 1)) (kk + 1) (dk.setIfInBounds kk d[k + k2]!)) := Lib.hid (fun e => HI.out.keep hlt2 (Lib.keeps_pos (by rw [show k + k2 - 1 = k + m2 by omega]; exact e)))
            generalize d[k + k2]! = u at hr1 HSk HKe
            generalize d[k + m2]! = v at hr0 HSk HKe
            generalize dk[kk]! = old at hro
            obtain ⟨c0, c1, c2, c3, c4⟩ := hr1
            obtain ⟨e0, e1, e2, e3, e4⟩ := hr0
            have q1 := eqInS u v
            clear hm2
            by_cases huv : u = v
            case pos =>
              have HX2 := Lib.hid (HSk.out huv)
              rw [decide_eq_true huv] at q1
              clear huv HSk HKe hro hrf
              go_wp2_with fail
              go_quiet (fail)
              go_wp2_with fail
              go_roundw
              case rel => exact ⟨kk, k2 + 1, dk, by omega, by omega, by omega, rfl, by go_num, HRd, Lib.hid ⟨HWd.out.1, fun B hB => below_drewN _ (HWd.out.2 B hB)⟩, HX2⟩
              case measure => simp [intOf]; omega
            case neg =>
              have HX2 := Lib.hid (HKe.out huv)
              rw [decide_eq_false huv] at q1
              clear huv HSk HKe
              go_wp2_with fail
              go_quiet (fail)
              obtain ⟨wz, hwz⟩ : ∃ wz, wr.drewN nq = wz := ⟨_, rfl⟩
              have HRz : Hid (RowS (setAt wz g (off + kk * 5) u) g off (dk.setIfInBounds kk u)) := Lib.hid (by rw [← hwz]; exact HSet.out u)
              have HWz : Hid (wz.heap.size = w.heap.size ∧ ∀ B, B ≤ g → Below B w wz) := Lib.hid (by rw [← hwz]; exact ⟨HWd.out.1, fun B hB => below_drewN _ (HWd.out.2 B hB)⟩)
              have hr1 : LiesS g (off + k * 5 + k2 * 5) u wz := by rw [← hwz]; exact ⟨c0, c1, c2, c3, c4⟩
              have hro : LiesS g (off + kk * 5) old wz := by rw [← hwz]; exact hro
              have hrf : wz.frozen? ⟨g, off + kk * 5, none⟩ = false ∧ wz.frozen? ⟨g, off + kk * 5 + 1, none⟩ = false ∧ wz.frozen? ⟨g, off + kk * 5 + 2, none⟩ = false ∧ wz.frozen? ⟨g, off + kk * 5 + 3, none⟩ = false ∧ wz.frozen? ⟨g, off + kk * 5 + 4, none⟩ = false := by rw [← hwz]; exact hrf
              rw [hwz]
              clear hwz HRd HWd HSet c0 c1 c2 c3 c4 e0 e1 e2 e3 e4 q1
              obtain ⟨c0, c1, c2, c3, c4⟩ := hr1
              obtain ⟨o0, o1, o2, o3, o4⟩ := hro
              obtain ⟨f0, f1, f2, f3, f4⟩ := hrf
              have hkk2 : kk < d.size := by omega
              go_wp2_with fail
              go_roundw
              case rel => exact ⟨kk + 1, k2 + 1, dk.setIfInBounds kk u, by omega, by omega, by omega, by go_num, by go_num, HRz, Lib.hid ⟨by rw [← HWz.out.1]; exact size_setAt wz g (off + kk * 5) u, fun B hB => below_setAt (HWz.out.2 B hB) hB _ u⟩, HX2⟩
              case measure => simp [intOf]; omega
end Go.Proofs.Ytjohiehlnbgdaaa
