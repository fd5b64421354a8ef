/- Small trees: the reference's short and Few. -/
import Derived.Test.YtojabkhfkbfeaaaGreatDoorTreeSameF
import Derived.BigQuiet
namespace Go.Proofs.YtojabkhfkbfeaaaGreatDoor
open Go.RowKit
set_option linter.unusedVariables false

theorem all_drop {α : Type} {L : List α} {n : Nat} {x : α} (hx : L[n]? = some x) : L.drop n = x :: L.drop (n + 1) := by
  obtain ⟨hn, e⟩ := List.getElem?_eq_some_iff.1 hx
  rw [List.drop_eq_getElem_cons hn, e]
theorem all_hit {α : Type} {L : List α} {f : α → Bool} {n : Nat} {x : α} (h : L.all f = (L.drop n).all f) (hx : L[n]? = some x) (e : f x = false) : L.all f = false := by
  rw [h, all_drop hx, List.all_cons, e]; rfl
theorem all_step {α : Type} {L : List α} {f : α → Bool} {n : Nat} {x : α} (h : L.all f = (L.drop n).all f) (hx : L[n]? = some x) (e : f x = true) : L.all f = (L.drop (n + 1)).all f := by
  rw [h, all_drop hx, List.all_cons, e]; rfl
theorem all_end {α : Type} {L : List α} {f : α → Bool} {n : Nat} (h : L.all f = (L.drop n).all f) (hn : L.length ≤ n) : L.all f = true := by
  rw [h, List.drop_eq_nil_iff.2 hn]; rfl
/-- A box that has just been made. -/
theorem box1 {w w1 : World} {A : List Value} {T : TypeId} (k : Below (w.heap.size + 1) (w.alloc (.cells A.toArray T)) w1) : ∀ j v, A[j]? = some v → w1.cell? ⟨w.heap.size, j, none⟩ = some v := by
  intro j v h
  rw [k.cell (p := ⟨w.heap.size, j, none⟩) (by simp), World.cell?_alloc_at (hn := rfl)]
  simpa using h
theorem below1_step {W a b : World} {n : Nat} (h : Below (n + 1) W a) (hW : W.heap.size = n + 1) (k : Below a.heap.size a b) : Below (n + 1) W b :=
  h.trans (k.mono (by have := h.size; omega))
def longA (a : Ag) : Bool := decide (a.v.s.size ≤ 100)
theorem short_eq (s : Sy) : shortB s = (decide (s.ar.length ≤ 12) && s.ar.all longA) := rfl

set_option maxHeartbeats 2000000 in
set_option maxRecDepth 100000 in
theorem short_calls {Y : TyT} {O : Prop} (s : Sy) (cs : List Value) (w : World) (hr : rSy Y O w cs s) :
    Calls Tryz.prog 12 #[.agg cs.toArray] w fun e w' => e = .returned (.bool (shortB s)) ∧ Below w.heap.size w w' := by
  obtain ⟨a, c, rfl, h1, _⟩ := hr
  have H := Lib.hid h1
  have hsm := h1.small
  have HS := Lib.hid (short_eq s)
  have HB : Hid (Below w.heap.size w (w.alloc (.cells #[.string s.n, .slice a s.ar.length c, .int .i64 s.l, .int .i64 s.c] 47))) := Lib.hid ((Below.refl w.heap.size w).alloc (Nat.le_refl _) _)
  have HK0 : Hid (Below (w.heap.size + 1) (w.alloc (.cells #[.string s.n, .slice a s.ar.length c, .int .i64 s.l, .int .i64 s.c] 47)) (w.alloc (.cells #[.string s.n, .slice a s.ar.length c, .int .i64 s.l, .int .i64 s.c] 47))) := Lib.hid (Below.refl _ _)
  have HBK : Hid (∀ w1, Hid (Below (w.heap.size + 1) (w.alloc (.cells #[.string s.n, .slice a s.ar.length c, .int .i64 s.l, .int .i64 s.c] 47)) w1) → Below w.heap.size w w1) := Lib.hid (fun _ h => HB.out.trans (h.out.mono (Nat.le_succ _)))
  clear h1
  by_cases hl : s.ar.length ≤ 12
  case neg =>
    rw [decide_eq_false hl] at HS
    have hl1 : 12 < s.ar.length := by omega
    have t0 : decide ((12 : Int) < (s.ar.length : Int)) = true := decide_eq_true (by omega)
    have HB' := HB
    go_enter Tryz.func12, Tryz.ntmps12
    go_wp2_with fail
    go_ret
    exact ⟨by rw [HS.out]; rfl, HB.out⟩
  case pos =>
    rw [decide_eq_true hl] at HS
    have hl1 : ¬ 12 < s.ar.length := by omega
    have t0 : decide ((12 : Int) < (s.ar.length : Int)) = false := decide_eq_false (by omega)
    go_enter Tryz.func12, Tryz.ntmps12
    go_wp2_with fail
    go_loopw [3] (fun i wr => ∃ (n : Nat), n ≤ s.ar.length ∧ i = .int .i64 n ∧ Hid (s.ar.all longA = (s.ar.drop n).all longA) ∧ Hid (Below (w.heap.size + 1) (w.alloc (.cells #[.string s.n, .slice a s.ar.length c, .int .i64 s.l, .int .i64 s.c] 47)) wr)) (fun i _ => s.ar.length - (intOf i).toNat)
    case atStart => exact ⟨0, Nat.zero_le _, rfl, Lib.hid rfl, HK0⟩
    case round =>
      obtain ⟨n, hn, rfl, HT, HL⟩ := hrel
      have z0 : wr.cell? ⟨w.heap.size, 1, none⟩ = some (.slice a s.ar.length c) := box1 HL.out 1 _ rfl
      by_cases h : n < s.ar.length
      case neg =>
        have HX := Lib.hid (all_end HT.out (by omega))
        rw [HX.out] at HS
        go_wp2_with fail
        go_ret
        exact ⟨by rw [HS.out]; rfl, HBK.out _ HL⟩
      case pos =>
        obtain ⟨x1, hx⟩ := at_some (L := s.ar) rfl h
        have HW := Lib.hid (HBK.out _ HL)
        obtain ⟨g, off, rfl, hg, hc, hok⟩ := (H.out.belowF HW.out).flat hx
        have hsz : x1.v.s.size ≤ 9223372036854775807 := hok.2.1
        have c4 : wr.cell? ⟨g, off + n * 8 + 4, none⟩ = some (.string x1.v.s) := hc 4 _ rfl
        have c5 : wr.cell? ⟨g, off + n * 8 + 2 + 2, none⟩ = some (.string x1.v.s) := hc 4 _ rfl
        have HX := Lib.hid hx
        clear hc hx hok
        by_cases he : x1.v.s.size ≤ 100
        · have HE := Lib.hid (all_step HT.out HX.out (decide_eq_true he))
          have he1 : ¬ 100 < x1.v.s.size := by omega
          have t1 : decide ((100 : Int) < (x1.v.s.size : Int)) = false := decide_eq_false (by omega)
          go_wp2_with fail
          go_roundw
          case rel => exact ⟨n + 1, h, by go_num, HE, HL⟩
          case measure => simp [intOf] <;> omega
        · have HE := Lib.hid (all_hit HT.out HX.out (decide_eq_false he))
          rw [HE.out] at HS
          have he1 : 100 < x1.v.s.size := by omega
          have t1 : decide ((100 : Int) < (x1.v.s.size : Int)) = true := decide_eq_true (by omega)
          go_wp2_with fail
          go_ret
          exact ⟨by rw [HS.out]; rfl, HBK.out _ HL⟩
end Go.Proofs.YtojabkhfkbfeaaaGreatDoor
