/- The chapter's example. -/
import Derived.Test.YtojabkhfkbfeaaaDoorTreeMeas
namespace Go.Proofs.YtojabkhfkbfeaaaDoor
open Go.RowKit
set_option linter.unusedVariables false

def exV (n : Int) : Vd := ⟨1, n, ⟨#[]⟩, false⟩
def exA : Ex := ⟨1, 0, 0, ⟨#[]⟩, exV 2, 0, 0⟩
def exB : Ex := ⟨1, 0, 0, ⟨#[]⟩, exV 3, 0, 0⟩
def exC' : Ex := ⟨8, 0, 1, ⟨#[]⟩, v0, 0, 0⟩
def exL : List Ex := [exA, exB, exC']
theorem ex_right (n : Int) : rightV (exV n) = true := by simp [rightV, exV, rightB]
theorem ex_empty : emptyB (⟨#[]⟩ : ByteArray) = true := (emptyB_iff _).2 rfl
theorem ex_zero : zeroV v0 = true := (zeroV_iff _).2 rfl
theorem ok0 : okS (⟨#[]⟩ : ByteArray) := by
  show (⟨#[]⟩ : ByteArray).size ≤ 9223372036854775807
  decide
theorem ex0 : sizeT exL ((0 : Nat) : Int) = 1 := by
  rw [sizeT_at (x := exA) rfl]
  have h1 : exA.op = 1 := rfl
  rw [if_pos h1, if_pos ⟨rfl, rfl, ex_empty, ex_right 2⟩]
theorem ex1 : sizeT exL ((1 : Nat) : Int) = 1 := by
  rw [sizeT_at (x := exB) rfl]
  have h1 : exB.op = 1 := rfl
  rw [if_pos h1, if_pos ⟨rfl, rfl, ex_empty, ex_right 3⟩]
theorem ex2 : sizeT exL ((2 : Nat) : Int) = 3 := by
  have e1 : (((2 : Nat) : Int) - 1) = ((1 : Nat) : Int) := rfl
  have e0 : (((1 : Nat) : Int) - ((1 : Nat) : Int)) = ((0 : Nat) : Int) := rfl
  rw [sizeT_at (x := exC') rfl, e1, ex1, e0, ex0]
  have h1 : ¬ exC'.op = 1 := by decide
  have h2 : ¬ exC'.op = 17 := by decide
  have h3 : ¬ (exC'.op < 4 ∨ 16 < exC'.op ∨ emptyB exC'.n = false ∨ zeroV exC'.v = false) := by
    rintro (h | h | h | h)
    · exact absurd h (by decide)
    · exact absurd h (by decide)
    · exact absurd (h.symm.trans ex_empty) (by decide)
    · exact absurd (h.symm.trans ex_zero) (by decide)
  have h5 : ¬ exC'.op ≤ 5 := by decide
  rw [if_neg h1, if_neg h2, if_neg h3, if_neg h5, if_pos ⟨by decide, rfl, rfl, by decide⟩]
theorem exd2 : depthT exL ((2 : Nat) : Int) = 2 := by
  have h := depthT_at (l := exL) (n := 2) (x := exC') rfl (by decide) (by decide)
  have a : depthT exL ((0 : Nat) : Int) = 1 := depthT_leaf (x := exA) rfl (.inl rfl)
  have b : depthT exL ((1 : Nat) : Int) = 1 := depthT_leaf (x := exB) rfl (.inl rfl)
  have h1 : ¬ (exC'.op = 1 ∨ exC'.op = 17) := by decide
  have h5 : 5 < exC'.op := by decide
  rw [if_neg h1, if_pos h5, show exC'.a = ((0 : Nat) : Int) from rfl, show exC'.b = ((1 : Nat) : Int) from rfl, a, b] at h
  exact h

set_option maxHeartbeats 1000000 in
set_option maxRecDepth 100000 in
theorem awake_calls (w : World) (hw : Wds w) :
    Calls Tryd.prog 5 #[] w fun e w' => e = .returned (.bool true) ∧ Below w.heap.size w w' := by
  obtain ⟨cs, hcs⟩ : ∃ cs : Array Value, cs = ((exL.map exC).flatten).toArray := ⟨_, rfl⟩
  have hB : Below w.heap.size w (w.alloc (.cells cs 51)) := (Below.refl _ _).alloc (Nat.le_refl _) _
  have HG : GIn rEx 51 True 10 (w.alloc (.cells cs 51)) (some ⟨w.heap.size, 0, none⟩) 3 exL := gin_new rfl hcs (fun _ => rfl) (fun x hx => by
    simp only [exL, List.mem_cons, List.not_mem_nil, or_false] at hx
    rcases hx with rfl | rfl | rfl <;> exact ⟨ok0, ok0, by decide, by decide⟩) (by decide)
  have HB := Lib.hid hB
  have HS := Lib.hid (treeSize_calls (some ⟨w.heap.size, 0, none⟩) 3 3 exL 2 _ HG (hw.below hB) (by decide) (by decide))
  have HD := Lib.hid (fun w1 (k : Below (w.alloc (.cells cs 51)).heap.size (w.alloc (.cells cs 51)) w1) => treeDepth_calls (some ⟨w.heap.size, 0, none⟩) 3 3 exL 2 w1 (HG.belowF k) ((hw.below hB).below (by exact k)) (by decide) (by decide))
  have e2 : sizeT exL 2 = 3 := ex2
  have d2 : depthT exL 2 = 2 := exd2
  rw [e2] at HS HD
  rw [d2, if_neg (by decide)] at HD
  subst hcs
  clear hw hB HG e2 d2
  go_enter Tryd.func5, Tryd.ntmps5
  go_wp2_with fail
  refine HS.out.mono ?_
  rintro e w1 ⟨rfl, k1⟩
  have HB1 := Lib.hid (HB.out.trans (k1.mono HB.out.size))
  have K1 := Lib.hid k1
  clear k1
  go_wp2_with fail
  refine (HD.out w1 K1.out).mono ?_
  rintro e w2 ⟨rfl, k2⟩
  have HB2 := Lib.hid (HB1.out.trans (k2.mono HB1.out.size))
  clear k2
  go_wp2_with fail
  go_ret
  exact ⟨rfl, HB2.out⟩
end Go.Proofs.YtojabkhfkbfeaaaDoor
