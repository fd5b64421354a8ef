/- The methods of strings.Builder that package binding calls. -/
import Derived.Test.YtjohiehlnbgdaaaDoorLowNum
import Derived.OwnWalk
namespace Go.Proofs.YtjohiehlnbgdaaaDoor.bld
open Go.RowKit
set_option linter.unusedVariables false

/-- A builder that has been written into, in block b, and holds these bytes. -/
def IsB (B b : Nat) (l : List UInt8) (w : World) : Prop := Lib.BuilderAtF 55 5 B b (.pointer (some ⟨b, 0, none⟩)) (Lib.byteCells l) w
/-- .. or has not. -/
def MayB (B b : Nat) (l : List UInt8) (w : World) : Prop := Lib.IsBuilderF 55 5 B b (Lib.byteCells l) w
theorem IsB.lt {B b : Nat} {l : List UInt8} {w : World} (h : IsB B b l w) : b < w.heap.size := Lib.BuilderAtF.lt h
theorem IsB.may {B b : Nat} {l : List UInt8} {w : World} (h : IsB B b l w) : MayB B b l w := .inr h
theorem cells_snoc (l : List UInt8) (c : UInt8) : Lib.byteCells l ++ [.int .u8 (c.toNat : Int)] = Lib.byteCells (l ++ [c]) := by simp [Lib.byteCells]
theorem at_below {B b : Nat} {p : Value} {bs : List Value} {w w' : World} (h : Lib.BuilderAtF 55 5 B b p bs w) (hb : Below w.heap.size w w') : Lib.BuilderAtF 55 5 B b p bs w' := by
  obtain ⟨hB, v, hbk, ⟨hl, hown⟩, hne⟩ := h
  have hlt : b < w.heap.size := (Array.getElem?_eq_some_iff.1 hbk).1
  refine ⟨hB, v, by rw [hb.block b hlt]; exact hbk, ⟨hl, ?_⟩, hne⟩
  rcases hown with hn | ⟨g, cap, cur, fz, rfl, h1, hg, rest⟩
  · exact .inl hn
  · have hglt : g < w.heap.size := (Array.getElem?_eq_some_iff.1 hg).1
    exact .inr ⟨g, cap, cur, fz, rfl, h1, by rw [hb.block g hglt]; exact hg, rest⟩
theorem IsB.below {B b : Nat} {l : List UInt8} {w w' : World} (h : IsB B b l w) (hb : Below w.heap.size w w') : IsB B b l w' := at_below h hb
theorem MayB.below {B b : Nat} {l : List UInt8} {w w' : World} (h : MayB B b l w) (hb : Below w.heap.size w w') : MayB B b l w' :=
  h.elim (fun x => .inl (at_below x hb)) (fun x => .inr (at_below x hb))
theorem MayB.fresh {B b : Nat} {w : World} (hB : B ≤ b) (h : w.heap[b]? = some (.cells #[.pointer none, .slice none 0 0] 55 (0, 0))) : MayB B b [] w :=
  .inl ⟨hB, .slice none 0 0, h, World.ownsRowF_nil _ _ _ _, by simp [Value.ownBlock]⟩

theorem writeByte_calls (B b : Nat) (l : List UInt8) (c : UInt8) (w : World) (h : MayB B b l w) (hlen : l.length + 1 ≤ 140737488355328) (hBw : B ≤ w.heap.size) :
    Calls Tryd.prog 33 #[.pointer (some ⟨b, 0, none⟩), .int .u8 c.toNat] w fun e w' => e = .returned .nilIface ∧ IsB B b (l ++ [c]) w' ∧ Below B w w' := by
  refine (Tryd.Builder_WriteByte_k B b (Lib.byteCells l) c.toNat w h (by rw [Lib.byteCells_length]; exact hlen) hBw).mono ?_
  rintro e w' ⟨rfl, h1, h2, _⟩
  rw [cells_snoc] at h1
  exact ⟨rfl, h1, h2⟩

/-- .. and a block that is no row of bytes stands as it stood. -/
theorem writeByteQ_calls (B b : Nat) (l : List UInt8) (c : UInt8) (w : World) (h : MayB B b l w) (hlen : l.length + 1 ≤ 140737488355328) (hBw : B ≤ w.heap.size) (q : Nat) (cs : Array Value) (t : TypeId) (ht : t ≠ 5)
    (hq : w.heap[q]? = some (.cells cs t (0, 0))) (hqb : q ≠ b) :
    Calls Tryd.prog 33 #[.pointer (some ⟨b, 0, none⟩), .int .u8 c.toNat] w fun e w' => e = .returned .nilIface ∧ IsB B b (l ++ [c]) w' ∧ Below B w w' ∧ w'.heap[q]? = some (.cells cs t (0, 0)) := by
  refine (Tryd.Builder_WriteByte_k B b (Lib.byteCells l) c.toNat w h (by rw [Lib.byteCells_length]; exact hlen) hBw).mono ?_
  rintro e w' ⟨rfl, h1, h2, h3⟩
  rw [cells_snoc] at h1
  exact ⟨rfl, h1, h2, h3 q _ hq (fun e => hqb (Option.some.inj e)) (fun c fz e => by simp at e; exact ht e.2.1)⟩

theorem string_calls (B b : Nat) (l : List UInt8) (w : World) (h : MayB B b l w) (hBw : B ≤ w.heap.size) :
    Calls Tryd.prog 36 #[.pointer (some ⟨b, 0, none⟩)] w fun e w' => e = .returned (.string ⟨l.toArray⟩) ∧ Below B w w' := by
  refine (Tryd.Builder_String_any_k B b l w h hBw).mono ?_
  rintro e w' ⟨rfl, _, h2, _⟩
  exact ⟨rfl, h2⟩

theorem infoByte : (Tryd.prog.info? 5).map (fun i => (i.zero, i.size, i.bytes)) = some (some (.int .u8 0), 1, 1) := by kernel_rfl
theorem neB5 : 55 ≠ 5 := by decide

set_option maxHeartbeats 1000000 in
/-- Write, of bytes that lie in a row. -/
theorem write_calls (B b q cap : Nat) (l t : List UInt8) (w : World) (h : IsB B b l w) (ht : 0 < t.length) (hlen : l.length + t.length ≤ 140737488355328) (hBw : B ≤ w.heap.size)
    (hc : ∀ j u, (Lib.byteCells t)[j]? = some u → w.cell? ((⟨q, 0, none⟩ : Addr).add j) = some u) :
    Calls Tryd.prog 34 #[.pointer (some ⟨b, 0, none⟩), .slice (some ⟨q, 0, none⟩) t.length cap] w fun e w' => e = .returned (.tuple #[.int .i64 t.length, .nilIface]) ∧ IsB B b (l ++ t) w' ∧ Below B w w' := by
  obtain ⟨i0, hi, hz0, hz1, hz2⟩ := info_parts infoByte
  have HC := Lib.hid ((Any.Builder_copyCheck_used { Tryd.lays167 with } Tryd.Builder_Extra_167.toX72 b w (Lib.BuilderAtF.cell0 h)).mono fun e w' (k : e = .returned (.tuple #[]) ∧ w' = w) => (⟨k.1, k.2.symm⟩ : e = .returned (.tuple #[]) ∧ w = w'))
  have H := Lib.hid h
  have HCc := Lib.hid hc
  obtain ⟨hB, v, hbk, hown, hne⟩ := h
  rw [Lib.byteCells_length] at hown
  have c1 : w.cell? ⟨b, 1, none⟩ = some v := by rw [Lib.cell_of_heap hbk]; rfl
  have HI := Lib.hid hi
  have HZ0 := Lib.hid hz0
  have HZ1 := Lib.hid hz1
  have HZ2 := Lib.hid hz2
  have HBK := Lib.hid hbk
  have HNE := Lib.hid hne
  have HOWN := Lib.hid hown
  clear hi hz0 hz1 hz2 hbk hne hown hc
  go_enter Tryd.func34, Tryd.ntmps34
  go_wp2_with fail
  refine HC.out.mono ?_
  rintro e w' ⟨rfl, rfl⟩
  go_wp2_with (at_builtin; refine wpList_append_ownF _ rfl _ _ 32 rfl B 5 i0 (.int .u8 0) 1 1 Tryd.underlying32 HI.out HZ0.out HZ1.out HZ2.out rfl (by decide) _ _ _ rfl HOWN.out ⟨q, 0, none⟩ t.length cap (Lib.byteCells t) rfl (by rw [Lib.byteCells_length, Nat.mul_one]) HCc.out ?c2 ?c3 ?c4 ?c5 ?_)
  case c2 => intro u hu; simp only [Lib.byteCells, List.mem_map] at hu; obtain ⟨c, _, rfl⟩ := hu; rfl
  case c3 => unfold maxLen; omega
  case c4 => omega
  case c5 => omega
  intro v' w2 hown' hgrow _
  have hlt : b < w.heap.size := Lib.BuilderAtF.lt H.out
  have hb2 : w2.heap[b]? = some (.cells #[.pointer (some ⟨b, 0, none⟩), v] 55 (0, 0)) := by
    rw [hgrow.block b hlt (fun e => HNE.out e.symm)]
    exact HBK.out
  have d0 : w2.cell? ⟨b, 0, none⟩ = some (.pointer (some ⟨b, 0, none⟩)) := by rw [Lib.cell_of_heap hb2]; rfl
  have d1 : w2.cell? ⟨b, 1, none⟩ = some v := by rw [Lib.cell_of_heap hb2]; rfl
  have f1 : w2.frozen? ⟨b, 1, none⟩ = false := Lib.frozen_of_heap hb2 1
  have HB2 := Lib.hid hb2
  obtain ⟨g, cap', rfl⟩ : ∃ g cap', v' = .slice (some ⟨g, 0, none⟩) (l.length + t.length) cap' := by
    rcases hown'.2 with ⟨_, h0⟩ | ⟨g, cap', cur, fz, hv, _⟩
    · omega
    · exact ⟨g, cap', hv⟩
  have HO' := Lib.hid hown'
  have HG := Lib.hid hgrow
  clear hb2 hown' hgrow
  go_wp2
  go_ret2
  refine ⟨rfl, ?_, ?_⟩
  · refine Lib.BuilderAtF.put (T := 55) (e := 5) hB HB2.out (bs' := Lib.byteCells (l ++ t)) ?_ neB5
    rw [show Lib.byteCells (l ++ t) = Lib.byteCells l ++ Lib.byteCells t by simp [Lib.byteCells], List.length_append, Lib.byteCells_length, Lib.byteCells_length]
    exact HO'.out
  · exact ((Below.refl B w).grown HG.out hBw (fun k hk => (HOWN.out.lt k hk).1)).setCell (p := ⟨b, 1, none⟩) hB _
end Go.Proofs.YtjohiehlnbgdaaaDoor.bld
