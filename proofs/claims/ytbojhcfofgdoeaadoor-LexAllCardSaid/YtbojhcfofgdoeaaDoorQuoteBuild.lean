/- The methods of strings.Builder that package quote calls, as its functions meet them. -/
import Derived.Test.YtbojhcfofgdoeaaDoorShelfBuild
import Derived.Test.YtbojhcfofgdoeaaDoorShelfByte
import Derived.Test.YtbojhcfofgdoeaaDoorQuoteBytes
import Derived.OwnWalk
namespace Go.Proofs.YtbojhcfofgdoeaaDoor
open Go.RowKit

/-- A builder that has been written into, in block b, and holds these bytes. -/
def IsB (B b : Nat) (l : List UInt8) (w : World) : Prop := Lib.BuilderAtF 79 5 B b (.pointer (some ⟨b, 0, none⟩)) (Lib.byteCells l) w
/-- .. or has not. -/
def MayB (B b : Nat) (l : List UInt8) (w : World) : Prop := Lib.IsBuilderF 79 5 B b (Lib.byteCells l) w
theorem IsB.may {B b : Nat} {l : List UInt8} {w : World} (h : IsB B b l w) : MayB B b l w := .inr h
theorem cells_snoc (l : List UInt8) (c : UInt8) : Lib.byteCells l ++ [.int .u8 (c.toNat : Int)] = Lib.byteCells (l ++ [c]) := by simp [Lib.byteCells]
theorem cells_snoc2 (l : List UInt8) (c d : UInt8) : Lib.byteCells l ++ [.int .u8 (c.toNat : Int), .int .u8 (d.toNat : Int)] = Lib.byteCells (l ++ [c, d]) := by simp [Lib.byteCells]

theorem at_below {B b : Nat} {p : Value} {bs : List Value} {w w' : World} (h : Lib.BuilderAtF 79 5 B b p bs w) (hb : Below w.heap.size w w') : Lib.BuilderAtF 79 5 B b p bs w' := by
  obtain ⟨hB, v, hbk, ⟨hl, hown⟩, hne⟩ := h
  have hlt : b < w.heap.size := (Array.getElem?_eq_some_iff.1 hbk).1
  refine ⟨hB, v, by rw [hb.block b hlt]; exact hbk, ⟨hl, ?_⟩, hne⟩
  rcases hown with hn | ⟨g, cap, cur, fz, rfl, h1, hg, rest⟩
  · exact .inl hn
  · have hglt : g < w.heap.size := (Array.getElem?_eq_some_iff.1 hg).1
    exact .inr ⟨g, cap, cur, fz, rfl, h1, by rw [hb.block g hglt]; exact hg, rest⟩
theorem IsB.below {B b : Nat} {l : List UInt8} {w w' : World} (h : IsB B b l w) (hb : Below w.heap.size w w') : IsB B b l w' := at_below h hb
theorem MayB.below {B b : Nat} {l : List UInt8} {w w' : World} (h : MayB B b l w) (hb : Below w.heap.size w w') : MayB B b l w' :=
  h.elim (fun x => .inl (at_below x hb)) (fun x => .inr (at_below x hb))
theorem MayB.fresh {B b : Nat} {w : World} (hB : B ≤ b) (h : w.heap[b]? = some (.cells #[.pointer none, .slice none 0 0] 79 (0, 0))) : MayB B b [] w :=
  .inl ⟨hB, .slice none 0 0, h, World.ownsRowF_nil _ _ _ _, by simp [Value.ownBlock]⟩

theorem writeByte_calls (B b : Nat) (l : List UInt8) (c : UInt8) (w : World) (h : MayB B b l w) (hlen : l.length + 1 ≤ 140737488355328) (hBw : B ≤ w.heap.size) :
    Calls Tryd.prog 37 #[.pointer (some ⟨b, 0, none⟩), .int .u8 c.toNat] w fun e w' => e = .returned .nilIface ∧ IsB B b (l ++ [c]) w' ∧ Below B w w' := by
  refine (Tryd.Builder_WriteByte_k B b (Lib.byteCells l) c.toNat w h (by rw [Lib.byteCells_length]; exact hlen) hBw).mono ?_
  rintro e w' ⟨rfl, h1, h2, _⟩
  rw [cells_snoc] at h1
  exact ⟨rfl, h1, h2⟩

/-- .. and a block that is no row of bytes stands as it stood. -/
theorem writeByteK_calls (B b : Nat) (l : List UInt8) (c : UInt8) (w : World) (h : MayB B b l w) (hlen : l.length + 1 ≤ 140737488355328) (hBw : B ≤ w.heap.size) (q : Nat) (x y : Value)
    (hq : w.heap[q]? = some (.cells #[x, y] 116 (0, 0))) (hqb : q ≠ b) :
    Calls Tryd.prog 37 #[.pointer (some ⟨b, 0, none⟩), .int .u8 c.toNat] w fun e w' => e = .returned .nilIface ∧ IsB B b (l ++ [c]) w' ∧ Below B w w' ∧ w'.cell? ⟨q, 0, none⟩ = some x ∧ w'.cell? ⟨q, 1, none⟩ = some y := by
  refine (Tryd.Builder_WriteByte_k B b (Lib.byteCells l) c.toNat w h (by rw [Lib.byteCells_length]; exact hlen) hBw).mono ?_
  rintro e w' ⟨rfl, h1, h2, h3⟩
  rw [cells_snoc] at h1
  have hk := h3 q _ hq (fun e => hqb (Option.some.inj e)) (fun c fz e => by simp at e)
  exact ⟨rfl, h1, h2, by rw [Lib.cell_of_heap hk]; rfl, by rw [Lib.cell_of_heap hk]; rfl⟩

theorem string_calls (B b : Nat) (l : List UInt8) (w : World) (h : MayB B b l w) (hBw : B ≤ w.heap.size) :
    Calls Tryd.prog 35 #[.pointer (some ⟨b, 0, none⟩)] w fun e w' => e = .returned (.string ⟨l.toArray⟩) ∧ Below B w w' := by
  refine (Tryd.Builder_String_any_k B b l w h hBw).mono ?_
  rintro e w' ⟨rfl, _, h2, _⟩
  exact ⟨rfl, h2⟩

theorem grow_calls (B b n : Nat) (w : World) (hB : B ≤ b) (h : w.heap[b]? = some (.cells #[.pointer none, .slice none 0 0] 79 (0, 0))) (hBw : B ≤ w.heap.size) (hn : n ≤ 281474976710656) :
    Calls Tryd.prog 33 #[.pointer (some ⟨b, 0, none⟩), .int .i64 n] w fun e w' => e = .returned (.tuple #[]) ∧ MayB B b [] w' ∧ Below B w w' := by
  refine (Tryd.Builder_Grow_fresh B b n w hB h hBw hn).mono ?_
  rintro e w' ⟨rfl, h1, h2⟩
  exact ⟨rfl, .inr (Lib.BuilderAtF.of h1), h2⟩

theorem infoByte : (Tryd.prog.info? 5).map (fun i => (i.zero, i.size, i.bytes)) = some (some (.int .u8 0), 1, 1) := by kernel_rfl
theorem neB5 : 79 ≠ 5 := by decide

set_option maxHeartbeats 1000000 in
/-- Write, of two bytes that lie in a block of their own. -/
theorem write2_calls (B b q : Nat) (l : List UInt8) (c d : UInt8) (w : World) (h : IsB B b l w) (hlen : l.length + 2 ≤ 140737488355328) (hBw : B ≤ w.heap.size)
    (hc : w.cell? ⟨q, 0, none⟩ = some (.int .u8 c.toNat)) (hd : w.cell? ⟨q, 1, none⟩ = some (.int .u8 d.toNat)) :
    Calls Tryd.prog 58 #[.pointer (some ⟨b, 0, none⟩), .slice (some ⟨q, 0, none⟩) 2 2] w fun e w' => e = .returned (.tuple #[.int .i64 2, .nilIface]) ∧ IsB B b (l ++ [c, d]) w' ∧ Below B w w' := by
  obtain ⟨i0, hi, hz0, hz1, hz2⟩ := info_parts infoByte
  have HC := Lib.hid ((Any.Builder_copyCheck_used { Tryd.lays167 with } Tryd.Builder_Extra_167.toX72 b w (Lib.BuilderAtF.cell0 h)).mono fun e w' (k : e = .returned (.tuple #[]) ∧ w' = w) => (⟨k.1, k.2.symm⟩ : e = .returned (.tuple #[]) ∧ w = w'))
  have H := Lib.hid h
  have HCc := Lib.hid hc
  have HCd := Lib.hid hd
  obtain ⟨hB, v, hbk, hown, hne⟩ := h
  rw [Lib.byteCells_length] at hown
  have c1 : w.cell? ⟨b, 1, none⟩ = some v := by rw [Lib.cell_of_heap hbk]; rfl
  have HI := Lib.hid hi
  have HZ0 := Lib.hid hz0
  have HZ1 := Lib.hid hz1
  have HZ2 := Lib.hid hz2
  have HBK := Lib.hid hbk
  have HNE := Lib.hid hne
  have HOWN := Lib.hid hown
  clear hi hz0 hz1 hz2 hbk hne hown hc hd
  go_enter Tryd.func58, Tryd.ntmps58
  go_wp2_with fail
  refine HC.out.mono ?_
  rintro e w' ⟨rfl, rfl⟩
  go_wp2_with (at_builtin; refine wpList_append_ownF _ rfl _ _ 38 rfl B 5 i0 (.int .u8 0) 1 1 Tryd.underlying38 HI.out HZ0.out HZ1.out HZ2.out rfl (by decide) _ _ _ rfl HOWN.out ⟨q, 0, none⟩ 2 2 [.int .u8 c.toNat, .int .u8 d.toNat] rfl rfl ?c1 ?c2 ?c3 ?c4 ?c5 ?_)
  case c1 =>
    intro j u hj
    match j, hj with
    | 0, hj => simp at hj; subst hj; simpa [Addr.add] using HCc.out
    | 1, hj => simp at hj; subst hj; simpa [Addr.add] using HCd.out
  case c2 => intro u hu; simp at hu; rcases hu with rfl | rfl <;> rfl
  case c3 => unfold maxLen; omega
  case c4 => omega
  case c5 => omega
  intro v' w2 hown' hgrow _
  have hlt : b < w.heap.size := Lib.BuilderAtF.lt H.out
  have hb2 : w2.heap[b]? = some (.cells #[.pointer (some ⟨b, 0, none⟩), v] 79 (0, 0)) := by
    rw [hgrow.block b hlt (fun e => HNE.out e.symm)]
    exact HBK.out
  have d0 : w2.cell? ⟨b, 0, none⟩ = some (.pointer (some ⟨b, 0, none⟩)) := by rw [Lib.cell_of_heap hb2]; rfl
  have d1 : w2.cell? ⟨b, 1, none⟩ = some v := by rw [Lib.cell_of_heap hb2]; rfl
  have f1 : w2.frozen? ⟨b, 1, none⟩ = false := Lib.frozen_of_heap hb2 1
  have HB2 := Lib.hid hb2
  obtain ⟨g, cap, rfl⟩ : ∃ g cap, v' = .slice (some ⟨g, 0, none⟩) (l.length + 2) cap := by
    rcases hown'.2 with ⟨_, h0⟩ | ⟨g, cap, cur, fz, hv, _⟩
    · omega
    · exact ⟨g, cap, hv⟩
  have HO' := Lib.hid hown'
  have HG := Lib.hid hgrow
  clear hb2 hown' hgrow
  go_wp2
  go_ret2
  refine ⟨rfl, ?_, ?_⟩
  · refine Lib.BuilderAtF.put (T := 79) (e := 5) hB HB2.out (bs' := Lib.byteCells (l ++ [c, d])) ?_ neB5
    rw [← cells_snoc2, List.length_append, Lib.byteCells_length]
    exact HO'.out
  · exact ((Below.refl B w).grown HG.out hBw (fun k hk => (HOWN.out.lt k hk).1)).setCell (p := ⟨b, 1, none⟩) hB _
end Go.Proofs.YtbojhcfofgdoeaaDoor
