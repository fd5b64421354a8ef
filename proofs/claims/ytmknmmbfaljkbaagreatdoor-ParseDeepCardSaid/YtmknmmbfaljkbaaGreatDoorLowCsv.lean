/- Contracts of a lower layer, several texts in one. -/
import Derived.Test.YtmknmmbfaljkbaaGreatDoorShelfAll
import Derived.Test.YtmknmmbfaljkbaaGreatDoorBase
import Derived.WalkKit
import Derived.WalkSpells
import Derived.WalkLawsBesides
import Derived.Lib.Hide
import Derived.LoopTactic
import Derived.Test.YtmknmmbfaljkbaaGreatDoorLowMem
import Derived.Maps.AppendAt
import Derived.OwnWalk
import Derived.Laws.StructEq
/- ShelfCsv -/


/- CsvText -/
namespace Go.Proofs.YtmknmmbfaljkbaaGreatDoor
open Go.RowKit
set_option linter.unusedVariables false

theorem cs_size (a : ByteArray) : a.size = a.data.toList.length := by rw [Array.length_toList]; rfl
theorem cs_tl (a : ByteArray) : a.toList = a.data.toList := ByteArray.toList_eq a
theorem cs_of {a : ByteArray} {l : List UInt8} (h : a.data.toList = l) : a = ⟨l.toArray⟩ := by subst h; rfl
theorem cs_drop (s : ByteArray) (k : Nat) : (s.extract k s.size).data.toList = s.data.toList.drop k := by
  rw [ByteArray.data_extract]
  simp
  exact List.take_of_length_le (by simp)
theorem cs_take (s : ByteArray) (k : Nat) : (s.extract 0 k).data.toList = s.data.toList.take k := by
  rw [ByteArray.data_extract]
  simp
theorem cs_at (s : ByteArray) (k : Nat) (h : k < s.size) : s.data.toList[k]? = some s[k] := by
  have h' : k < s.data.toList.length := by rw [← cs_size]; exact h
  rw [List.getElem?_eq_getElem h']; rfl
theorem cs_cons (s : ByteArray) (k : Nat) (h : k < s.size) : s.data.toList.drop k = s[k] :: s.data.toList.drop (k + 1) := by
  rw [List.drop_eq_getElem_cons (by rw [← cs_size]; exact h)]; rfl
theorem cs_ne {c : UInt8} {n : Nat} (hn : n < 256) : c = UInt8.ofNat n ↔ c.toNat = n := by
  constructor
  · rintro rfl; simp; omega
  · intro h; exact UInt8.toNat_inj.1 (by simp; omega)
theorem cs_beq (c : UInt8) (n : Nat) (hn : n < 256) : ((c.toNat : Int) == (n : Int)) = (c == UInt8.ofNat n) := by
  rw [Bool.eq_iff_iff, beq_iff_eq, beq_iff_eq, cs_ne hn]; omega
theorem hp_one (l : List UInt8) (c : UInt8) : Lib.hasPrefix l [c] = (l.head? == some c) := by
  unfold Lib.hasPrefix
  cases l with
  | nil => rfl
  | cons d r =>
    by_cases h : c = d
    · subst h; simp
    · have h2 : (c == d) = false := by simpa using h
      have h3 : (d == c) = false := by simpa using fun e : d = c => h e.symm
      simp [List.isPrefixOf, h2, h3]

theorem pre_calls1 (s : ByteArray) (c : UInt8) (w : World) :
    Calls Tryz.prog 71 #[.string s, .string ⟨#[c]⟩] w fun e w' => e = .returned (.bool (s.data.toList.head? == some c)) ∧ w = w' := by
  refine (Tryz.strings_HasPrefix s ⟨#[c]⟩ w).mono ?_
  rintro e w' ⟨rfl, rfl⟩
  refine ⟨?_, rfl⟩
  rw [show (⟨#[c]⟩ : ByteArray).data.toList = [c] from rfl, hp_one]
theorem pre_calls2 (s : ByteArray) (c d : UInt8) (w : World) :
    Calls Tryz.prog 71 #[.string s, .string ⟨#[c, d]⟩] w fun e w' => e = .returned (.bool ([c, d].isPrefixOf s.data.toList)) ∧ w = w' := by
  refine (Tryz.strings_HasPrefix s ⟨#[c, d]⟩ w).mono ?_
  rintro e w' ⟨rfl, rfl⟩
  exact ⟨rfl, rfl⟩
end Go.Proofs.YtmknmmbfaljkbaaGreatDoor

/- CsvOwn -/
namespace Go.Proofs.YtmknmmbfaljkbaaGreatDoor
open Go.RowKit
set_option linter.unusedVariables false

theorem cs_infoU8 : (Tryz.prog.info? 5).map (fun i => (i.zero, i.size, i.bytes)) = some (some (.int .u8 0), 1, 1) := by kernel_rfl
theorem cs_infoS : (Tryz.prog.info? 9).map (fun i => (i.zero, i.size, i.bytes)) = some (some (.string ⟨#[]⟩), 1, 16) := by kernel_rfl
theorem cs_infoT : (Tryz.prog.info? 111).map (fun i => (i.zero, i.size, i.bytes)) = some (some (.slice none 0 0), 1, 24) := by kernel_rfl
/-- The cells of texts. -/
def strsV (L : List (List UInt8)) : List Value := L.map fun t => .string ⟨t.toArray⟩
theorem strsV_len (L : List (List UInt8)) : (strsV L).length = L.length := by simp [strsV]
theorem strsV_app (L M : List (List UInt8)) : strsV (L ++ M) = strsV L ++ strsV M := by simp [strsV]
/-- A list of texts in memory. -/
structure TIn (w : World) (a : Option Addr) (len : Nat) (L : List (List UInt8)) : Prop where
  leng : L.length = len
  small : len ≤ 9223372036854775807
  row : 0 < len → ∃ g off, a = some ⟨g, off, none⟩ ∧ g < w.heap.size ∧ ∀ j t, L[j]? = some t → w.cell? ⟨g, off + j, none⟩ = some (.string ⟨t.toArray⟩)
theorem TIn.below {w w' : World} {a : Option Addr} {len : Nat} {L : List (List UInt8)} (h : TIn w a len L) (hb : Below w.heap.size w w') : TIn w' a len L :=
  ⟨h.leng, h.small, fun h0 => by
    obtain ⟨g, off, e, hg, hr⟩ := h.row h0
    exact ⟨g, off, e, Nat.lt_of_lt_of_le hg hb.size, fun j t hj => (hb.cell (p := ⟨g, off + j, none⟩) hg).trans (hr j t hj)⟩⟩
theorem TIn.nil {w : World} {a : Option Addr} : TIn w a 0 [] := ⟨rfl, by omega, fun h => by omega⟩
theorem TIn.grown {w w' : World} {row : Option Nat} {a : Option Addr} {len : Nat} {L : List (List UInt8)} (h : TIn w a len L) (hg : w.grownBy w' row) (hne : ∀ g off, a = some ⟨g, off, none⟩ → some g ≠ row) : TIn w' a len L :=
  ⟨h.leng, h.small, fun h0 => by
    obtain ⟨g, off, e, hlt, hr⟩ := h.row h0
    exact ⟨g, off, e, Nat.lt_of_lt_of_le hlt hg.size, fun j t hj => (World.cell?_of_block (a := ⟨g, off + j, none⟩) (hg.block g hlt (hne g off e))).trans (hr j t hj)⟩⟩
/-- The text at a place. -/
theorem TIn.at' {w w' : World} {a : Option Addr} {len : Nat} {L : List (List UInt8)} (h : TIn w a len L) (hb : Below w.heap.size w w') {n : Nat} (hn : n < len) :
    ∃ g off, a = some ⟨g, off, none⟩ ∧ w'.cell? ⟨g, off + n, none⟩ = some (.string ⟨(L.getD n []).toArray⟩) := by
  obtain ⟨g, off, e, hg, hr⟩ := (h.below hb).row (by omega)
  have : L[n]? = some (L.getD n []) := by
    have hl : n < L.length := by rw [h.leng]; exact hn
    simp [List.getD, hl]
  exact ⟨g, off, e, hr n _ this⟩
/-- The place of a slice is a block of texts. -/
def TObj (w : World) (a : Option Addr) : Prop := ∀ g off, a = some ⟨g, off, none⟩ → CBlk w g 9
theorem TObj.below {w w' : World} {a : Option Addr} (h : TObj w a) (hb : Below w.heap.size w w') : TObj w' a := fun g off e => (h g off e).below hb
theorem TObj.grown {w w' : World} {a : Option Addr} {u : TypeId} {r : Nat} (h : TObj w a) (hr : CBlk w r u) (hne : 9 ≠ u) (hg : w.grownBy w' (some r)) : TObj w' a := fun g off e =>
  (h g off e).grown hg (fun k => (h g off e).ne hr hne (Option.some.inj k))
theorem TObj.ne {w : World} {a : Option Addr} {u : TypeId} {r : Nat} (h : TObj w a) (hr : CBlk w r u) (hne : 9 ≠ u) : ∀ g off, a = some ⟨g, off, none⟩ → some g ≠ some r := fun g off e k =>
  (h g off e).ne hr hne (Option.some.inj k)
/-- Texts that a call has gathered. -/
theorem own_tin {B : Nat} {o : Value} {L : List (List UInt8)} {w : World} (h : w.ownsRow B 9 1 o L.length (strsV L)) :
    ∃ a cap, o = .slice a L.length cap ∧ TIn w a L.length L ∧ TObj w a := by
  obtain ⟨hl, hown⟩ := h
  rcases hown with ⟨rfl, h0⟩ | ⟨g, cap, cur, rfl, h1, hg, hcap, hm, hsz, htk⟩
  · refine ⟨none, 0, by rw [h0], ⟨rfl, by omega, fun h => by omega⟩, fun g off e => by cases e⟩
  · refine ⟨_, cap, rfl, ⟨rfl, by unfold maxLen at hm; omega, fun _ => ⟨g, 0, rfl, (Array.getElem?_eq_some_iff.1 hg).1, fun j t hj => ?_⟩⟩, fun g' off e => ?_⟩
    · have hjl : j < L.length := (List.getElem?_eq_some_iff.1 hj).1
      rw [Nat.zero_add, cell_of_row w g j cur _ (0, 0) hg]
      have hv : (strsV L)[j]? = some (.string ⟨t.toArray⟩) := by simp [strsV, hj]
      rw [← htk, List.getElem?_take, if_pos (by omega)] at hv
      simpa using hv
    · simp only [Option.some.injEq, Addr.mk.injEq] at e
      rw [← e.1]
      exact ⟨cur, _, hg⟩

/-- .. and the slice's room. -/
theorem own_tin2 {B : Nat} {o : Value} {L : List (List UInt8)} {w : World} (h : w.ownsRow B 9 1 o L.length (strsV L)) :
    ∃ a cap, o = .slice a L.length cap ∧ TIn w a L.length L ∧ TObj w a ∧ L.length ≤ cap ∧ cap ≤ 9223372036854775807 := by
  obtain ⟨a, cap, e, h1, h2⟩ := own_tin h
  refine ⟨a, cap, e, h1, h2, ?_⟩
  obtain ⟨hl, hown⟩ := h
  rcases hown with ⟨e2, h0⟩ | ⟨g, cap', cur, e2, h1, hg, hcap, hm, hsz, htk⟩
  · rw [e] at e2
    simp only [Value.slice.injEq] at e2
    omega
  · rw [e] at e2
    simp only [Value.slice.injEq] at e2
    unfold maxLen at hm
    omega

/-- Lists of texts that slices stand for. -/
structure Rs (w : World) (us : List Value) (LL : List (List (List UInt8))) : Prop where
  leng : us.length = LL.length
  at' : ∀ n, n < LL.length → ∃ a c, us[n]? = some (.slice a (LL.getD n []).length c) ∧ TIn w a (LL.getD n []).length (LL.getD n []) ∧ TObj w a
theorem Rs.nil (w : World) : Rs w [] [] := ⟨rfl, fun n hn => by simp at hn⟩
theorem Rs.below {w w' : World} {us : List Value} {LL : List (List (List UInt8))} (h : Rs w us LL) (hb : Below w.heap.size w w') : Rs w' us LL := ⟨h.leng, fun n hn => by
  obtain ⟨a, c, e, hs, ho⟩ := h.at' n hn
  exact ⟨a, c, e, hs.below hb, ho.below hb⟩⟩
theorem Rs.grown {w w' : World} {us : List Value} {LL : List (List (List UInt8))} {u : TypeId} {r : Nat} (h : Rs w us LL) (hr : CBlk w r u) (hne : 9 ≠ u) (hg : w.grownBy w' (some r)) : Rs w' us LL := ⟨h.leng, fun n hn => by
  obtain ⟨a, c, e, hs, ho⟩ := h.at' n hn
  exact ⟨a, c, e, hs.grown hg (ho.ne hr hne), ho.grown hr hne hg⟩⟩
theorem Rs.grownRow {w w' : World} {us vs : List Value} {LL : List (List (List UInt8))} {B : Nat} {u : TypeId} {o : Value} {n k : Nat} (h : Rs w us LL) (ho : w.ownsRow B u k o n vs) (hne : 9 ≠ u) (hg : w.grownBy w' o.ownBlock) : Rs w' us LL := by
  cases e : o.ownBlock with
  | none =>
    rw [e] at hg
    exact ⟨h.leng, fun n hn => by
      obtain ⟨a, c, e, hs, ho⟩ := h.at' n hn
      exact ⟨a, c, e, hs.grown hg (fun _ _ _ k => by cases k), fun g off e => (ho g off e).grown hg (fun k => by cases k)⟩⟩
  | some r =>
    rw [e] at hg
    exact h.grown (CBlk.row ho e) hne hg
theorem Rs.snoc {w : World} {us : List Value} {LL : List (List (List UInt8))} {a : Option Addr} {c : Nat} {L : List (List UInt8)} (h : Rs w us LL) (hs : TIn w a L.length L) (ho : TObj w a) : Rs w (us ++ [.slice a L.length c]) (LL ++ [L]) :=
  ⟨by simp [h.leng], fun n hn => by
    by_cases e : n < LL.length
    · obtain ⟨a', c', e1, hs', ho'⟩ := h.at' n e
      have e2 : (LL ++ [L]).getD n [] = LL.getD n [] := by simp [List.getD, List.getElem?_append_left e]
      rw [e2]
      exact ⟨a', c', by rw [List.getElem?_append_left (by rw [h.leng]; exact e)]; exact e1, hs', ho'⟩
    · have en : n = LL.length := by simp at hn; omega
      subst en
      have e2 : (LL ++ [L]).getD LL.length [] = L := by simp [List.getD]
      rw [e2]
      exact ⟨a, c, by rw [← h.leng]; simp, hs, ho⟩⟩
/-- A list of lists of texts in memory. -/
structure RIn (w : World) (a : Option Addr) (len : Nat) (LL : List (List (List UInt8))) (vs : List Value) : Prop where
  vals : Rs w vs LL
  leng : LL.length = len
  small : len ≤ 9223372036854775807
  row : 0 < len → ∃ g off, a = some ⟨g, off, none⟩ ∧ g < w.heap.size ∧ ∀ j u, vs[j]? = some u → w.cell? ⟨g, off + j, none⟩ = some u
theorem RIn.below {w w' : World} {a : Option Addr} {len : Nat} {LL : List (List (List UInt8))} {vs : List Value} (h : RIn w a len LL vs) (hb : Below w.heap.size w w') : RIn w' a len LL vs :=
  ⟨h.vals.below hb, h.leng, h.small, fun h0 => by
    obtain ⟨g, off, e, hg, hr⟩ := h.row h0
    exact ⟨g, off, e, Nat.lt_of_lt_of_le hg hb.size, fun j u hj => (hb.cell (p := ⟨g, off + j, none⟩) hg).trans (hr j u hj)⟩⟩
/-- The list of texts at a place. -/
theorem RIn.at' {w w' : World} {a : Option Addr} {len : Nat} {LL : List (List (List UInt8))} {vs : List Value} (h : RIn w a len LL vs) (hb : Below w.heap.size w w') {n : Nat} (hn : n < len) :
    ∃ g off b c, a = some ⟨g, off, none⟩ ∧ w'.cell? ⟨g, off + n, none⟩ = some (.slice b (LL.getD n []).length c) ∧ TIn w' b (LL.getD n []).length (LL.getD n []) := by
  have h' := h.below hb
  obtain ⟨g, off, e, hg, hr⟩ := h'.row (by omega)
  obtain ⟨b, c, e1, hs, _⟩ := h'.vals.at' n (by rw [h'.leng]; exact hn)
  exact ⟨g, off, b, c, e, hr n _ e1, hs⟩
theorem own_rin {B : Nat} {o : Value} {LL : List (List (List UInt8))} {vs : List Value} {w : World} (h : w.ownsRow B 111 1 o LL.length vs) (hv : Rs w vs LL) : ∃ a cap, o = .slice a LL.length cap ∧ RIn w a LL.length LL vs := by
  obtain ⟨hl, hown⟩ := h
  rcases hown with ⟨rfl, h0⟩ | ⟨g, cap, cur, rfl, h1, hg, hcap, hm, hsz, htk⟩
  · exact ⟨none, 0, by rw [h0], ⟨hv, rfl, by omega, fun h => by omega⟩⟩
  · refine ⟨_, cap, rfl, ⟨hv, rfl, by unfold maxLen at hm; omega, fun _ => ⟨g, 0, rfl, (Array.getElem?_eq_some_iff.1 hg).1, fun j u hj => ?_⟩⟩⟩
    have hjl : j < LL.length := by rw [← hv.leng]; exact (List.getElem?_eq_some_iff.1 hj).1
    rw [Nat.zero_add, cell_of_row w g j cur _ (0, 0) hg]
    rw [← htk, List.getElem?_take, if_pos (by omega)] at hj
    simpa using hj

/-- append of one byte to bytes of the call's own. -/
theorem wpList_append_c {w : World} {ops : Array Oper} {rest : List Oper} {o : Oper} {a : Act} {Q : Exit → Act → World → Prop} (hgd : o.guard = none) (s x : Operand)
    (ho : o.op = .call { callee := .builtin .append, args := #[s, x], argTypes := #[43, 43] }) (B : Nat) (v : Value) (t : List UInt8) (hs : a.eval s = v) (w1 : World) (c : UInt8) (hw : w = w1.alloc (.cells #[.int .u8 c.toNat] 5)) (hown : w1.ownsRow B 5 1 v t.length (Lib.byteCells t))
    (m k : Nat) (hx : a.eval x = .slice (some ⟨w1.heap.size, 0, none⟩) 1 k) (hsz : t.length ≤ 1000000000) (hbase : B ≤ w1.heap.size) (A : Nat) (w0 : World) (hb : Below A w0 w1) (hA : A ≤ B)
    (h : ∀ v' w', Hid (w'.ownsRow B 5 1 v' (t ++ [c]).length (Lib.byteCells (t ++ [c]))) → Hid (Below A w0 w') → wpList Tryz.prog ops Q rest (a.put o.dst v') w') : wpList Tryz.prog ops Q (o :: rest) a w := by
  subst hw
  obtain ⟨i0, hi, hz0, hz1, hz2⟩ := cs_parts cs_infoU8
  refine wpList_append_own _ hgd s x 43 ho B 5 i0 (.int .u8 0) 1 1 Tryz.underlying43 hi hz0 hz1 hz2 rfl (by decide) v t.length (Lib.byteCells t) hs (hown.alloc _) ⟨w1.heap.size, 0, none⟩ 1 k [.int .u8 c.toNat] hx rfl (cs_new w1 _ _) (by intro u hu; simp at hu; subst hu; rfl) (by unfold maxLen; omega) (by omega) (by simp; omega) ?_
  intro v' w' h1 h2 _
  refine h v' w' (Lib.hid ?_) (Lib.hid ((hb.alloc (Nat.le_trans hA hbase) _).grown h2 (by simp; omega) (fun k hk => Nat.le_trans hA (hown.lt k hk).1)))
  rw [List.length_append]
  have : Lib.byteCells (t ++ [c]) = Lib.byteCells t ++ [.int .u8 c.toNat] := by simp [Lib.byteCells]
  rw [this]
  exact h1
/-- The bytes that the call has gathered, as a text. -/
theorem cs_text {B : Nat} {v : Value} {t : List UInt8} {w : World} (h : w.ownsRow B 5 1 v t.length (Lib.byteCells t)) :
    (convert 43 9 v).run Tryz.prog w = .ok (.string ⟨t.toArray⟩) w := by
  obtain ⟨hl, hown⟩ := h
  rcases hown with ⟨rfl, h0⟩ | ⟨g, cap, cur, rfl, h1, hg, hcap, hm, hsz, htk⟩
  · have : t = [] := List.length_eq_zero_iff.1 h0
    subst this
    rw [run_convert_bytes_string w 43 9 5 none 0 0 Tryz.underlying43 Tryz.underlying5 Tryz.underlying9]
    simp [Conv.bytesToString]
    rfl
  · refine run_convert_bytes_back w 43 9 5 ⟨g, 0, none⟩ cap t Tryz.underlying43 Tryz.underlying5 Tryz.underlying9 fun j hj => ?_
    have hadd : (⟨g, 0, none⟩ : Addr).add j = ⟨g, j, none⟩ := by unfold Addr.add; split <;> simp_all
    rw [hadd, cell_of_row w g j cur 5 (0, 0) hg]
    have h2 : (Lib.byteCells t)[j]? = some (.int .u8 (t[j].toNat : Int)) := by simp [Lib.byteCells, hj]
    rw [← htk, Nat.mul_one, List.getElem?_take, if_pos hj] at h2
    simpa using h2
end Go.Proofs.YtmknmmbfaljkbaaGreatDoor

/- CsvKeep -/
namespace Go.Proofs.YtmknmmbfaljkbaaGreatDoor
open Go.RowKit
set_option linter.unusedVariables false

/-- The library's variable that holds the type of errors. -/
def ErrT (w : World) : Prop := w.cell? ⟨0, 0, none⟩ = some (.iface 119 (.agg #[.pointer (some ⟨10, 62, none⟩)]))
theorem ErrT.below {w w' : World} (h : ErrT w) (hb : Below w.heap.size w w') : ErrT w' := (hb.cell (p := ⟨0, 0, none⟩) (block_lt_of_cell h)).trans h
def failV (e line col : Nat) : Value := .agg #[.int .i64 (e : Nat), .int .i64 (line : Nat), .int .i64 (col : Nat)]
end Go.Proofs.YtmknmmbfaljkbaaGreatDoor

/- CsvFail -/
namespace Go.Proofs.YtmknmmbfaljkbaaGreatDoor
open Go.RowKit
set_option linter.unusedVariables false

set_option maxRecDepth 100000 in
theorem failEq (e l c e' l' c' : Nat) (w : World) : (Op.equalIn 10000 26 (.agg #[.int .i64 (e : Nat), .int .i64 (l : Nat), .int .i64 (c : Nat)]) (.agg #[.int .i64 (e' : Nat), .int .i64 (l' : Nat), .int .i64 (c' : Nat)])).run Tryz.prog w = .ok (decide (e = e' ∧ l = l' ∧ c = c')) w := by
  rw [run_equalIn_agg w 9999 _ _ _ (by simp only [Program.fieldsOf, Tryz.underlying26]) (by kernel_rfl)]
  simp only [Program.fieldsOf, Tryz.underlying26]
  go_simp
  repeat' split
  all_goals simp_all
  all_goals omega
theorem failGuard : Tryz.prog.eqGuardType Tryz.prog.depth 26 = false := by kernel_rfl
end Go.Proofs.YtmknmmbfaljkbaaGreatDoor
