/- What key.put does: it lays a value's key. -/
import Derived.Test.YtjohiehlnbgdaaaDoorKeyPut
namespace Go.Proofs.YtjohiehlnbgdaaaDoor
open Go.RowKit
set_option linter.unusedVariables false

theorem rep_cell {g : Nat} {p : List UInt8} {m : Nat} {w : World} (h : Holds g (p ++ List.replicate m 0) w) (j : Nat) (hj : j < m) : w.cell? ⟨g, p.length + j, none⟩ = some (.int .u8 0) := by
  have := h.cell (j := p.length + j) (c := 0) (by rw [List.getElem?_append_right (by omega), Nat.add_sub_cancel_left, List.getElem?_replicate, if_pos hj])
  simpa using this
theorem rep_set {g : Nat} {p : List UInt8} {m : Nat} {w : World} (h : Holds g (p ++ List.replicate (m + 1) 0) w) (c : UInt8) : Holds g ((p ++ [c]) ++ List.replicate m 0) (w.setCell ⟨g, p.length, none⟩ (.int .u8 c.toNat)) := by
  have := h.set p.length c
  rw [List.set_append, if_neg (by omega), Nat.sub_self, List.replicate_succ, List.set_cons_zero] at this
  simpa using this

/-- What put leaves behind its first store. -/
theorem put_first {g m : Nat} {p : List UInt8} {w : World} (h : Holds g (p ++ List.replicate (m + 1) 0) w) (o : Obj) (c : UInt8) :
    Holds g ((p ++ [c]) ++ List.replicate m 0) ((w.setCell ⟨g, p.length, none⟩ (.int .u8 c.toNat)).alloc o) ∧ But g w ((w.setCell ⟨g, p.length, none⟩ (.int .u8 c.toNat)).alloc o) :=
  ⟨(rep_set h c).alloc o, ((But.refl g w).set _).alloc o⟩
theorem Boxed.newSet (k i : Int) (s : ByteArray) (b : Bool) (w : World) (t : TypeId) (a : Addr) (x : Value) : Boxed w.heap.size k i s b ((w.setCell a x).alloc (.cells #[.int .i64 k, .int .i64 i, .string s, .bool b] t)) := by
  have h := Boxed.new k i s b (w.setCell a x) t
  rw [World.size_setCell] at h
  exact h

set_option maxHeartbeats 2000000 in
theorem put1_calls (g len m cap : Nat) (p : List UInt8) (i : Int) (w : World) (hlen : len = m + 9) (h : Holds g (p ++ List.replicate len 0) w) (hlc : len ≤ cap) (hl : len ≤ 1000000000) (hi : -9223372036854775808 ≤ i ∧ i ≤ 9223372036854775807) :
    Calls Tryd.prog 52 #[.slice (some ⟨g, p.length, none⟩) len cap, .agg #[.int .i64 1, .int .i64 i, .string ⟨#[]⟩, .bool false]] w fun e w' => e = .returned (.int .i64 9) ∧ Holds g (p ++ (1 :: numL 8 (i + 9223372036854775808).toNat) ++ List.replicate m 0) w' ∧ But g w w' := by
  have hg : g < w.heap.size := h.lt
  have hc := rep_cell h 0 (by omega)
  have hf := h.frozen p.length
  have hlen1 : len = (m + 8) + 1 := by omega
  rw [hlen1] at h
  have hP := put_first h (.cells #[.int .i64 1, .int .i64 i, .string ⟨#[]⟩, .bool false] 34) 1
  have HB := Lib.hid (Boxed.newSet 1 i ⟨#[]⟩ false w 34 ⟨g, p.length, none⟩ (.int .u8 (1 : UInt8).toNat))
  have HN := Lib.hid (fun w1 (hw : Holds g ((p ++ [1]) ++ List.replicate (m + 8) 0) w1) (_ : But g w w1) => putNumber_calls g (m + 8) (cap - 1) (p ++ [1]) (List.replicate (m + 8) 0) i w1 hw (by simp) (by omega) (by omega) hi)
  have e1 : (p ++ [(1 : UInt8)]).length = p.length + 1 := by simp
  rw [e1] at HN
  clear e1 hi
  rw [Nat.add_zero] at hc
  obtain ⟨off, hoff⟩ : ∃ off, off = p.length := ⟨_, rfl⟩
  rw [← hoff] at hc hf hP HB HN ⊢
  have HP := Lib.hid hP
  have HD : Hid (List.drop 8 (List.replicate (m + 8) (0 : UInt8)) = List.replicate m 0) := Lib.hid (by simp)
  have hc1 : ¬ cap = 1 := by omega
  have hb1 : (1 : Int) ≤ (len : Int) := by omega
  have hne : w.heap.size ≠ g := by omega
  have HNE := Lib.hid hne
  have u1 : ((1 : UInt8).toNat : Int) = 1 := rfl
  rw [u1] at HB HP
  have HLen1 : Hid (len - 1 = (m + 8)) := Lib.hid (by omega)
  rw [← HLen1.out] at HN HP HD
  clear hoff hP h u1 hlen hlen1 hne
  go_enter Tryd.func52, Tryd.ntmps52
  go_wp2_with fail
  go_region_held3 (fun w1 => w1.cell? ⟨w.heap.size, 0, none⟩ = some (.int .i64 1) ∧ w1.cell? ⟨w.heap.size, 1, none⟩ = some (.int .i64 i) ∧ w1.cell? ⟨w.heap.size, 2, none⟩ = some (.string ⟨#[]⟩) ∧ w1.cell? ⟨w.heap.size, 3, none⟩ = some (.bool false)) (first | exact HB2.out | exact HB.out) (first
    | (go_at_call 63; refine (HN.out _ HP.out.1.drew HP.out.2.drew).mono ?_; rintro e w4 ⟨rfl, k5, k6⟩; have HB2 := Lib.hid (k6.boxed HB.out.drew HNE.out); have HH := Lib.hid k5; have HW := Lib.hid (HP.out.2.drew.trans k6)))
  go_wp2_with fail
  go_ret
  refine ⟨rfl, ?_, HW.out⟩
  have h5 := HH.out
  rw [HD.out] at h5
  simpa using h5

set_option maxHeartbeats 2000000 in
theorem put2_calls (g len m cap : Nat) (p : List UInt8) (s : ByteArray) (w : World) (hlen : len = m + (1 + ((escL s.toList).length + 2))) (h : Holds g (p ++ List.replicate len 0) w) (hlc : len ≤ cap) (hl : len ≤ 1000000000) (hs : s.size ≤ 4096) (hm : MaxAt w) (hmx : g ≠ 0) :
    Calls Tryd.prog 52 #[.slice (some ⟨g, p.length, none⟩) len cap, .agg #[.int .i64 2, .int .i64 0, .string s, .bool false]] w fun e w' => e = .returned (.int .i64 ((1 + ((escL s.toList).length + 2) : Nat) : Int)) ∧ Holds g (p ++ (2 :: (escL s.toList ++ [0, 1])) ++ List.replicate m 0) w' ∧ But g w w' := by
  have hg : g < w.heap.size := h.lt
  have hc := rep_cell h 0 (by omega)
  have hf := h.frozen p.length
  have hlen1 : len = (m + ((escL s.toList).length + 2)) + 1 := by omega
  rw [hlen1] at h
  have hP := put_first h (.cells #[.int .i64 2, .int .i64 0, .string s, .bool false] 34) 2
  have HB := Lib.hid (Boxed.newSet 2 0 s false w 34 ⟨g, p.length, none⟩ (.int .u8 (2 : UInt8).toNat))
  have HN := Lib.hid (fun w1 (hw : Holds g ((p ++ [2]) ++ List.replicate (m + ((escL s.toList).length + 2)) 0) w1) (hb : But g w w1) => putText_calls g (m + ((escL s.toList).length + 2)) (cap - 1) (p ++ [2]) (List.replicate (m + ((escL s.toList).length + 2)) 0) s w1 hw (by simp) (by omega) (by omega) (by omega) (by omega) (by
    obtain ⟨x, hx⟩ := hm
    refine ⟨x, World.grownBy.cell hb hx ?_⟩
    intro e
    exact hmx (Option.some.inj e).symm))
  have e1 : (p ++ [(2 : UInt8)]).length = p.length + 1 := by simp
  rw [e1] at HN
  clear e1
  rw [Nat.add_zero] at hc
  obtain ⟨off, hoff⟩ : ∃ off, off = p.length := ⟨_, rfl⟩
  rw [← hoff] at hc hf hP HB HN ⊢
  have HP := Lib.hid hP
  have hel := escL_le s.toList
  rw [tl_len] at hel
  obtain ⟨n, hn⟩ : ∃ n, n = (escL s.toList).length := ⟨_, rfl⟩
  have HD : Hid (List.drop ((escL s.toList).length + 2) (List.replicate (m + ((escL s.toList).length + 2)) (0 : UInt8)) = List.replicate m 0) := Lib.hid (by simp)
  rw [← hn] at HN HD hlen hel hlen1 HP ⊢
  clear hn
  have hc1 : ¬ cap = 1 := by omega
  have hb1 : (1 : Int) ≤ (len : Int) := by omega
  have hne : w.heap.size ≠ g := by omega
  have HNE := Lib.hid hne
  have u1 : ((2 : UInt8).toNat : Int) = 2 := rfl
  rw [u1] at HB HP
  have HLen1 : Hid (len - 1 = (m + (n + 2))) := Lib.hid (by omega)
  rw [← HLen1.out] at HN HP HD
  clear hoff hP h u1 hlen hlen1 hne
  go_enter Tryd.func52, Tryd.ntmps52
  go_wp2_with fail
  go_region_held3 (fun w1 => w1.cell? ⟨w.heap.size, 0, none⟩ = some (.int .i64 2) ∧ w1.cell? ⟨w.heap.size, 1, none⟩ = some (.int .i64 0) ∧ w1.cell? ⟨w.heap.size, 2, none⟩ = some (.string s) ∧ w1.cell? ⟨w.heap.size, 3, none⟩ = some (.bool false)) (first | exact HB2.out | exact HB.out) (first
    | (go_at_call 64; refine (HN.out _ HP.out.1.drew HP.out.2.drew).mono ?_; rintro e w4 ⟨rfl, k5, k6⟩; have HB2 := Lib.hid (k6.boxed HB.out.drew HNE.out); have HH := Lib.hid k5; have HW := Lib.hid (HP.out.2.drew.trans k6)))
  go_wp2_with fail
  go_ret
  have hsum : IntKind.i64.wrap (1 + ((n : Int) + 2)) = ((1 + (n + 2) : Nat) : Int) := by
    simp only [IntKind.wrap_i64]; push_cast; omega
  refine ⟨by rw [hsum]; rfl, ?_, HW.out⟩
  have h5 := HH.out
  rw [HD.out] at h5
  simpa using h5

set_option maxHeartbeats 2000000 in
theorem put3_calls (g len m cap : Nat) (p : List UInt8) (b : Bool) (w : World) (hlen : len = m + 2) (h : Holds g (p ++ List.replicate len 0) w) (hlc : len ≤ cap) (hl : len ≤ 1000000000) :
    Calls Tryd.prog 52 #[.slice (some ⟨g, p.length, none⟩) len cap, .agg #[.int .i64 3, .int .i64 0, .string ⟨#[]⟩, .bool b]] w fun e w' => e = .returned (.int .i64 2) ∧ Holds g (p ++ [3, if b = true then 1 else 0] ++ List.replicate m 0) w' ∧ But g w w' := by
  have hg : g < w.heap.size := h.lt
  have hc := rep_cell h 0 (by omega)
  have hd := rep_cell h 1 (by omega)
  have hf := h.frozen p.length
  have hf2 := h.frozen (p.length + 1)
  have hlen1 : len = (m + 1) + 1 := by omega
  rw [hlen1] at h
  have HP := Lib.hid (rep_set h 3)
  have HQ := Lib.hid (rep_set (rep_set h 3) 1)
  have e1 : (p ++ [(3 : UInt8)]).length = p.length + 1 := by simp
  rw [e1] at HQ
  rw [Nat.add_zero] at hc
  obtain ⟨off, hoff⟩ : ∃ off, off = p.length := ⟨_, rfl⟩
  rw [← hoff] at hc hd hf hf2 HP HQ ⊢
  have hb1 : (1 : Int) < (len : Int) := by omega
  have u3 : ((3 : UInt8).toNat : Int) = 3 := rfl
  have u1 : ((1 : UInt8).toNat : Int) = 1 := rfl
  rw [u3] at HP HQ
  rw [u1] at HQ
  clear hoff h hlen hlen1 e1 u1 u3
  cases b
  · go_enter Tryd.func52, Tryd.ntmps52
    go_wp2_with fail
    go_ret
    refine ⟨rfl, ?_, ((But.refl g w).set _).alloc _⟩
    have h5 := HP.out.alloc (.cells #[.int .i64 3, .int .i64 0, .string ⟨#[]⟩, .bool false] 34)
    rw [List.replicate_succ] at h5
    simpa using h5
  · go_enter Tryd.func52, Tryd.ntmps52
    go_wp2_with fail
    go_ret
    refine ⟨rfl, ?_, (((But.refl g w).set _).set _).alloc _⟩
    have h5 := HQ.out.alloc (.cells #[.int .i64 3, .int .i64 0, .string ⟨#[]⟩, .bool true] 34)
    simpa using h5

theorem put_calls (g len m cap : Nat) (p : List UInt8) (v : Vd) (w : World) (hv : rightD v) (hlen : len = m + (keyV v).length) (h : Holds g (p ++ List.replicate len 0) w) (hlc : len ≤ cap) (hl : len ≤ 1000000000) (hm : MaxAt w) (hmx : g ≠ 0) :
    Calls Tryd.prog 52 #[.slice (some ⟨g, p.length, none⟩) len cap, .agg #[.int .i64 v.k, .int .i64 v.i, .string v.s, .bool v.b]] w fun e w' => e = .returned (.int .i64 ((keyV v).length : Nat)) ∧ Holds g (p ++ keyV v ++ List.replicate m 0) w' ∧ But g w w' := by
  rcases right_three hv with ⟨u, hu, rfl, e⟩ | ⟨t, ht, rfl, e⟩ | ⟨b, rfl, e⟩ <;> rw [e] at hlen ⊢
  · simp [numL_len] at hlen
    refine (put1_calls g len m cap p _ w hlen h hlc hl ⟨by simp only; omega, by simp only; omega⟩).mono ?_
    rintro e w' ⟨rfl, h1, h2⟩
    rw [show ((u : Int) - 9223372036854775808 + 9223372036854775808).toNat = u by omega] at h1
    exact ⟨by simp [numL_len], h1, h2⟩
  · have e2 : (2 :: (escL t ++ [0, 1])).length = 1 + ((escL t).length + 2) := by simp; omega
    rw [e2] at hlen ⊢
    have := put2_calls g len m cap p ⟨t.toArray⟩ w (by rw [tl_mk]; exact hlen) h hlc hl (by show t.length ≤ _; exact ht) hm hmx
    rw [tl_mk] at this
    exact this
  · exact put3_calls g len m cap p b w (by simpa using hlen) h hlc hl
end Go.Proofs.YtjohiehlnbgdaaaDoor
