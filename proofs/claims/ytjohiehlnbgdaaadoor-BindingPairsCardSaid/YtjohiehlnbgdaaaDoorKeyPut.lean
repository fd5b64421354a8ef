/- What key's functions that lay a value's key do: sizeOf, putNumber, putText, put. -/
import Derived.Test.YtjohiehlnbgdaaaDoorKeyBytes
import Derived.Deep.RegionHeld3
import Derived.LoopTactic
namespace Go.Proofs.YtjohiehlnbgdaaaDoor
open Go.RowKit
set_option linter.unusedVariables false

theorem key_size {v : Vd} (h : rightD v) : (keyV v).length = if v.k = 1 then 9 else if v.k = 2 then 1 + v.s.size + v.s.toList.count 0 + 2 else 2 := by
  rcases right_three h with ⟨u, _, rfl, e⟩ | ⟨t, _, rfl, e⟩ | ⟨b, rfl, e⟩
  · rw [e]; simp [numL_len]
  · rw [e, ← tl_len]; simp only [tl_mk]; simp [escL_len]; omega
  · rw [e]; simp

set_option maxHeartbeats 1000000 in
theorem sizeOf_calls (k i : Int) (s : ByteArray) (b : Bool) (w : World) (hr : rightD ⟨k, i, s, b⟩) :
    Calls Tryd.prog 51 #[.agg #[.int .i64 k, .int .i64 i, .string s, .bool b]] w fun e w' => e = .returned (.int .i64 ((keyV ⟨k, i, s, b⟩).length : Nat)) ∧ Below w.heap.size w w' := by
  have hsz := right_size hr.1
  simp only at hsz
  have hk := right_kind hr.1
  simp only at hk
  have hlen := key_size hr
  simp only at hlen
  rw [hlen]
  have HA := Lib.hid ((Below.refl w.heap.size w).alloc (Nat.le_refl _) (.cells #[.int .i64 k, .int .i64 i, .string s, .bool b] 34))
  have HB := Lib.hid (Boxed.new k i s b w 34)
  have HC := Lib.hid (fun w1 => count_calls s w1)
  have hcn : s.toList.count 0 ≤ 4096 := by have := List.count_le_length (l := s.toList) (a := (0 : UInt8)); rw [tl_len] at this; omega
  obtain ⟨n, hn⟩ : ∃ n, n = s.toList.count 0 := ⟨_, rfl⟩
  rw [← hn] at hcn HC ⊢
  clear hlen hn hr
  rcases hk with rfl | rfl | rfl
  · rw [if_pos rfl]
    go_enter Tryd.func51, Tryd.ntmps51
    go_wp2_with fail
    go_ret
    exact ⟨rfl, HA.out⟩
  · rw [if_neg (by decide), if_pos rfl]
    go_enter Tryd.func51, Tryd.ntmps51
    go_wp2_with fail
    go_region_held3 (fun w1 => w1.cell? ⟨w.heap.size, 0, none⟩ = some (.int .i64 2) ∧ w1.cell? ⟨w.heap.size, 1, none⟩ = some (.int .i64 i) ∧ w1.cell? ⟨w.heap.size, 2, none⟩ = some (.string s) ∧ w1.cell? ⟨w.heap.size, 3, none⟩ = some (.bool b)) (first | exact HB.out) (first
      | (go_at_call 62; refine (HC.out _).mono ?_; rintro e w4 ⟨rfl, rfl⟩))
    go_wp2_with fail
    go_ret
    have hsum : IntKind.i64.wrap (IntKind.i64.wrap (IntKind.i64.wrap (1 + (s.size : Int)) + (n : Int)) + 2) = ((1 + s.size + n + 2 : Nat) : Int) := by
      simp only [IntKind.wrap_i64]; push_cast; omega
    exact ⟨by rw [hsum]; rfl, HA.out.drew⟩
  · rw [if_neg (by decide), if_neg (by decide)]
    go_enter Tryd.func51, Tryd.ntmps51
    go_wp2_with fail
    go_ret
    exact ⟨rfl, HA.out⟩

theorem numL_get : ∀ (n u k : Nat), k < n → (numL n u)[k]? = some (UInt8.ofNat (u / 256 ^ (n - 1 - k)))
  | n + 1, u, 0, _ => by simp [numL]
  | n + 1, u, k + 1, h => by
    rw [numL, List.getElem?_cons_succ, numL_get n u k (by omega)]
    congr 4
    omega
theorem set_step (p q z : List UInt8) (k : Nat) (c : UInt8) (hq : q[k]? = some c) (hz : k < z.length) : (p ++ q.take k ++ z.drop k).set (p.length + k) c = p ++ q.take (k + 1) ++ z.drop (k + 1) := by
  have hk : k < q.length := (List.getElem?_eq_some_iff.1 hq).1
  have hc : q[k] = c := (List.getElem?_eq_some_iff.1 hq).2
  have hl : (p ++ q.take k).length = p.length + k := by simp; omega
  rw [List.set_append, if_neg (by rw [hl]; omega), hl, Nat.sub_self, List.drop_eq_getElem_cons hz, List.set_cons_zero, List.take_succ_eq_append_getElem hk, hc]
  simp
theorem num_step {g : Nat} {p z : List UInt8} {u k : Nat} {w : World} (h : Holds g (p ++ (numL 8 u).take k ++ z.drop k) w) (hk : k < 8) (hz : 8 ≤ z.length) :
    Holds g (p ++ (numL 8 u).take (k + 1) ++ z.drop (k + 1)) (w.setCell ⟨g, p.length + k, none⟩ (.int .u8 ((u / 256 ^ (7 - k) % 256 : Nat) : Int))) := by
  have h2 := h.set (p.length + k) (UInt8.ofNat (u / 256 ^ (7 - k)))
  rw [set_step p (numL 8 u) z k _ (by rw [numL_get 8 u k hk]) (by omega)] at h2
  rw [UInt8.toNat_ofNat'] at h2
  exact h2
theorem num_cell {g : Nat} {p z : List UInt8} {u k : Nat} {w : World} (h : Holds g (p ++ (numL 8 u).take k ++ z.drop k) w) (hk : k < 8) (hz : 8 ≤ z.length) : ∃ d : UInt8, w.cell? ⟨g, p.length + k, none⟩ = some (.int .u8 d.toNat) := by
  refine ⟨z[k], h.cell ?_⟩
  have hl : (p ++ (numL 8 u).take k).length = p.length + k := by simp [numL_len]; omega
  rw [List.getElem?_append_right (by rw [hl]; exact Nat.le_refl _), hl, Nat.sub_self, List.getElem?_drop]
  simp

set_option maxHeartbeats 2000000 in
theorem putNumber_calls (g len cap : Nat) (p z : List UInt8) (n : Int) (w : World) (h : Holds g (p ++ z) w) (hz : 8 ≤ z.length) (hlen : 8 ≤ len) (hl : len ≤ 1000000000) (hn : -9223372036854775808 ≤ n ∧ n ≤ 9223372036854775807) :
    Calls Tryd.prog 63 #[.slice (some ⟨g, p.length, none⟩) len cap, .int .i64 n] w fun e w' => e = .returned (.int .i64 8) ∧ Holds g (p ++ numL 8 (n + 9223372036854775808).toNat ++ z.drop 8) w' ∧ But g w w' := by
  obtain ⟨u, hu⟩ : ∃ u, u = (n + 9223372036854775808).toNat := ⟨_, rfl⟩
  rw [← hu]
  have hu2 : u < 18446744073709551616 := by omega
  have hwrap : IntKind.u64.wrap (IntKind.u64.wrap n + 9223372036854775808) = u := by
    rw [IntKind.wrap_u64, IntKind.wrap_u64]; omega
  obtain ⟨off, hoff⟩ : ∃ off, off = p.length := ⟨_, rfl⟩
  rw [← hoff]
  have HOff := Lib.hid hoff
  have H : Hid (Holds g (p ++ (numL 8 u).take 0 ++ z.drop 0) w) := Lib.hid (by simpa using h)
  have HE : Hid ((numL 8 u).take 8 = numL 8 u) := Lib.hid (List.take_of_length_le (by rw [numL_len]; exact Nat.le_refl _))
  have HZ := Lib.hid hz
  clear h hoff hu hn hz
  go_enter Tryd.func63, Tryd.ntmps63
  go_wp2_with fail
  clear hwrap
  go_loopw [10] (fun i wr => ∃ (k : Nat), k ≤ 8 ∧ i = .int .i64 k ∧ Hid (Holds g (p ++ (numL 8 u).take k ++ z.drop k) wr) ∧ But g w wr) (fun i _ => 8 - (intOf i).toNat)
  case atStart => exact ⟨0, by omega, rfl, H, But.refl _ _⟩
  case round =>
    clear H
    obtain ⟨k, hk, rfl, H, kb⟩ := hrel
    by_cases h8 : k < 8
    case neg =>
      obtain rfl : k = 8 := by omega
      go_wp2_with fail
      go_ret
      have := H.out
      rw [HE.out] at this
      exact ⟨rfl, this, kb⟩
    case pos =>
      obtain ⟨d, hd⟩ := num_cell H.out h8 HZ.out
      have hf := H.out.frozen (p.length + k)
      have HS := Lib.hid (num_step H.out h8 HZ.out)
      rw [← HOff.out] at hd hf HS
      have HF := Lib.hid hf
      have hk8 : k = 0 ∨ k = 1 ∨ k = 2 ∨ k = 3 ∨ k = 4 ∨ k = 5 ∨ k = 6 ∨ k = 7 := by omega
      clear hk h8 H hf
      rcases hk8 with rfl | rfl | rfl | rfl | rfl | rfl | rfl | rfl
      all_goals simp only [Nat.add_zero, Nat.reduceSub, Nat.reducePow, Nat.reduceAdd, Nat.pow_zero, Nat.div_one] at hd HF HS
      all_goals have hf := HF.out
      all_goals (go_wp2_with fail)
      · exact ⟨⟨1, by omega, rfl, Lib.hid (by have h := HS.out; rw [show ((u / 72057594037927936 % 256 : Nat) : Int) = (u : Int) / 72057594037927936 by omega] at h; exact h), kb.set _⟩, by simp [intOf]⟩
      · exact ⟨⟨2, by omega, rfl, Lib.hid (by have h := HS.out; rw [show ((u / 281474976710656 % 256 : Nat) : Int) = (u : Int) / 281474976710656 % 256 by omega] at h; exact h), kb.set _⟩, by simp [intOf]⟩
      · exact ⟨⟨3, by omega, rfl, Lib.hid (by have h := HS.out; rw [show ((u / 1099511627776 % 256 : Nat) : Int) = (u : Int) / 1099511627776 % 256 by omega] at h; exact h), kb.set _⟩, by simp [intOf]⟩
      · exact ⟨⟨4, by omega, rfl, Lib.hid (by have h := HS.out; rw [show ((u / 4294967296 % 256 : Nat) : Int) = (u : Int) / 4294967296 % 256 by omega] at h; exact h), kb.set _⟩, by simp [intOf]⟩
      · exact ⟨⟨5, by omega, rfl, Lib.hid (by have h := HS.out; rw [show ((u / 16777216 % 256 : Nat) : Int) = (u : Int) / 16777216 % 256 by omega] at h; exact h), kb.set _⟩, by simp [intOf]⟩
      · exact ⟨⟨6, by omega, rfl, Lib.hid (by have h := HS.out; rw [show ((u / 65536 % 256 : Nat) : Int) = (u : Int) / 65536 % 256 by omega] at h; exact h), kb.set _⟩, by simp [intOf]⟩
      · exact ⟨⟨7, by omega, rfl, Lib.hid (by have h := HS.out; rw [show ((u / 256 % 256 : Nat) : Int) = (u : Int) / 256 % 256 by omega] at h; exact h), kb.set _⟩, by simp [intOf]⟩
      · exact ⟨⟨8, by omega, rfl, Lib.hid (by have h := HS.out; rw [show ((u % 256 : Nat) : Int) = (u : Int) % 256 by omega] at h; exact h), kb.set _⟩, by simp [intOf]⟩

theorem copy_str {g off len cap : Nat} {p z : List UInt8} {r : ByteArray} {w1 : World} (h : Holds g (p ++ z) w1) (hoff : off = p.length) (hle : r.size ≤ len) (hz : r.size ≤ z.length) :
    ∃ w2, (Builtin.copy_ #[32, 9] 3 #[.slice (some ⟨g, off, none⟩) len cap, .string r]).run Tryd.prog w1 = .ok (.int .i64 r.size) w2 ∧ Holds g (p ++ r.data.toList ++ z.drop r.size) w2 ∧ But g w1 w2 := by
  subst hoff
  have hrs : r.size = r.data.toList.length := by rw [Array.length_toList]; rfl
  refine ⟨_, Lib.run_copy_row_string (P := Tryd.prog) w1 32 9 3 5 g p.length len cap r _ _ Tryd.underlying32 sizeByte h hle (by simp [Lib.byteCells]; omega), ?_, (But.refl _ _).row _⟩
  rw [hrs, splice_bytes p z _ (by omega)]
  exact h.row

set_option maxHeartbeats 2000000 in
theorem putText_calls (g len cap : Nat) (p z : List UInt8) (s : ByteArray) (w : World) (h : Holds g (p ++ z) w) (hz : (escL s.toList).length + 2 ≤ z.length) (hlen : (escL s.toList).length + 2 ≤ len) (hlc : len ≤ cap) (hl : len ≤ 1000000000) (hs : s.size ≤ 1000000) (hm : MaxAt w) :
    Calls Tryd.prog 64 #[.slice (some ⟨g, p.length, none⟩) len cap, .string s] w fun e w' => e = .returned (.int .i64 (((escL s.toList).length + 2 : Nat) : Int)) ∧ Holds g (p ++ (escL s.toList ++ [0, 1]) ++ z.drop ((escL s.toList).length + 2)) w' ∧ But g w w' := by
  obtain ⟨t, ht⟩ : ∃ t, t = escL s.toList := ⟨_, rfl⟩
  have HR := Lib.hid (replace_calls s w hs hm)
  rw [← ht] at hz hlen HR ⊢
  obtain ⟨r, hr⟩ : ∃ r : ByteArray, r = ⟨t.toArray⟩ := ⟨_, rfl⟩
  rw [← hr] at HR
  have hrd : r.data.toList = t := by rw [hr]
  have hrs : r.size = t.length := by rw [hr]; rfl
  have hr1 : r.size + 2 ≤ len := by omega
  have hne : ¬ cap = r.size := by omega
  obtain ⟨off, hoff⟩ : ∃ off, off = p.length := ⟨_, rfl⟩
  rw [← hoff]
  have HOff := Lib.hid hoff
  have H := Lib.hid h
  have HZ := Lib.hid hz
  have HRD := Lib.hid hrd
  have HRS := Lib.hid hrs
  clear h hoff hz hrd hrs hr ht hlen hm
  go_enter Tryd.func64, Tryd.ntmps64
  go_wp2_with fail
  refine HR.out.mono ?_
  rintro e w1 ⟨rfl, k1⟩
  have H1 := Lib.hid (H.out.below k1)
  obtain ⟨w2, hcp, h2, hb2⟩ := copy_str (cap := cap) H1.out HOff.out (r := r) (len := len) (by omega) (by have := HZ.out; have := HRS.out; omega)
  have k2 := (But.of k1).trans hb2
  have H2 : Hid (Holds g ((p ++ t) ++ z.drop t.length) w2) := Lib.hid (by rw [HRD.out, HRS.out] at h2; exact h2)
  obtain ⟨w3, hcp2, h3, hb3⟩ := copy_str (cap := cap - r.size) H2.out (off := off + r.size) (by have := HOff.out; have := HRS.out; simp; omega) (r := ⟨#[0, 1]⟩) (len := len - r.size) (by show 2 ≤ _; omega) (by show 2 ≤ _; have := HZ.out; rw [List.length_drop]; omega)
  have k3 := k2.trans hb3
  have H3 := Lib.hid h3
  have hs2 : (⟨#[0, 1]⟩ : ByteArray).size = 2 := rfl
  rw [hs2] at hcp2
  clear k1 H1 HR h2 h3 hb2 hb3 k2
  go_wp2_with fail
  go_ret
  refine ⟨by have := HRS.out; go_num, ?_, k3⟩
  have h3 := H3.out
  rw [hs2, List.drop_drop] at h3
  simpa using h3
end Go.Proofs.YtjohiehlnbgdaaaDoor
