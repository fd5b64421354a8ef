/- A token's value; what a cut of one token answers; the table of signs, and what cutSign does with any text. -/
import Derived.Test.YtbojhcfofgdoeaaDoorLexKind
import Derived.Laws.Rows
namespace Go.Proofs.YtbojhcfofgdoeaaDoor
open Go.RowKit
set_option linter.unusedVariables false

/-- What a cut of one token answers: its kind, its text, how many bytes, and an error's number. -/
def cutV (k : Nat) (t : List UInt8) (n e : Nat) : Value := .tuple #[.agg #[.int .i64 (k : Nat), .string ⟨t.toArray⟩, .int .i64 0, .int .i64 0], .int .i64 (n : Nat), errV e]
def tok0 : Array Value := #[.int .i64 0, .string ⟨#[]⟩, .int .i64 0, .int .i64 0]
theorem lx_result3 {fn : Func} {p q r : Tmp} {ty : TypeId} (h : fn.results = #[.cell p ty, .tmp q, .tmp r]) (tmps : Array Value) (P : Program) (w : World) {a : Addr} {u v x : Value}
    (h0 : (asAddr (tmps.getD p undef)).run P w = .ok a w) (h1 : (loadVar ty a).run P w = .ok u w) (h2 : tmps.getD q undef = v) (h3 : tmps.getD r undef = x) : (results fn tmps).run P w = .ok (.tuple #[u, v, x]) w := by
  rw [Array.getD_eq_getD_getElem?] at h0 h2 h3
  simp [results, h, Sem.run_bind, Result.andThen, h0, h1, h2, h3]
theorem lx_size (t : List UInt8) : (⟨t.toArray⟩ : ByteArray).size = t.length := by rw [cs_size]
/-- The sign at a place of the table. -/
def signAt (n : Nat) : List UInt8 := signsL.getD n []
def signsV : Array Value := #[.string ⟨#[61, 61]⟩, .string ⟨#[33, 61]⟩, .string ⟨#[60, 61]⟩, .string ⟨#[62, 61]⟩, .string ⟨#[60]⟩, .string ⟨#[62]⟩, .string ⟨#[61]⟩, .string ⟨#[40]⟩, .string ⟨#[41]⟩, .string ⟨#[44]⟩, .string ⟨#[58]⟩, .string ⟨#[43]⟩, .string ⟨#[45]⟩, .string ⟨#[42]⟩, .string ⟨#[47]⟩, .string ⟨#[37]⟩]
/-- The table of signs lies in memory as the text of the program lays it. -/
def Sgn (w : World) : Prop := ∃ t fr, w.heap[1]? = some (.cells signsV t fr)
theorem gSgn : Tryd.prog.globalNamed "proctor/lex.signs" = some 1 := by kernel_rfl
theorem sgn_of_var {w : World} (h : w.var? Tryd.prog "proctor/lex.signs" = some signsV) : Sgn w := by
  unfold World.var? at h
  rw [gSgn] at h
  simp only [Option.bind_some] at h
  split at h
  · rename_i cs t fr e
    obtain rfl := Option.some.inj h
    exact ⟨t, fr, e⟩
  · cases h
theorem Sgn.below {w w' : World} (h : Sgn w) (hb : Below w.heap.size w w') : Sgn w' := by
  obtain ⟨t, fr, e⟩ := h
  exact ⟨t, fr, (hb.block _ (Array.getElem?_eq_some_iff.1 e).1).trans e⟩
theorem signs_info : (Tryd.prog.info? 93).map (·.size) = some signsV.size := by kernel_rfl
theorem sign_at : ∀ (n : Nat), n < 16 → ∀ w, (Instr.index 93 (.agg signsV) (.int .i64 n)).run Tryd.prog w = .ok (.string ⟨(signAt n).toArray⟩) w
  | 0, _, w => by kernel_rfl
  | 1, _, w => by kernel_rfl
  | 2, _, w => by kernel_rfl
  | 3, _, w => by kernel_rfl
  | 4, _, w => by kernel_rfl
  | 5, _, w => by kernel_rfl
  | 6, _, w => by kernel_rfl
  | 7, _, w => by kernel_rfl
  | 8, _, w => by kernel_rfl
  | 9, _, w => by kernel_rfl
  | 10, _, w => by kernel_rfl
  | 11, _, w => by kernel_rfl
  | 12, _, w => by kernel_rfl
  | 13, _, w => by kernel_rfl
  | 14, _, w => by kernel_rfl
  | 15, _, w => by kernel_rfl
  | n + 16, h, w => by omega
theorem sign_ne : ∀ (n : Nat), n < 16 → signAt n ≠ []
  | 0, _ => by decide
  | 1, _ => by decide
  | 2, _ => by decide
  | 3, _ => by decide
  | 4, _ => by decide
  | 5, _ => by decide
  | 6, _ => by decide
  | 7, _ => by decide
  | 8, _ => by decide
  | 9, _ => by decide
  | 10, _ => by decide
  | 11, _ => by decide
  | 12, _ => by decide
  | 13, _ => by decide
  | 14, _ => by decide
  | 15, _ => by decide
  | n + 16, h => by omega
theorem sign_hit {l : List UInt8} {n : Nat} (h : noSign l n) (hn : n < 16) (e : (signAt n).isPrefixOf l = true) : signAt n = l.take (signN l) ∧ (signAt n).length = signN l ∧ signN l ≠ 0 := by
  have h1 := noSign_hit h hn e
  rw [sign_f] at h1
  have h2 : signAt n = l.take (signN l) := h1.symm
  have h3 : signN l ≠ 0 := fun z => sign_ne n hn (by rw [h2, z]; rfl)
  refine ⟨h2, ?_, h3⟩
  rw [h2, List.length_take]
  have := sign_le l
  omega
theorem sign_none {l : List UInt8} (h : noSign l 16) : signN l = 0 := sign_zero.1 (noSign_end h)
/-- The kind of a sign; 0, if there is none. -/
def signK (l : List UInt8) : Nat := if signN l = 0 then 0 else 5
theorem sign_k0 {l : List UInt8} (h : signN l = 0) : signK l = 0 := if_pos h

set_option maxHeartbeats 2000000 in
set_option maxRecDepth 100000 in
theorem cutSign_calls (s : ByteArray) (w : World) (h : Sgn w) :
    Calls Tryd.prog 23 #[.string s] w fun e w' => e = .returned (cutV (signK s.data.toList) (s.data.toList.take (signN s.data.toList)) (signN s.data.toList) 0) ∧ Below w.heap.size w w' := by
  obtain ⟨ty, fr, hg⟩ := h.below ((Below.refl w.heap.size w).alloc (Nat.le_refl _) (.cells tok0 34))
  have HW := Lib.hid sign_at
  have HP := Lib.hid (fun p w1 => Tryd.strings_HasPrefix s p w1)
  have HB := Lib.hid ((Below.refl w.heap.size w).alloc (Nat.le_refl _) (.cells tok0 34))
  obtain ⟨l, hl⟩ : ∃ l, l = s.data.toList := ⟨_, rfl⟩
  rw [← hl] at HP ⊢
  have HL := Lib.hid hl
  clear hl
  unfold tok0 at hg
  have H0 : Hid (noSign l 0) := Lib.hid (noSign_zero l)
  go_enter Tryd.func23, Tryd.ntmps23
  go_wp2_with (refine wpList_load_row rfl 93 _ rfl 1 rfl ty _ fr _ hg Tryd.underlying93 rfl signs_info ?_)
  clear hg
  generalize (Value.agg signsV) = V at HW ⊢
  go_loopw [8] (fun i wr => ∃ (n : Nat), n ≤ 16 ∧ i = .int .i64 n ∧ Hid (noSign l n) ∧ wr = w.alloc (.cells #[.int .i64 0, .string ⟨#[]⟩, .int .i64 0, .int .i64 0] 34)) (fun i _ => 16 - (intOf i).toNat)
  case atStart => exact ⟨0, by omega, rfl, H0, rfl⟩
  case round =>
    obtain ⟨n, hn, rfl, HX, hwr⟩ := hrel
    subst hwr
    by_cases hlt : n < 16
    case neg =>
      have HV : Hid (signN l = 0) := Lib.hid (sign_none (by rw [← show n = 16 by omega]; exact HX.out))
      go_wp2_with fail
      rw [sign_k0 HV.out, HV.out]
      refine bodyPost_ret (v := cutV 0 [] 0 0) ?_ rfl ⟨rfl, ?_⟩
      · refine lx_result3 rfl _ _ _ (a := ⟨w.heap.size, 0, none⟩) (by rfl) ?_ (by rfl) (by rfl)
        go_simp
      · exact (Below.refl w.heap.size w).alloc (Nat.le_refl _) _
    case pos =>
      have hw := HW.out n hlt
      cases e : (signAt n).isPrefixOf l
      · have HX2 := Lib.hid (noSign_more HX.out hlt e)
        have HP1 : Hid (∀ w1, Calls Tryd.prog 41 #[.string s, .string ⟨(signAt n).toArray⟩] w1 fun e w' => e = .returned (.bool false) ∧ w' = w1) := Lib.hid (fun w1 => (HP.out _ w1).mono (fun _ _ he => ⟨he.1.trans (by rw [← e]; rfl), he.2⟩))
        clear e
        generalize signAt n = x at hw HP1
        go_wp2_with fail
        refine (HP1.out _).mono ?_
        rintro e w1 ⟨rfl, hw1⟩
        subst hw1
        go_wp2_with fail
        go_roundw
        case rel => exact ⟨n + 1, hlt, by go_num, HX2, by first | trivial | rfl⟩
        case measure => simp [intOf]; omega
      · obtain ⟨h1, h2, h3⟩ := sign_hit HX.out hlt e
        have HP1 : Hid (∀ w1, Calls Tryd.prog 41 #[.string s, .string ⟨(signAt n).toArray⟩] w1 fun e w' => e = .returned (.bool true) ∧ w' = w1) := Lib.hid (fun w1 => (HP.out _ w1).mono (fun _ _ he => ⟨he.1.trans (by rw [← e]; rfl), he.2⟩))
        have HV : Hid (cutV (signK l) (l.take (signN l)) (signN l) 0 = .tuple #[.agg #[.int .i64 5, .string ⟨(signAt n).toArray⟩, .int .i64 0, .int .i64 0], .int .i64 ((⟨(signAt n).toArray⟩ : ByteArray).size : Nat), .nilIface]) := Lib.hid (by
          rw [signK, if_neg h3, ← h1, ← h2, lx_size]; rfl)
        clear e h1 h2 h3
        generalize (⟨(signAt n).toArray⟩ : ByteArray) = x at hw HP1 HV
        go_wp2_with fail
        refine (HP1.out _).mono ?_
        rintro e w1 ⟨rfl, hw1⟩
        subst hw1
        go_wp2_with fail
        refine bodyPost_ret (v := .tuple #[.agg #[.int .i64 5, .string x, .int .i64 0, .int .i64 0], .int .i64 (x.size : Nat), .nilIface]) ?_ rfl ⟨by rw [HV.out], ?_⟩
        · refine lx_result3 rfl _ _ _ (a := ⟨w.heap.size, 0, none⟩) (by rfl) ?_ (by rfl) (by rfl)
          go_simp
        · exact (Below.refl w.heap.size w).alloc (Nat.le_refl _) _
end Go.Proofs.YtbojhcfofgdoeaaDoor
