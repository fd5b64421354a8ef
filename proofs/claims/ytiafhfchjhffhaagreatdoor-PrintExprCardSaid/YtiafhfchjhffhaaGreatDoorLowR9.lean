/- paclaim: QuoteRef QuoteRefOne -/
import Derived.Test.YtiafhfchjhffhaaGreatDoorLowQuo
import Derived.IntWalk
import Derived.Laws.IdiomStrings
namespace Go.Proofs.YtiafhfchjhffhaaGreatDoor
open Go.RowKit
theorem hex_at (k:Nat) (h:k < 16):(⟨#[48,49,50,51,52,53,54,55,56,57,97,98,99,100,101,102]⟩:ByteArray).extract k (k + 1)=⟨#[hx k]⟩:=by
 have:∀ k:Fin 16,(⟨#[48,49,50,51,52,53,54,55,56,57,97,98,99,100,101,102]⟩:ByteArray).extract k.val (k.val + 1)=⟨#[hx k.val]⟩:=by decide +kernel
 exact this ⟨k,h⟩
set_option maxHeartbeats 400000 in
theorem hex_calls (k:Nat) (h:k < 16) (w:World) :
  Calls Tryz.prog 220 #[.int .i64 k] w fun e w'=>e=.returned (.string ⟨#[hx k]⟩) ∧ w=w':=by
 have HD:=Lib.hid (hex_at k h)
 go_enter Tryz.func220,Tryz.ntmps220
 go_wp2_with fail
 go_ret
 exact ⟨ret_str HD.out,rfl⟩
set_option maxHeartbeats 400000 in
theorem refOne_calls (c:UInt8) (w:World) :
  Calls Tryz.prog 176 #[.int .u8 c.toNat] w fun e w'=>e=.returned (.string ⟨(one c).toArray⟩) ∧ Below w.heap.size w w':=by
 by_cases h0:c=34
 ·subst h0
  go_enter Tryz.func176,Tryz.ntmps176
  go_wp2
  go_ret
  exact ⟨rfl,Below.refl _ _⟩
 by_cases h1:c=92
 ·subst h1
  clear h0
  go_enter Tryz.func176,Tryz.ntmps176
  go_wp2
  go_ret
  exact ⟨rfl,Below.refl _ _⟩
 by_cases h2:c=10
 ·subst h2
  clear h0 h1
  go_enter Tryz.func176,Tryz.ntmps176
  go_wp2
  go_ret
  exact ⟨rfl,Below.refl _ _⟩
 by_cases h3:c=13
 ·subst h3
  clear h0 h1 h2
  go_enter Tryz.func176,Tryz.ntmps176
  go_wp2
  go_ret
  exact ⟨rfl,Below.refl _ _⟩
 by_cases h4:c=9
 ·subst h4
  clear h0 h1 h2 h3
  go_enter Tryz.func176,Tryz.ntmps176
  go_wp2
  go_ret
  exact ⟨rfl,Below.refl _ _⟩
 have t0:((c.toNat:Int) == 34)=false:=by rw [show ((c.toNat:Int) == 34)=(c == 34) from byte_beq c 34 (by omega)]; simpa using h0
 have t1:((c.toNat:Int) == 92)=false:=by rw [show ((c.toNat:Int) == 92)=(c == 92) from byte_beq c 92 (by omega)]; simpa using h1
 have t2:((c.toNat:Int) == 10)=false:=by rw [show ((c.toNat:Int) == 10)=(c == 10) from byte_beq c 10 (by omega)]; simpa using h2
 have t3:((c.toNat:Int) == 13)=false:=by rw [show ((c.toNat:Int) == 13)=(c == 13) from byte_beq c 13 (by omega)]; simpa using h3
 have t4:((c.toNat:Int) == 9)=false:=by rw [show ((c.toNat:Int) == 9)=(c == 9) from byte_beq c 9 (by omega)]; simpa using h4
 have hl:ltB c=false:=by unfold ltB; simp [h0,h1,h2,h3,h4]
 have hlt:c.toNat < 256:=c.toNat_lt
 by_cases hp:plB c=true
 ·rw [one_plain c hp]
  have hr:32 ≤ c.toNat ∧ c.toNat ≤ 126:=by
   unfold plB at hp
   simp only [Bool.and_eq_true,decide_eq_true_eq] at hp
   exact ⟨hp.1,hp.2.1⟩
  obtain ⟨g1,g2⟩:=hr
  have t5:decide ((c.toNat:Int) < 32)=false:=by simp; omega
  have t6:decide ((126:Int) < (c.toNat:Int))=false:=by simp; omega
  have hc:(convert 70 9 (.slice (some ⟨w.heap.size,0,none⟩) 1 1)).run Tryz.prog (w.alloc (.cells #[.int .u8 c.toNat] 5))=.ok (.string ⟨#[c]⟩) (w.alloc (.cells #[.int .u8 c.toNat] 5)) :=
   run_convert_bytes_back _ 70 9 5 ⟨w.heap.size,0,none⟩ 1 [c] Tryz.underlying70 Tryz.underlying5 Tryz.underlying9 (by
    intro j hj
    have:j=0:=by simpa using hj
    subst this
    simp [Addr.add])
  clear h0 h1 h2 h3 h4 hp hl g1 g2
  go_enter Tryz.func176,Tryz.ntmps176
  go_wp2
  go_ret
  exact ⟨rfl,(Below.refl _ _).alloc (Nat.le_refl _) _⟩
 ·have hp':plB c=false:=by simpa using hp
  rw [one_hex c hp' hl]
  obtain ⟨d1,e1⟩:∃ d,d=hx (c.toNat / 16):=⟨_,rfl⟩
  obtain ⟨d2,e2⟩:∃ d,d=hx (c.toNat % 16):=⟨_,rfl⟩
  have k1:=fun w=>hex_calls (c.toNat / 16) (by omega) w
  have k2:=fun w=>hex_calls (c.toNat % 16) (by omega) w
  rw [← e1] at k1 ⊢
  rw [← e2] at k2 ⊢
  rw [show (((c.toNat / 16:Nat)):Int)=(c.toNat:Int) / 16 by omega] at k1
  rw [show (((c.toNat % 16:Nat)):Int)=(c.toNat:Int) % 16 by omega] at k2
  have H1:=Lib.hid k1
  have H2:=Lib.hid k2
  by_cases hs:c.toNat < 32
  ·have t5:decide ((c.toNat:Int) < 32)=true:=by simp; omega
   clear h0 h1 h2 h3 h4 hp hl hp' hs e1 e2 k1 k2
   go_enter Tryz.func176,Tryz.ntmps176
   go_wp2_with fail
   refine (H1.out _).mono ?_
   rintro e w' ⟨rfl,rfl⟩
   go_wp2_with fail
   refine (H2.out _).mono ?_
   rintro e w' ⟨rfl,rfl⟩
   go_wp2_with fail
   go_ret
   exact ⟨rfl,Below.refl _ _⟩
  ·have hb:126 < c.toNat:=by
    refine Nat.lt_of_not_le fun hle=>?_
    rw [show plB c=true by unfold plB; simp [h0,h1,hle,Nat.le_of_not_lt hs]] at hp'
    exact absurd hp' (by decide)
   have t5:decide ((c.toNat:Int) < 32)=false:=by simp; omega
   have t6:decide ((126:Int) < (c.toNat:Int))=true:=by simp; omega
   clear h0 h1 h2 h3 h4 hp hl hp' hs e1 e2 k1 k2
   go_enter Tryz.func176,Tryz.ntmps176
   go_wp2_with fail
   refine (H1.out _).mono ?_
   rintro e w' ⟨rfl,rfl⟩
   go_wp2_with fail
   refine (H2.out _).mono ?_
   rintro e w' ⟨rfl,rfl⟩
   go_wp2_with fail
   go_ret
   exact ⟨rfl,Below.refl _ _⟩
theorem refOne_named (c:UInt8):∃ b:ByteArray,Hid (b.data.toList=one c) ∧ Hid (∀ w,Calls Tryz.prog 176 #[.int .u8 c.toNat] w fun e w'=>e=.returned (.string b) ∧ Below w.heap.size w w') :=
 ⟨⟨(one c).toArray⟩,Lib.hid rfl,Lib.hid (refOne_calls c)⟩
end Go.Proofs.YtiafhfchjhffhaaGreatDoor
