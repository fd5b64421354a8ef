/- Trees in memory. No program: the types' numbers are handed in. -/
import Derived.Test.YtojabkhfkbfeaaaGreatDoorTreeMath
import Derived.Test.YtojabkhfkbfeaaaGreatDoorGin
namespace Go.Proofs.YtojabkhfkbfeaaaGreatDoor
open Go.RowKit
set_option linter.unusedVariables false

def vC (v : Vd) : List Value := [.int .i64 v.k, .int .i64 v.i, .string v.s, .bool v.b]
def idC (x : Id3) : List Value := [.string x.t, .int .i64 x.l, .int .i64 x.c]
def exC (x : Ex) : List Value := [.int .i64 x.op, .int .i64 x.a, .int .i64 x.b, .string x.n, .int .i64 x.v.k, .int .i64 x.v.i, .string x.v.s, .bool x.v.b, .int .i64 x.l, .int .i64 x.c]
def agC (x : Ag) : List Value := [.int .i64 x.k, .string x.n, .int .i64 x.v.k, .int .i64 x.v.i, .string x.v.s, .bool x.v.b, .int .i64 x.l, .int .i64 x.c]
def seC (x : Se) : List Value := [.string x.n.t, .int .i64 x.n.l, .int .i64 x.n.c, .int .i64 x.e]
def quC (x : Qu) : List Value := [.bool x.all, .string x.n.t, .int .i64 x.n.l, .int .i64 x.n.c, .int .i64 x.t]
def frC (x : Fr) : List Value := [.string x.n.t, .int .i64 x.n.l, .int .i64 x.n.c, .int .i64 x.v.k, .int .i64 x.v.i, .string x.v.s, .bool x.v.b]
def staC (x : Sta) : List Value := [.string x.n.t, .int .i64 x.n.l, .int .i64 x.n.c, .bool x.nx, .bool x.ac]
def okS (s : ByteArray) : Prop := s.size ≤ 9223372036854775807
def okV (v : Vd) : Prop := okS v.s ∧ -9223372036854775808 ≤ v.i ∧ v.i ≤ 9223372036854775807
def okE (x : Ex) : Prop := okS x.n ∧ okV x.v
def okA (x : Ag) : Prop := okS x.n ∧ okV x.v
/-- The numbers of the types of what lists hold. -/
structure TyT where
  (ag ex se de qu fr st sy ts int : TypeId)
/-- The blocks of these types are as they were. -/
structure KeptT (Y : TyT) (w w' : World) : Prop where
  size : w.heap.size ≤ w'.heap.size
  ag : ∀ g, CBlk w g Y.ag → w'.heap[g]? = w.heap[g]?
  ex : ∀ g, CBlk w g Y.ex → w'.heap[g]? = w.heap[g]?
  se : ∀ g, CBlk w g Y.se → w'.heap[g]? = w.heap[g]?
  de : ∀ g, CBlk w g Y.de → w'.heap[g]? = w.heap[g]?
  qu : ∀ g, CBlk w g Y.qu → w'.heap[g]? = w.heap[g]?
  fr : ∀ g, CBlk w g Y.fr → w'.heap[g]? = w.heap[g]?
  st : ∀ g, CBlk w g Y.st → w'.heap[g]? = w.heap[g]?
  sy : ∀ g, CBlk w g Y.sy → w'.heap[g]? = w.heap[g]?
  ts : ∀ g, CBlk w g Y.ts → w'.heap[g]? = w.heap[g]?
  int : ∀ g, CBlk w g Y.int → w'.heap[g]? = w.heap[g]?
abbrev rAg : World → List Value → Ag → Prop := RF agC okA
abbrev rEx : World → List Value → Ex → Prop := RF exC okE
abbrev rSe : World → List Value → Se → Prop := RF seC (fun x => okS x.n.t)
abbrev rQu : World → List Value → Qu → Prop := RF quC (fun x => okS x.n.t)
abbrev rFr : World → List Value → Fr → Prop := RF frC (fun x => okS x.n.t ∧ okV x.v)
abbrev rSta : World → List Value → Sta → Prop := RF staC (fun x => okS x.n.t)
abbrev rInt : World → List Value → Int → Prop := RF (fun k => [.int .i64 k]) (fun _ => True)
/-- A symbol, a declaration and a transition as cells, with the lists that they lead to. -/
def rSy (Y : TyT) (O : Prop) (w : World) (cs : List Value) (s : Sy) : Prop := ∃ a c, cs = [.string s.n, .slice a s.ar.length c, .int .i64 s.l, .int .i64 s.c] ∧ GIn rAg Y.ag O 8 w a s.ar.length s.ar ∧ okS s.n
def rDe (Y : TyT) (O : Prop) (w : World) (cs : List Value) (d : De) : Prop := ∃ a c, cs = [.string d.n.t, .int .i64 d.n.l, .int .i64 d.n.c, .slice a d.ks.length c] ∧ GIn rInt Y.int O 1 w a d.ks.length d.ks ∧ okS d.n.t
def rTs (Y : TyT) (O : Prop) (w : World) (cs : List Value) (t : Ts) : Prop := ∃ oa oc na nc sa sc, cs = [.string t.f.t, .int .i64 t.f.l, .int .i64 t.f.c, .string t.t.t, .int .i64 t.t.l, .int .i64 t.t.c, .string t.on.n, .slice oa t.on.ar.length oc, .int .i64 t.on.l, .int .i64 t.on.c, .slice na t.ns.length nc, .int .i64 t.g, .slice sa t.ss.length sc] ∧
  GIn rAg Y.ag O 8 w oa t.on.ar.length t.on.ar ∧ GIn rEx Y.ex O 10 w na t.ns.length t.ns ∧ GIn rSe Y.se O 4 w sa t.ss.length t.ss ∧ okS t.f.t ∧ okS t.t.t ∧ okS t.on.n
/-- A tree as cells. -/
structure TrIn (Y : TyT) (O : Prop) (w : World) (cs : List Value) (s : Tr) : Prop where
  ex' : ∃ da dc qa qc fa fc ta tc la lc xa xc, cs = [.string s.n.t, .int .i64 s.n.l, .int .i64 s.n.c, .slice da s.ds.length dc, .slice qa s.qs.length qc, .slice fa s.fs.length fc, .slice ta s.st.length tc, .string s.s.t, .int .i64 s.s.l, .int .i64 s.s.c, .slice la s.al.length lc, .slice xa s.ts.length xc] ∧
    GIn (rDe Y O) Y.de O 4 w da s.ds.length s.ds ∧ GIn rQu Y.qu O 5 w qa s.qs.length s.qs ∧ GIn rFr Y.fr O 7 w fa s.fs.length s.fs ∧ GIn rSta Y.st O 5 w ta s.st.length s.st ∧ GIn (rSy Y O) Y.sy O 4 w la s.al.length s.al ∧ GIn (rTs Y O) Y.ts O 13 w xa s.ts.length s.ts
  names : okS s.n.t ∧ okS s.s.t

theorem GIn.belowF {α : Type} {C : α → List Value} {P : α → Prop} {T : TypeId} {O : Prop} {k : Nat} {w w' : World} {a : Option Addr} {len : Nat} {L : List α} (h : GIn (RF C P) T O k w a len L) (hb : Below w.heap.size w w') : GIn (RF C P) T O k w' a len L :=
  h.below hb (fun _ _ _ h => h)
theorem GIn.keptF {α : Type} {C : α → List Value} {P : α → Prop} {T : TypeId} {O : Prop} {k : Nat} {w w' : World} {a : Option Addr} {len : Nat} {L : List α} (h : GIn (RF C P) T O k w a len L) (hO : O) (hsz : w.heap.size ≤ w'.heap.size) (hg : ∀ g, CBlk w g T → w'.heap[g]? = w.heap[g]?) : GIn (RF C P) T O k w' a len L :=
  h.kept hO hsz hg (fun _ _ _ h => h)
theorem rSy_below {Y : TyT} {O : Prop} {w w' : World} {cs : List Value} {s : Sy} (h : rSy Y O w cs s) (hb : Below w.heap.size w w') : rSy Y O w' cs s := by
  obtain ⟨a, c, e, h1, h2⟩ := h
  exact ⟨a, c, e, h1.belowF hb, h2⟩
theorem rDe_below {Y : TyT} {O : Prop} {w w' : World} {cs : List Value} {d : De} (h : rDe Y O w cs d) (hb : Below w.heap.size w w') : rDe Y O w' cs d := by
  obtain ⟨a, c, e, h1, h2⟩ := h
  exact ⟨a, c, e, h1.belowF hb, h2⟩
theorem rTs_below {Y : TyT} {O : Prop} {w w' : World} {cs : List Value} {t : Ts} (h : rTs Y O w cs t) (hb : Below w.heap.size w w') : rTs Y O w' cs t := by
  obtain ⟨oa, oc, na, nc, sa, sc, e, h1, h2, h3, h4⟩ := h
  exact ⟨oa, oc, na, nc, sa, sc, e, h1.belowF hb, h2.belowF hb, h3.belowF hb, h4⟩
theorem rSy_kept {Y : TyT} {O : Prop} {w w' : World} {cs : List Value} {s : Sy} (h : rSy Y O w cs s) (hO : O) (hk : KeptT Y w w') : rSy Y O w' cs s := by
  obtain ⟨a, c, e, h1, h2⟩ := h
  exact ⟨a, c, e, h1.keptF hO hk.size hk.ag, h2⟩
theorem rDe_kept {Y : TyT} {O : Prop} {w w' : World} {cs : List Value} {d : De} (h : rDe Y O w cs d) (hO : O) (hk : KeptT Y w w') : rDe Y O w' cs d := by
  obtain ⟨a, c, e, h1, h2⟩ := h
  exact ⟨a, c, e, h1.keptF hO hk.size hk.int, h2⟩
theorem rTs_kept {Y : TyT} {O : Prop} {w w' : World} {cs : List Value} {t : Ts} (h : rTs Y O w cs t) (hO : O) (hk : KeptT Y w w') : rTs Y O w' cs t := by
  obtain ⟨oa, oc, na, nc, sa, sc, e, h1, h2, h3, h4⟩ := h
  exact ⟨oa, oc, na, nc, sa, sc, e, h1.keptF hO hk.size hk.ag, h2.keptF hO hk.size hk.ex, h3.keptF hO hk.size hk.se, h4⟩
theorem TrIn.below {Y : TyT} {O : Prop} {w w' : World} {cs : List Value} {s : Tr} (h : TrIn Y O w cs s) (hb : Below w.heap.size w w') : TrIn Y O w' cs s := by
  obtain ⟨⟨da, dc, qa, qc, fa, fc, ta, tc, la, lc, xa, xc, e, h1, h2, h3, h4, h5, h6⟩, hn⟩ := h
  exact ⟨⟨da, dc, qa, qc, fa, fc, ta, tc, la, lc, xa, xc, e, h1.below hb (fun _ _ _ h => rDe_below h hb), h2.belowF hb, h3.belowF hb, h4.belowF hb, h5.below hb (fun _ _ _ h => rSy_below h hb), h6.below hb (fun _ _ _ h => rTs_below h hb)⟩, hn⟩
theorem TrIn.kept {Y : TyT} {O : Prop} {w w' : World} {cs : List Value} {s : Tr} (h : TrIn Y O w cs s) (hO : O) (hk : KeptT Y w w') : TrIn Y O w' cs s := by
  obtain ⟨⟨da, dc, qa, qc, fa, fc, ta, tc, la, lc, xa, xc, e, h1, h2, h3, h4, h5, h6⟩, hn⟩ := h
  exact ⟨⟨da, dc, qa, qc, fa, fc, ta, tc, la, lc, xa, xc, e, h1.kept hO hk.size hk.de (fun _ _ _ h => rDe_kept h hO hk), h2.keptF hO hk.size hk.qu, h3.keptF hO hk.size hk.fr, h4.keptF hO hk.size hk.st, h5.kept hO hk.size hk.sy (fun _ _ _ h => rSy_kept h hO hk), h6.kept hO hk.size hk.ts (fun _ _ _ h => rTs_kept h hO hk)⟩, hn⟩
end Go.Proofs.YtojabkhfkbfeaaaGreatDoor
