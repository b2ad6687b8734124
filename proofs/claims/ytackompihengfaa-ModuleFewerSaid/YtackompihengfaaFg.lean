/-
  A module as told, and how the law's one lies in memory.
-/
import Derived.Test.YtackompihengfaaFf
namespace Go.Proofs.Ytackompihengfaa
open Go.RowKit
set_option linter.unusedVariables false
set_option linter.unusedSimpArgs false
structure SigT where
  P : List Nat
  R : List Nat
structure ImpT where
  mo : ByteArray
  nm : ByteArray
  sg : Int
structure FunT where
  sg : Int
  lc : List Nat
  m : Nat
  X : Nat → In
structure LimT where
  mn : Int
  mx : Int
  wd : Bool
structure GlT where
  ty : Nat
  mu : Bool
  va : Int
structure ExT where
  nm : ByteArray
  kd : Int
  ix : Int
structure ElT where
  at_ : Int
  fs : List Int
structure DaT where
  me : Int
  at_ : Int
  bs : List Nat
/-- a row of structs of k cells -/
def Row {α : Type} (k : Nat) (It : World → Nat → Nat → α → Prop) (w : World) (A : Option Addr) (m cap : Nat) (X : Nat → α) : Prop :=
  m ≤ cap ∧ cap ≤ maxLen ∧ (0 < m → ∃ b off, A = some ⟨b, off, none⟩ ∧ b < w.heap.size ∧ ∀ i, i < m → It w b (off + i * k) (X i))
/-- what stays, where all that was there stays -/
def Stay {α : Type} (It : World → Nat → Nat → α → Prop) : Prop := ∀ w w' b o x, It w b o x → Below w.heap.size w w' → b < w.heap.size → It w' b o x
theorem Row.below {α : Type} {k : Nat} {It : World → Nat → Nat → α → Prop} {w w' : World} {A : Option Addr} {m cap : Nat} {X : Nat → α} (hs : Stay It) (h : Row k It w A m cap X) (hb : Below w.heap.size w w') : Row k It w' A m cap X := by
  obtain ⟨h1, h2, h3⟩ := h
  refine ⟨h1, h2, fun h0 => ?_⟩
  obtain ⟨b, off, e, hl, hi⟩ := h3 h0
  exact ⟨b, off, e, Nat.lt_of_lt_of_le hl hb.size, fun i hi' => hs _ _ _ _ _ (hi i hi') hb hl⟩
/-- a slice of ints that can be read -/
def Si (w : World) (B : Option Addr) (n cp : Nat) (l : List Int) : Prop :=
  l.length = n ∧ n ≤ cp ∧ cp ≤ maxLen ∧ (0 < n → ∃ g o, B = some ⟨g, o, none⟩ ∧ g < w.heap.size ∧ ∀ i, i < n → w.cell? ⟨g, o + i, none⟩ = some (.int .i64 (l.getD i 0)))
theorem Si.below {w w' : World} {B : Option Addr} {n cp : Nat} {l : List Int} (h : Si w B n cp l) (hb : Below w.heap.size w w') : Si w' B n cp l := by
  obtain ⟨h1, h2, h3, h4⟩ := h
  refine ⟨h1, h2, h3, fun h0 => ?_⟩
  obtain ⟨g, o, e, hg, hc⟩ := h4 h0
  exact ⟨g, o, e, Nat.lt_of_lt_of_le hg hb.size, fun i hi => (hb.cell (p := ⟨g, o + i, none⟩) hg).trans (hc i hi)⟩
def SigAt (w : World) (b o : Nat) (x : SigT) : Prop := ∃ (A : Option Addr) (c : Nat) (B : Option Addr) (d : Nat), w.cell? ⟨b, o, none⟩ = some (.slice A x.P.length c) ∧ w.cell? ⟨b, o + 1, none⟩ = some (.slice B x.R.length d) ∧ Byt w A x.P.length c x.P ∧ Byt w B x.R.length d x.R
def ImpAt (w : World) (b o : Nat) (x : ImpT) : Prop := w.cell? ⟨b, o, none⟩ = some (.string x.mo) ∧ w.cell? ⟨b, o + 1, none⟩ = some (.string x.nm) ∧ w.cell? ⟨b, o + 2, none⟩ = some (.int .i64 x.sg)
def FunAt (w : World) (b o : Nat) (x : FunT) : Prop := ∃ (A : Option Addr) (c : Nat) (B : Option Addr) (d : Nat), w.cell? ⟨b, o, none⟩ = some (.int .i64 x.sg) ∧ w.cell? ⟨b, o + 1, none⟩ = some (.slice A x.lc.length c) ∧ w.cell? ⟨b, o + 2, none⟩ = some (.slice B x.m d) ∧ Byt w A x.lc.length c x.lc ∧ IRow w B x.m d x.X
def LimAt (w : World) (b o : Nat) (x : LimT) : Prop := w.cell? ⟨b, o, none⟩ = some (.int .i64 x.mn) ∧ w.cell? ⟨b, o + 1, none⟩ = some (.int .i64 x.mx) ∧ w.cell? ⟨b, o + 2, none⟩ = some (.bool x.wd)
def GlAt (w : World) (b o : Nat) (x : GlT) : Prop := w.cell? ⟨b, o, none⟩ = some (.int .u8 (x.ty : Nat)) ∧ w.cell? ⟨b, o + 1, none⟩ = some (.bool x.mu) ∧ w.cell? ⟨b, o + 2, none⟩ = some (.int .u64 x.va) ∧ x.ty < 256
def ExAt (w : World) (b o : Nat) (x : ExT) : Prop := w.cell? ⟨b, o, none⟩ = some (.string x.nm) ∧ w.cell? ⟨b, o + 1, none⟩ = some (.int .i64 x.kd) ∧ w.cell? ⟨b, o + 2, none⟩ = some (.int .i64 x.ix)
def ElAt (w : World) (b o : Nat) (x : ElT) : Prop := ∃ (A : Option Addr) (c : Nat), w.cell? ⟨b, o, none⟩ = some (.int .u64 x.at_) ∧ w.cell? ⟨b, o + 1, none⟩ = some (.slice A x.fs.length c) ∧ Si w A x.fs.length c x.fs
def DaAt (w : World) (b o : Nat) (x : DaT) : Prop := ∃ (A : Option Addr) (c : Nat), w.cell? ⟨b, o, none⟩ = some (.int .i64 x.me) ∧ w.cell? ⟨b, o + 1, none⟩ = some (.int .u64 x.at_) ∧ w.cell? ⟨b, o + 2, none⟩ = some (.slice A x.bs.length c) ∧ Byt w A x.bs.length c x.bs
section
variable {w w' : World} {b : Nat}
theorem keepC (hb : Below w.heap.size w w') (hl : b < w.heap.size) {o : Nat} {v : Value} (h : w.cell? ⟨b, o, none⟩ = some v) : w'.cell? ⟨b, o, none⟩ = some v := (hb.cell (p := ⟨b, o, none⟩) hl).trans h
end
theorem sig_stay : Stay SigAt := fun w w' b o x ⟨A, c, B, d, h0, h1, h2, h3⟩ hb hl => ⟨A, c, B, d, keepC hb hl h0, keepC hb hl h1, h2.below hb, h3.below hb⟩
theorem imp_stay : Stay ImpAt := fun w w' b o x ⟨h0, h1, h2⟩ hb hl => ⟨keepC hb hl h0, keepC hb hl h1, keepC hb hl h2⟩
theorem fun_stay : Stay FunAt := fun w w' b o x ⟨A, c, B, d, h0, h1, h2, h3, h4⟩ hb hl => ⟨A, c, B, d, keepC hb hl h0, keepC hb hl h1, keepC hb hl h2, h3.below hb, h4.below hb⟩
theorem lim_stay : Stay LimAt := fun w w' b o x ⟨h0, h1, h2⟩ hb hl => ⟨keepC hb hl h0, keepC hb hl h1, keepC hb hl h2⟩
theorem gl_stay : Stay GlAt := fun w w' b o x ⟨h0, h1, h2, h3⟩ hb hl => ⟨keepC hb hl h0, keepC hb hl h1, keepC hb hl h2, h3⟩
theorem ex_stay : Stay ExAt := fun w w' b o x ⟨h0, h1, h2⟩ hb hl => ⟨keepC hb hl h0, keepC hb hl h1, keepC hb hl h2⟩
theorem el_stay : Stay ElAt := fun w w' b o x ⟨A, c, h0, h1, h2⟩ hb hl => ⟨A, c, keepC hb hl h0, keepC hb hl h1, h2.below hb⟩
theorem da_stay : Stay DaAt := fun w w' b o x ⟨A, c, h0, h1, h2, h3⟩ hb hl => ⟨A, c, keepC hb hl h0, keepC hb hl h1, keepC hb hl h2, h3.below hb⟩
/-- a slice's three words -/
structure Sv where
  A : Option Addr
  n : Nat
  c : Nat
def Sv.v (s : Sv) : Value := .slice s.A s.n s.c
/-- the law's module -/
structure Mt where
  s0 : Sv
  X0 : Nat → SigT
  s1 : Sv
  X1 : Nat → ImpT
  s2 : Sv
  X2 : Nat → FunT
  tab : Int
  s4 : Sv
  X4 : Nat → LimT
  s5 : Sv
  X5 : Nat → GlT
  s6 : Sv
  X6 : Nat → ExT
  start : Int
  s8 : Sv
  X8 : Nat → ElT
  s9 : Sv
  X9 : Nat → DaT
def Mt.cells (x : Mt) : Array Value := #[x.s0.v, x.s1.v, x.s2.v, .int .i64 x.tab, x.s4.v, x.s5.v, x.s6.v, .int .i64 x.start, x.s8.v, x.s9.v]
structure MtAt (w : World) (x : Mt) : Prop where
  r0 : Row 2 SigAt w x.s0.A x.s0.n x.s0.c x.X0
  r1 : Row 3 ImpAt w x.s1.A x.s1.n x.s1.c x.X1
  r2 : Row 3 FunAt w x.s2.A x.s2.n x.s2.c x.X2
  r4 : Row 3 LimAt w x.s4.A x.s4.n x.s4.c x.X4
  r5 : Row 3 GlAt w x.s5.A x.s5.n x.s5.c x.X5
  r6 : Row 3 ExAt w x.s6.A x.s6.n x.s6.c x.X6
  r8 : Row 2 ElAt w x.s8.A x.s8.n x.s8.c x.X8
  r9 : Row 3 DaAt w x.s9.A x.s9.n x.s9.c x.X9
theorem MtAt.below {w w' : World} {x : Mt} (h : MtAt w x) (hb : Below w.heap.size w w') : MtAt w' x :=
  ⟨h.r0.below sig_stay hb, h.r1.below imp_stay hb, h.r2.below fun_stay hb, h.r4.below lim_stay hb, h.r5.below gl_stay hb, h.r6.below ex_stay hb, h.r8.below el_stay hb, h.r9.below da_stay hb⟩
def Top : Nat := 140737488355328
/-- no more than memory holds -/
structure MtBd (x : Mt) : Prop where
  n0 : x.s0.n ≤ 140737488355328
  n1 : x.s1.n ≤ 140737488355328
  n2 : x.s2.n ≤ 140737488355328
  n4 : x.s4.n ≤ 140737488355328
  n5 : x.s5.n ≤ 140737488355328
  n6 : x.s6.n ≤ 140737488355328
  n8 : x.s8.n ≤ 140737488355328
  n9 : x.s9.n ≤ 140737488355328
  l0 : ∀ i, i < x.s0.n → (x.X0 i).P.length ≤ 140737488355328 ∧ (x.X0 i).R.length ≤ 140737488355328
  l1 : ∀ i, i < x.s1.n → (x.X1 i).mo.size ≤ 140737488355328 ∧ (x.X1 i).nm.size ≤ 140737488355328
  l2 : ∀ i, i < x.s2.n → (x.X2 i).lc.length ≤ 140737488355328 ∧ IBd (x.X2 i).m (x.X2 i).X
  l6 : ∀ i, i < x.s6.n → (x.X6 i).nm.size ≤ 140737488355328
  l8 : ∀ i, i < x.s8.n → (x.X8 i).fs.length ≤ 140737488355328
  l9 : ∀ i, i < x.s9.n → (x.X9 i).bs.length ≤ 140737488355328
/-- what Great asks: no more than is asked of -/
structure MtSm (x : Mt) : Prop where
  n0 : x.s0.n ≤ 60
  n1 : x.s1.n ≤ 25
  n2 : x.s2.n ≤ 110
  n4 : x.s4.n ≤ 8
  n5 : x.s5.n ≤ 60
  n6 : x.s6.n ≤ 60
  n8 : x.s8.n ≤ 25
  n9 : x.s9.n ≤ 25
  l0 : ∀ i, i < x.s0.n → (x.X0 i).P.length + (x.X0 i).R.length ≤ 60
  l1 : ∀ i, i < x.s1.n → (x.X1 i).mo.size + (x.X1 i).nm.size ≤ 100
  l2 : ∀ i, i < x.s2.n → (x.X2 i).lc.length ≤ 60 ∧ grF (x.X2 i).m (x.X2 i).X
  l6 : ∀ i, i < x.s6.n → (x.X6 i).nm.size ≤ 60
  l8 : ∀ i, i < x.s8.n → (x.X8 i).fs.length ≤ 30
  l9 : ∀ i, i < x.s9.n → (x.X9 i).bs.length ≤ 4100
end Go.Proofs.Ytackompihengfaa
