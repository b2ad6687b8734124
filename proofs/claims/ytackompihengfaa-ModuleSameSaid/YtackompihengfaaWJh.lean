/-
  module.Same of two modules that To has made.
-/
import Derived.Test.YtackompihengfaaWJg
namespace Go.Proofs.Ytackompihengfaa
open Go.RowKit Go.PlainAid
set_option linter.unusedVariables false
set_option linter.unusedSimpArgs false
def eqMf (x y : Mt) : Bool := eqL x.s0.n y.s0.n (fun i => eqS (x.X0 i) (y.X0 i)) && eqL x.s1.n y.s1.n (fun i => eqImport (x.X1 i) (y.X1 i)) && eqL x.s2.n y.s2.n (fun i => eqF (x.X2 i) (y.X2 i))
def eqMs (x y : Mt) : Bool := decide (x.tab = y.tab) && eqL x.s4.n y.s4.n (fun i => eqLimits (x.X4 i) (y.X4 i)) && eqL x.s5.n y.s5.n (fun i => eqGlobal (x.X5 i) (y.X5 i)) && eqL x.s8.n y.s8.n (fun i => eqE (x.X8 i) (y.X8 i)) && eqL x.s9.n y.s9.n (fun i => eqD (x.X9 i) (y.X9 i))
def eqM (x y : Mt) : Bool := eqMf x y && eqMs x y && eqL x.s6.n y.s6.n (fun i => eqExport (x.X6 i) (y.X6 i)) && decide (x.start = y.start)
theorem MtAt.sigs {w : World} {x : Mt} (h : MtAt w x) : ∀ i, i < x.s0.n → (∀ a ∈ (x.X0 i).P, a < 256) ∧ (∀ a ∈ (x.X0 i).R, a < 256) := fun i hi => by
  obtain ⟨b, off, e, hl, h2⟩ := h.r0.2.2 (by omega)
  obtain ⟨A, c, B, d, h0, h1, h3, h4⟩ := h2 i hi
  exact ⟨h3.2.1, h4.2.1⟩
theorem MtAt.funs {w : World} {x : Mt} (h : MtAt w x) : ∀ i, i < x.s2.n → ∀ a ∈ (x.X2 i).lc, a < 256 := fun i hi => by
  obtain ⟨b, off, e, hl, h2⟩ := h.r2.2.2 (by omega)
  obtain ⟨A, c, B, d, h0, h1, h3, h4, h5⟩ := h2 i hi
  exact h4.2.1
/-- a module in memory, read as told -/
structure MoAt (w : World) (g : Nat) (x : Mt) (A0 : Option Addr) (c0 : Nat) (A2 : Option Addr) (c2 : Nat) : Prop where
  blk : Blk w g 73 #[.slice A0 x.s0.n c0, x.s1.v, .slice A2 x.s2.n c2, .int .i64 x.tab, x.s4.v, x.s5.v, x.s6.v, .int .i64 x.start, x.s8.v, x.s9.v]
  r0 : Row 2 SigAt w A0 x.s0.n c0 x.X0
  r2 : Row 3 FunAt w A2 x.s2.n c2 x.X2
theorem MdAt.mo {w : World} {B g : Nat} {x : Mt} {sv fv : Value} {SP SR LV IV : Nat → Value} {S : Nat → Nat → Value} (h : MdAt w B g x sv fv SP SR LV IV S) (hx : MtAt w x) (hs : MtSm x) : ∃ A0 c0 A2 c2, MoAt w g x A0 c0 A2 c2 := by
  obtain ⟨A0, c0, rfl⟩ := own_slice h.sg.1
  obtain ⟨A2, c2, rfl⟩ := own_slice h.fn.1
  refine ⟨A0, c0, A2, c2, h.blk, h.sg.row hx.sigs (fun i hi => ?_), h.fn.row hx.funs (fun i hi => ?_)⟩
  · have := hs.l0 i hi
    unfold maxLen
    omega
  · have h1 := hs.l2 i hi
    unfold maxLen
    exact ⟨by omega, fun j hj => by have := h1.2.2 j hj; omega⟩
theorem MoAt.below {w w' : World} {g : Nat} {x : Mt} {A0 A2 : Option Addr} {c0 c2 : Nat} (h : MoAt w g x A0 c0 A2 c2) (hb : Below w.heap.size w w') : MoAt w' g x A0 c0 A2 c2 :=
  ⟨h.blk.below hb h.blk.lt, h.r0.below sig_stay hb, h.r2.below fun_stay hb⟩
theorem Same_ok (x y : Mt) (g g' : Nat) (A0 A2 B0 B2 : Option Addr) (c0 c2 d0 d2 : Nat) (w : World) (hm : MoAt w g x A0 c0 A2 c2) (hn : MoAt w g' y B0 d0 B2 d2) (hx : MtAt w x) (hy : MtAt w y) (hs : MtSm x) (ht : MtSm y) :
    Calls Try.prog 21 #[.pointer (some ⟨g, 0, none⟩), .pointer (some ⟨g', 0, none⟩)] w fun e w' => e = .returned (.bool (eqM x y)) ∧ Below w.heap.size w w' := by
  have l0 : ∀ {z : Mt}, MtSm z → ∀ i, i < z.s0.n → (z.X0 i).P.length ≤ 1000 ∧ (z.X0 i).R.length ≤ 1000 := fun hz i hi => by have := hz.l0 i hi; omega
  have l2 : ∀ {z : Mt}, MtSm z → ∀ i, i < z.s2.n → (z.X2 i).lc.length ≤ 1000 ∧ (z.X2 i).m ≤ 1000 ∧ ∀ j, j < (z.X2 i).m → ((z.X2 i).X j).l.length ≤ 1000 := fun hz i hi => by
    have h := hz.l2 i hi
    exact ⟨by omega, by have := h.2.1; omega, fun j hj => by have := h.2.2 j hj; omega⟩
  have l8 : ∀ {z : Mt}, MtSm z → ∀ i, i < z.s8.n → (z.X8 i).fs.length ≤ 1000 := fun hz i hi => by have := hz.l8 i hi; omega
  have l9 : ∀ {z : Mt}, MtSm z → ∀ i, i < z.s9.n → (z.X9 i).bs.length ≤ 5000 := fun hz i hi => by have := hz.l9 i hi; omega
  have a0 := hs.n0
  have a1 := hs.n1
  have a2 := hs.n2
  have a4 := hs.n4
  have a5 := hs.n5
  have a6 := hs.n6
  have a8 := hs.n8
  have a9 := hs.n9
  have b0 := ht.n0
  have b1 := ht.n1
  have b2 := ht.n2
  have b4 := ht.n4
  have b5 := ht.n5
  have b6 := ht.n6
  have b8 := ht.n8
  have b9 := ht.n9
  refine moduleSame0 g x.tab x.start A0 x.s0.n c0 x.s1.A x.s1.n x.s1.c A2 x.s2.n c2 x.s4.A x.s4.n x.s4.c x.s5.A x.s5.n x.s5.c x.s6.A x.s6.n x.s6.c x.s8.A x.s8.n x.s8.c x.s9.A x.s9.n x.s9.c
    g' y.tab y.start B0 y.s0.n d0 y.s1.A y.s1.n y.s1.c B2 y.s2.n d2 y.s4.A y.s4.n y.s4.c y.s5.A y.s5.n y.s5.c y.s6.A y.s6.n y.s6.c y.s8.A y.s8.n y.s8.c y.s9.A y.s9.n y.s9.c
    (eqMf x y) (eqMs x y) _ w hm.blk hn.blk (fun W hW => ?_) (fun W hW => ?_) (fun W hW => EqualExport_ok _ _ _ _ _ _ _ _ (by omega) (by omega) W (hx.below hW).r6 (hy.below hW).r6)
  · refine sameFuncs0 g x.tab x.start A0 x.s0.n c0 x.s1.A x.s1.n x.s1.c A2 x.s2.n c2 x.s4.A x.s4.n x.s4.c x.s5.A x.s5.n x.s5.c x.s6.A x.s6.n x.s6.c x.s8.A x.s8.n x.s8.c x.s9.A x.s9.n x.s9.c
      g' y.tab y.start B0 y.s0.n d0 y.s1.A y.s1.n y.s1.c B2 y.s2.n d2 y.s4.A y.s4.n y.s4.c y.s5.A y.s5.n y.s5.c y.s6.A y.s6.n y.s6.c y.s8.A y.s8.n y.s8.c y.s9.A y.s9.n y.s9.c
      _ _ _ W (hm.below hW).blk (hn.below hW).blk (fun V hV => ?_) (fun V hV => ?_) (fun V hV => ?_)
    · exact SigRows_ok _ _ _ _ _ _ _ _ (by omega) (by omega) (l0 hs) (l0 ht) V ((hm.below hW).below hV).r0 ((hn.below hW).below hV).r0
    · exact EqualImport_ok _ _ _ _ _ _ _ _ (by omega) (by omega) V ((hx.below hW).below hV).r1 ((hy.below hW).below hV).r1
    · exact FunRows_ok _ _ _ _ _ _ _ _ (by omega) (by omega) (l2 hs) (l2 ht) V ((hm.below hW).below hV).r2 ((hn.below hW).below hV).r2
  · refine sameStore0 g x.tab x.start A0 x.s0.n c0 x.s1.A x.s1.n x.s1.c A2 x.s2.n c2 x.s4.A x.s4.n x.s4.c x.s5.A x.s5.n x.s5.c x.s6.A x.s6.n x.s6.c x.s8.A x.s8.n x.s8.c x.s9.A x.s9.n x.s9.c
      g' y.tab y.start B0 y.s0.n d0 y.s1.A y.s1.n y.s1.c B2 y.s2.n d2 y.s4.A y.s4.n y.s4.c y.s5.A y.s5.n y.s5.c y.s6.A y.s6.n y.s6.c y.s8.A y.s8.n y.s8.c y.s9.A y.s9.n y.s9.c
      _ _ _ _ W (hm.below hW).blk (hn.below hW).blk (fun V hV => ?_) (fun V hV => ?_) (fun V hV => ?_) (fun V hV => ?_)
    · exact EqualLimits_ok _ _ _ _ _ _ _ _ (by omega) (by omega) V ((hx.below hW).below hV).r4 ((hy.below hW).below hV).r4
    · exact EqualGlobal_ok _ _ _ _ _ _ _ _ (by omega) (by omega) V ((hx.below hW).below hV).r5 ((hy.below hW).below hV).r5
    · exact ElRows_ok _ _ _ _ _ _ _ _ (by omega) (by omega) (l8 hs) (l8 ht) V ((hx.below hW).below hV).r8 ((hy.below hW).below hV).r8
    · exact DaRows_ok _ _ _ _ _ _ _ _ (by omega) (by omega) (l9 hs) (l9 ht) V ((hx.below hW).below hV).r9 ((hy.below hW).below hV).r9
end Go.Proofs.Ytackompihengfaa
