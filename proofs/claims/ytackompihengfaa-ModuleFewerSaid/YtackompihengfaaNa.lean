/-
  What To has made, read as what was told (of Je and Jh, without what Same wants).
-/
import Derived.Test.YtackompihengfaaHa
import Derived.Test.YtackompihengfaaFj
import Derived.Test.YtackompihengfaaGf
namespace Go.Proofs.Ytackompihengfaa
open Go.RowKit Go.PlainAid
set_option linter.unusedVariables false
set_option linter.unusedSimpArgs false
theorem own_nc {base E size : Nat} {w : World} {A : Option Addr} {n c : Nat} {xs : List Value} (h : w.ownsRow base E size (.slice A n c) n xs) : n ≤ c ∧ c ≤ maxLen := by
  rcases h.2 with ⟨e, h0⟩ | ⟨g, cap, cur, e, _, _, h1, h2, _⟩
  · cases e; exact ⟨Nat.le_refl _, Nat.zero_le _⟩
  · cases e; exact ⟨h1, h2⟩
theorem sl_own {w : World} {B n : Nat} {v : Value} {l : List Int} (h : w.ownsRow B 77 1 v n (l.map U64)) (hl : l.length = n) (hn : n ≤ maxLen) : ∃ A cp, v = .slice A n cp ∧ Sl w A n cp l := by
  rcases Nat.eq_zero_or_pos n with h0 | h0
  · subst h0
    rcases h.2 with ⟨e, h1⟩ | ⟨g, cap, cur, e, h1, h2, h3, h4, h5, h6⟩
    · subst e
      exact ⟨none, 0, rfl, ⟨hl, Nat.le_refl _, Nat.zero_le _, fun q => absurd q (by omega)⟩⟩
    · subst e
      exact ⟨_, _, rfl, ⟨hl, by omega, h4, fun q => absurd q (by omega)⟩⟩
  · rcases h.2 with ⟨e, h1⟩ | ⟨g, cap, cur, e, h1, h2, h3, h4, h5, h6⟩
    · omega
    · subst e
      refine ⟨_, _, rfl, ⟨hl, h3, h4, fun _ => ⟨g, 0, rfl, (h.lt g rfl).2, fun j hj => ?_⟩⟩⟩
      rw [Nat.zero_add, h.cellAt j (by omega), List.getElem?_map, List.getD_eq_getElem?_getD, List.getElem?_eq_getElem (by omega)]
      rfl
theorem Made.row {w : World} {B m c : Nat} {A : Option Addr} {X : Nat → In} {S : Nat → Value} (h : Made w B (.slice A m c) m X S) (hl : ∀ i, i < m → (X i).l.length ≤ maxLen) : IRow w A m c X := by
  obtain ⟨h1, h2⟩ := own_nc h.1
  refine ⟨h1, h2, fun h0 => ?_⟩
  obtain ⟨g, cp, e, h5, h6⟩ := own_some h.1 h0
  cases e
  refine ⟨g, 0, rfl, (h.1.lt g rfl).2, fun i hi => ?_⟩
  obtain ⟨As, cs, eS, hS⟩ := sl_own (h.2 i hi) rfl (hl i hi)
  have hc : ∀ j, j < 5 → ∀ v, (I5 (X i) (S i))[j]? = some v → w.cell? ⟨g, 0 + i * 5 + j, none⟩ = some v := fun j hj v hv => by
    rw [Nat.zero_add, h.1.cellAt (i * 5 + j) (by omega)]
    exact rowC_get X S m i j v hi hv
  exact ⟨As, cs, hc 0 (by omega) _ rfl, hc 1 (by omega) _ rfl, hc 2 (by omega) _ rfl, hc 3 (by omega) _ rfl, by rw [← eS]; exact hc 4 (by omega) _ rfl, hS⟩
theorem SgM.row {w : World} {B n c : Nat} {A : Option Addr} {X : Nat → SigT} {SP SR : Nat → Value} (h : SgM w B (.slice A n c) n X SP SR) (hx : ∀ i, i < n → (∀ x ∈ (X i).P, x < 256) ∧ (∀ x ∈ (X i).R, x < 256)) (hl : ∀ i, i < n → (X i).P.length ≤ maxLen ∧ (X i).R.length ≤ maxLen) : Row 2 SigAt w A n c X := by
  obtain ⟨h1, h2⟩ := own_nc h.1
  refine ⟨h1, h2, fun h0 => ?_⟩
  obtain ⟨g, e, _, _, _⟩ := h.at_ h0
  subst e
  refine ⟨g, 0, rfl, (h.1.lt g rfl).2, fun i hi => ?_⟩
  obtain ⟨g2, e2, _, _, c0, c1⟩ := h.at_ hi
  cases e2
  obtain ⟨P1, p1, eP, hP⟩ := byt_own76 (h.2 i hi).1 rfl (hx i hi).1 (hl i hi).1
  obtain ⟨R1, r1, eR, hR⟩ := byt_own76 (h.2 i hi).2 rfl (hx i hi).2 (hl i hi).2
  exact ⟨P1, p1, R1, r1, by rw [Nat.zero_add, c0, eP], by rw [Nat.zero_add, c1, eR], hP, hR⟩
theorem FnM.row {w : World} {B n c : Nat} {A : Option Addr} {X : Nat → FunT} {LV IV : Nat → Value} {S : Nat → Nat → Value} (h : FnM w B (.slice A n c) n X LV IV S) (hx : ∀ i, i < n → ∀ x ∈ (X i).lc, x < 256) (hl : ∀ i, i < n → (X i).lc.length ≤ maxLen ∧ ∀ j, j < (X i).m → ((X i).X j).l.length ≤ maxLen) : Row 3 FunAt w A n c X := by
  obtain ⟨h1, h2⟩ := own_nc h.1
  refine ⟨h1, h2, fun h0 => ?_⟩
  obtain ⟨g, cp, e, h5, h6⟩ := own_some h.1 h0
  cases e
  refine ⟨g, 0, rfl, (h.1.lt g rfl).2, fun i hi => ?_⟩
  obtain ⟨P1, p1, eP, hP⟩ := byt_own76 (h.2 i hi).1 rfl (hx i hi) (hl i hi).1
  obtain ⟨IA, ic, eI⟩ := own_slice (h.2 i hi).2.1
  have hI : IRow w IA (X i).m ic (X i).X := Made.row (S := S i) (B := B) (by rw [← eI]; exact (h.2 i hi).2) (hl i hi).2
  have hc : ∀ j, j < 3 → ∀ v, [Value.int .i64 (X i).sg, LV i, IV i][j]? = some v → w.cell? ⟨g, 0 + i * 3 + j, none⟩ = some v := fun j hj v hv => by
    rw [Nat.zero_add, h.1.cellAt (i * 3 + j) (by omega)]
    exact funC_get X LV IV n i j v hi hv
  exact ⟨P1, p1, IA, ic, hc 0 (by omega) _ rfl, by rw [← eP]; exact hc 1 (by omega) _ rfl, by rw [← eI]; exact hc 2 (by omega) _ rfl, hP, hI⟩
theorem MtAt.sigs {w : World} {x : Mt} (h : MtAt w x) : ∀ i, i < x.s0.n → (∀ a ∈ (x.X0 i).P, a < 256) ∧ (∀ a ∈ (x.X0 i).R, a < 256) := fun i hi => by
  obtain ⟨b, off, e, hl, h2⟩ := h.r0.2.2 (by omega)
  obtain ⟨A, c, B, d, h0, h1, h3, h4⟩ := h2 i hi
  exact ⟨h3.2.1, h4.2.1⟩
theorem MtAt.funs {w : World} {x : Mt} (h : MtAt w x) : ∀ i, i < x.s2.n → ∀ a ∈ (x.X2 i).lc, a < 256 := fun i hi => by
  obtain ⟨b, off, e, hl, h2⟩ := h.r2.2.2 (by omega)
  obtain ⟨A, c, B, d, h0, h1, h3, h4, h5⟩ := h2 i hi
  exact h4.2.1
/-- a module in memory, read as told -/
structure MoAt (w : World) (g : Nat) (x : Mt) (A0 : Option Addr) (c0 : Nat) (A2 : Option Addr) (c2 : Nat) : Prop where
  blk : Blk w g 73 #[.slice A0 x.s0.n c0, x.s1.v, .slice A2 x.s2.n c2, .int .i64 x.tab, x.s4.v, x.s5.v, x.s6.v, .int .i64 x.start, x.s8.v, x.s9.v]
  r0 : Row 2 SigAt w A0 x.s0.n c0 x.X0
  r2 : Row 3 FunAt w A2 x.s2.n c2 x.X2
theorem MdAt.mo {w : World} {B g : Nat} {x : Mt} {sv fv : Value} {SP SR LV IV : Nat → Value} {S : Nat → Nat → Value} (h : MdAt w B g x sv fv SP SR LV IV S) (hx : MtAt w x) (hs : MtSm x) : ∃ A0 c0 A2 c2, MoAt w g x A0 c0 A2 c2 := by
  obtain ⟨A0, c0, rfl⟩ := own_slice h.sg.1
  obtain ⟨A2, c2, rfl⟩ := own_slice h.fn.1
  refine ⟨A0, c0, A2, c2, h.blk, h.sg.row hx.sigs (fun i hi => ?_), h.fn.row hx.funs (fun i hi => ?_)⟩
  · have := hs.l0 i hi
    unfold maxLen
    omega
  · have h1 := hs.l2 i hi
    unfold maxLen
    exact ⟨by omega, fun j hj => by have := h1.2.2 j hj; omega⟩
theorem MoAt.below {w w' : World} {g : Nat} {x : Mt} {A0 A2 : Option Addr} {c0 c2 : Nat} (h : MoAt w g x A0 c0 A2 c2) (hb : Below w.heap.size w w') : MoAt w' g x A0 c0 A2 c2 :=
  ⟨h.blk.below hb h.blk.lt, h.r0.below sig_stay hb, h.r2.below fun_stay hb⟩
end Go.Proofs.Ytackompihengfaa
