/-
  module.Same's four rows that hold slices: told as cells; what EqualFunc answers of them.
-/
import Derived.Test.YtackompihengfaaWJf
namespace Go.Proofs.Ytackompihengfaa
open Go.RowKit Go.PlainAid
set_option linter.unusedVariables false
set_option linter.unusedSimpArgs false
theorem sigRow_cells {w : World} {A : Option Addr} {m c : Nat} {X : Nat → SigT} (h : Row 2 SigAt w A m c X) : ∃ (s0 : Nat → Option Addr) (t0 : Nat → Nat) (s1 : Nat → Option Addr) (t1 : Nat → Nat), Cells 2 w A m c (fun i j => [.slice (s0 i) (X i).P.length (t0 i), .slice (s1 i) (X i).R.length (t1 i)].getD j undef) ∧ ∀ i, i < m → Byt w (s0 i) (X i).P.length (t0 i) (X i).P ∧ Byt w (s1 i) (X i).R.length (t1 i) (X i).R := by
  obtain ⟨h1, h2, h3⟩ := h
  rcases Nat.eq_zero_or_pos m with h0 | h0
  · exact ⟨fun _ => none, fun _ => 0, fun _ => none, fun _ => 0, ⟨h1, h2, fun q => absurd q (by omega)⟩, fun i q => absurd q (by omega)⟩
  · obtain ⟨b, off, e, hl, hi⟩ := h3 h0
    have hex : ∀ i, ∃ s : (Option Addr × Nat) × (Option Addr × Nat), i < m → w.cell? ⟨b, off + i * 2, none⟩ = some (.slice s.1.1 (X i).P.length s.1.2) ∧ w.cell? ⟨b, off + i * 2 + 1, none⟩ = some (.slice s.2.1 (X i).R.length s.2.2) ∧ Byt w s.1.1 (X i).P.length s.1.2 (X i).P ∧ Byt w s.2.1 (X i).R.length s.2.2 (X i).R := fun i => by
      by_cases q : i < m
      · obtain ⟨B0, c0, B1, c1, g0, g1, p0, p1⟩ := hi i q
        exact ⟨((B0, c0), (B1, c1)), fun _ => ⟨g0, g1, p0, p1⟩⟩
      · exact ⟨((none, 0), (none, 0)), fun q' => absurd q' q⟩
    refine ⟨fun i => (Classical.choose (hex i)).1.1, fun i => (Classical.choose (hex i)).1.2, fun i => (Classical.choose (hex i)).2.1, fun i => (Classical.choose (hex i)).2.2, ⟨h1, h2, fun _ => ⟨b, off, e, hl, fun i q j hj => ?_⟩⟩, fun i q => ⟨(Classical.choose_spec (hex i) q).2.2.1, (Classical.choose_spec (hex i) q).2.2.2⟩⟩
    obtain ⟨B0, c0, B1, c1, g0, g1, p0, p1⟩ := hi i q
    rcases j with _ | _ | j
    · exact (Classical.choose_spec (hex i) q).1
    · exact (Classical.choose_spec (hex i) q).2.1
    · omega
theorem funRow_cells {w : World} {A : Option Addr} {m c : Nat} {X : Nat → FunT} (h : Row 3 FunAt w A m c X) : ∃ (s1 : Nat → Option Addr) (t1 : Nat → Nat) (s2 : Nat → Option Addr) (t2 : Nat → Nat), Cells 3 w A m c (fun i j => [.int .i64 (X i).sg, .slice (s1 i) (X i).lc.length (t1 i), .slice (s2 i) (X i).m (t2 i)].getD j undef) ∧ ∀ i, i < m → Byt w (s1 i) (X i).lc.length (t1 i) (X i).lc ∧ IRow w (s2 i) (X i).m (t2 i) (X i).X := by
  obtain ⟨h1, h2, h3⟩ := h
  rcases Nat.eq_zero_or_pos m with h0 | h0
  · exact ⟨fun _ => none, fun _ => 0, fun _ => none, fun _ => 0, ⟨h1, h2, fun q => absurd q (by omega)⟩, fun i q => absurd q (by omega)⟩
  · obtain ⟨b, off, e, hl, hi⟩ := h3 h0
    have hex : ∀ i, ∃ s : (Option Addr × Nat) × (Option Addr × Nat), i < m → w.cell? ⟨b, off + i * 3 + 1, none⟩ = some (.slice s.1.1 (X i).lc.length s.1.2) ∧ w.cell? ⟨b, off + i * 3 + 2, none⟩ = some (.slice s.2.1 (X i).m s.2.2) ∧ Byt w s.1.1 (X i).lc.length s.1.2 (X i).lc ∧ IRow w s.2.1 (X i).m s.2.2 (X i).X := fun i => by
      by_cases q : i < m
      · obtain ⟨B1, c1, B2, c2, g0, g1, g2, p1, p2⟩ := hi i q
        exact ⟨((B1, c1), (B2, c2)), fun _ => ⟨g1, g2, p1, p2⟩⟩
      · exact ⟨((none, 0), (none, 0)), fun q' => absurd q' q⟩
    refine ⟨fun i => (Classical.choose (hex i)).1.1, fun i => (Classical.choose (hex i)).1.2, fun i => (Classical.choose (hex i)).2.1, fun i => (Classical.choose (hex i)).2.2, ⟨h1, h2, fun _ => ⟨b, off, e, hl, fun i q j hj => ?_⟩⟩, fun i q => ⟨(Classical.choose_spec (hex i) q).2.2.1, (Classical.choose_spec (hex i) q).2.2.2⟩⟩
    obtain ⟨B1, c1, B2, c2, g0, g1, g2, p1, p2⟩ := hi i q
    rcases j with _ | _ | _ | j
    · exact g0
    · exact (Classical.choose_spec (hex i) q).1
    · exact (Classical.choose_spec (hex i) q).2.1
    · omega
theorem elRow_cells {w : World} {A : Option Addr} {m c : Nat} {X : Nat → ElT} (h : Row 2 ElAt w A m c X) : ∃ (s1 : Nat → Option Addr) (t1 : Nat → Nat), Cells 2 w A m c (fun i j => [.int .u64 (X i).at_, .slice (s1 i) (X i).fs.length (t1 i)].getD j undef) ∧ ∀ i, i < m → Si w (s1 i) (X i).fs.length (t1 i) (X i).fs := by
  obtain ⟨h1, h2, h3⟩ := h
  rcases Nat.eq_zero_or_pos m with h0 | h0
  · exact ⟨fun _ => none, fun _ => 0, ⟨h1, h2, fun q => absurd q (by omega)⟩, fun i q => absurd q (by omega)⟩
  · obtain ⟨b, off, e, hl, hi⟩ := h3 h0
    have hex : ∀ i, ∃ s : Option Addr × Nat, i < m → w.cell? ⟨b, off + i * 2 + 1, none⟩ = some (.slice s.1 (X i).fs.length s.2) ∧ Si w s.1 (X i).fs.length s.2 (X i).fs := fun i => by
      by_cases q : i < m
      · obtain ⟨B1, c1, g0, g1, p1⟩ := hi i q
        exact ⟨(B1, c1), fun _ => ⟨g1, p1⟩⟩
      · exact ⟨(none, 0), fun q' => absurd q' q⟩
    refine ⟨fun i => (Classical.choose (hex i)).1, fun i => (Classical.choose (hex i)).2, ⟨h1, h2, fun _ => ⟨b, off, e, hl, fun i q j hj => ?_⟩⟩, fun i q => (Classical.choose_spec (hex i) q).2⟩
    obtain ⟨B1, c1, g0, g1, p1⟩ := hi i q
    rcases j with _ | _ | j
    · exact g0
    · exact (Classical.choose_spec (hex i) q).1
    · omega
theorem daRow_cells {w : World} {A : Option Addr} {m c : Nat} {X : Nat → DaT} (h : Row 3 DaAt w A m c X) : ∃ (s2 : Nat → Option Addr) (t2 : Nat → Nat), Cells 3 w A m c (fun i j => [.int .i64 (X i).me, .int .u64 (X i).at_, .slice (s2 i) (X i).bs.length (t2 i)].getD j undef) ∧ ∀ i, i < m → Byt w (s2 i) (X i).bs.length (t2 i) (X i).bs := by
  obtain ⟨h1, h2, h3⟩ := h
  rcases Nat.eq_zero_or_pos m with h0 | h0
  · exact ⟨fun _ => none, fun _ => 0, ⟨h1, h2, fun q => absurd q (by omega)⟩, fun i q => absurd q (by omega)⟩
  · obtain ⟨b, off, e, hl, hi⟩ := h3 h0
    have hex : ∀ i, ∃ s : Option Addr × Nat, i < m → w.cell? ⟨b, off + i * 3 + 2, none⟩ = some (.slice s.1 (X i).bs.length s.2) ∧ Byt w s.1 (X i).bs.length s.2 (X i).bs := fun i => by
      by_cases q : i < m
      · obtain ⟨B2, c2, g0, g1, g2, p2⟩ := hi i q
        exact ⟨(B2, c2), fun _ => ⟨g2, p2⟩⟩
      · exact ⟨(none, 0), fun q' => absurd q' q⟩
    refine ⟨fun i => (Classical.choose (hex i)).1, fun i => (Classical.choose (hex i)).2, ⟨h1, h2, fun _ => ⟨b, off, e, hl, fun i q j hj => ?_⟩⟩, fun i q => (Classical.choose_spec (hex i) q).2⟩
    obtain ⟨B2, c2, g0, g1, g2, p2⟩ := hi i q
    rcases j with _ | _ | _ | j
    · exact g0
    · exact g1
    · exact (Classical.choose_spec (hex i) q).1
    · omega
def eqS (x y : SigT) : Bool := decide (x.P = y.P) && decide (x.R = y.R)
theorem SigRows_ok (A B : Option Addr) (n m ca cb : Nat) (X Y : Nat → SigT) (hn : n ≤ 1000) (hm : m ≤ 1000) (hx : ∀ i, i < n → (X i).P.length ≤ 1000 ∧ (X i).R.length ≤ 1000) (hy : ∀ i, i < m → (Y i).P.length ≤ 1000 ∧ (Y i).R.length ≤ 1000) (w : World) (ha : Row 2 SigAt w A n ca X) (hb : Row 2 SigAt w B m cb Y) :
    Calls Try.prog 51 #[.slice A n ca, .slice B m cb, .func (.func 17) #[] #[]] w fun e w' => e = .returned (.bool (eqL n m fun i => eqS (X i) (Y i))) ∧ Below w.heap.size w w' := by
  obtain ⟨s0, t0, s1, t1, h1, h2⟩ := sigRow_cells ha
  obtain ⟨u0, v0, u1, v1, h3, h4⟩ := sigRow_cells hb
  exact EqFSig_ok A B n m ca cb s0 (fun i => (X i).P.length) t0 s1 (fun i => (X i).R.length) t1 u0 (fun i => (Y i).P.length) v0 u1 (fun i => (Y i).R.length) v1 (fun i => eqS (X i) (Y i)) hn hm w h1 h3
    (fun W hW i hi hi2 => SigSame_ok _ _ _ _ _ _ _ _ _ _ _ _ _ _ _ _ (hx i hi).1 (hx i hi).2 (hy i hi2).1 (hy i hi2).2 W ((h2 i hi).1.below hW) ((h2 i hi).2.below hW) ((h4 i hi2).1.below hW) ((h4 i hi2).2.below hW))
theorem FunRows_ok (A B : Option Addr) (n m ca cb : Nat) (X Y : Nat → FunT) (hn : n ≤ 1000) (hm : m ≤ 1000) (hx : ∀ i, i < n → (X i).lc.length ≤ 1000 ∧ (X i).m ≤ 1000 ∧ ∀ j, j < (X i).m → ((X i).X j).l.length ≤ 1000) (hy : ∀ i, i < m → (Y i).lc.length ≤ 1000 ∧ (Y i).m ≤ 1000 ∧ ∀ j, j < (Y i).m → ((Y i).X j).l.length ≤ 1000) (w : World) (ha : Row 3 FunAt w A n ca X) (hb : Row 3 FunAt w B m cb Y) :
    Calls Try.prog 53 #[.slice A n ca, .slice B m cb, .func (.func 50) #[] #[]] w fun e w' => e = .returned (.bool (eqL n m fun i => eqF (X i) (Y i))) ∧ Below w.heap.size w w' := by
  obtain ⟨s0, t0, s1, t1, h1, h2⟩ := funRow_cells ha
  obtain ⟨u0, v0, u1, v1, h3, h4⟩ := funRow_cells hb
  exact EqFFunc_ok A B n m ca cb (fun i => (X i).sg) s0 (fun i => (X i).lc.length) t0 s1 (fun i => (X i).m) t1 (fun i => (Y i).sg) u0 (fun i => (Y i).lc.length) v0 u1 (fun i => (Y i).m) v1 (fun i => eqF (X i) (Y i)) hn hm w h1 h3
    (fun W hW i hi hi2 => FuncSame0_ok _ _ _ _ _ _ _ _ _ _ _ _ _ _ _ W
      (fun W2 hW2 => CodeSame_ok _ _ _ _ _ _ _ _ _ _ _ _ _ _ _ _ (hx i hi).1 (hy i hi2).1 (hx i hi).2.1 (hy i hi2).2.1 (hx i hi).2.2 (hy i hi2).2.2 W2 (((h2 i hi).1.below hW).below hW2) (((h4 i hi2).1.below hW).below hW2) (((h2 i hi).2.below hW).below hW2) (((h4 i hi2).2.below hW).below hW2)))
theorem ElRows_ok (A B : Option Addr) (n m ca cb : Nat) (X Y : Nat → ElT) (hn : n ≤ 1000) (hm : m ≤ 1000) (hx : ∀ i, i < n → (X i).fs.length ≤ 1000) (hy : ∀ i, i < m → (Y i).fs.length ≤ 1000) (w : World) (ha : Row 2 ElAt w A n ca X) (hb : Row 2 ElAt w B m cb Y) :
    Calls Try.prog 60 #[.slice A n ca, .slice B m cb, .func (.func 54) #[] #[]] w fun e w' => e = .returned (.bool (eqL n m fun i => eqE (X i) (Y i))) ∧ Below w.heap.size w w' := by
  obtain ⟨s0, t0, h1, h2⟩ := elRow_cells ha
  obtain ⟨u0, v0, h3, h4⟩ := elRow_cells hb
  exact EqFElem_ok A B n m ca cb (fun i => (X i).at_) s0 (fun i => (X i).fs.length) t0 (fun i => (Y i).at_) u0 (fun i => (Y i).fs.length) v0 (fun i => eqE (X i) (Y i)) hn hm w h1 h3
    (fun W hW i hi hi2 => ElemSame0_ok _ _ _ _ _ _ _ _ _ _ (Nat.le_trans (hx i hi) (by omega)) (Nat.le_trans (hy i hi2) (by omega)) W ((h2 i hi).below hW) ((h4 i hi2).below hW)
      (fun W2 hW2 => Equal55_ok _ _ _ _ _ _ _ _ (hx i hi) (hy i hi2) W2 (((h2 i hi).below hW).below hW2) (((h4 i hi2).below hW).below hW2)))
theorem DaRows_ok (A B : Option Addr) (n m ca cb : Nat) (X Y : Nat → DaT) (hn : n ≤ 1000) (hm : m ≤ 1000) (hx : ∀ i, i < n → (X i).bs.length ≤ 5000) (hy : ∀ i, i < m → (Y i).bs.length ≤ 5000) (w : World) (ha : Row 3 DaAt w A n ca X) (hb : Row 3 DaAt w B m cb Y) :
    Calls Try.prog 61 #[.slice A n ca, .slice B m cb, .func (.func 56) #[] #[]] w fun e w' => e = .returned (.bool (eqL n m fun i => eqD (X i) (Y i))) ∧ Below w.heap.size w w' := by
  obtain ⟨s0, t0, h1, h2⟩ := daRow_cells ha
  obtain ⟨u0, v0, h3, h4⟩ := daRow_cells hb
  exact EqFData_ok A B n m ca cb (fun i => (X i).me) (fun i => (X i).at_) s0 (fun i => (X i).bs.length) t0 (fun i => (Y i).me) (fun i => (Y i).at_) u0 (fun i => (Y i).bs.length) v0 (fun i => eqD (X i) (Y i)) hn hm w h1 h3
    (fun W hW i hi hi2 => DataSame0_ok _ _ _ _ _ _ _ _ _ _ _ _ (hx i hi) (hy i hi2) W ((h2 i hi).below hW) ((h4 i hi2).below hW)
      (fun W2 hW2 => Equal57_ok _ _ _ _ _ _ _ _ (hx i hi) (hy i hi2) W2 (((h2 i hi).below hW).below hW2) (((h4 i hi2).below hW).below hW2)))
end Go.Proofs.Ytackompihengfaa
