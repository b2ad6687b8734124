/-
  CodeNests: what is used of spans; rows of instructions as codes; the argument.
-/
import Derived.Test.YtggfaalodojjkaaNm
import Derived.Test.YtggfaalodojjkaaMc
namespace Go.Proofs.Ytggfaalodojjkaa
open Go.RowKit
set_option linter.unusedVariables false
set_option linter.unusedSimpArgs false
def codes (X : Nat → In) (m : Nat) : List Int := (List.range m).map fun i => (X i).cd
theorem codes_len (X : Nat → In) (m : Nat) : (codes X m).length = m := by simp [codes]
theorem codes_get (X : Nat → In) (m i : Nat) (hi : i < m) : (codes X m).getD i 0 = (X i).cd := by
  unfold codes
  rw [List.getD_eq_getElem?_getD, List.getElem?_map, List.getElem?_range hi]
  rfl
theorem made_ins {w : World} {B m c : Nat} {A : Option Addr} {X : Nat → In} {S : Nat → Value} (h : Made w B (.slice A m c) m X S) : Ins w A c (codes X m) := by
  obtain ⟨h1, h2⟩ := h
  unfold Ins
  rw [codes_len]
  rcases h1.2 with ⟨e, h0⟩ | ⟨g, cap, cur, e, hB, hg, hn, hm, _⟩
  · cases e
    exact ⟨Nat.le_refl _, Nat.zero_le _, fun h => by omega⟩
  · cases e
    refine ⟨hn, hm, fun h0 => ⟨g, 0, rfl, ?_, fun i hi => ?_⟩⟩
    · rcases Nat.lt_or_ge g w.heap.size with h9 | h9
      · exact h9
      · rw [Array.getElem?_eq_none h9] at hg; cases hg
    · have hc : ∀ q (v : Value), q < 5 → (I5 (X i) (S i))[q]? = some v → w.cell? ⟨g, 0 + i * 5 + q, none⟩ = some v := fun q v hq hv => by
        rw [Nat.zero_add, h1.cellAt (i * 5 + q) (by omega)]
        exact rowC_get X S m i q v hi hv
      rw [codes_get X m i hi]
      have h34 := h2 i hi
      obtain ⟨A4, c4, e4⟩ := own_slice h34
      refine ⟨(X i).a, (X i).b, (X i).al, A4, (X i).l.length, c4, hc 0 _ (by decide) rfl, hc 1 _ (by decide) rfl, hc 2 _ (by decide) rfl, hc 3 _ (by decide) rfl, ?_⟩
      rw [hc 4 _ (by decide) rfl, e4]
/-- what the law asks of spans -/
structure Spn (C : Nat → Int) (m : Nat) (sp : List (Nat × Int × Nat)) : Prop where
  bg : ∀ (i : Nat) (s : Nat × Int × Nat), sp[i]? = some s → s.1 < s.2.2 ∧ s.2.2 < m ∧ 2 ≤ C s.1 ∧ C s.1 ≤ 4 ∧ C s.2.2 = 11
  el : ∀ (i : Nat) (s : Nat × Int × Nat), sp[i]? = some s → s.2.1 = -1 ∨ ∃ x : Nat, s.2.1 = x ∧ s.1 < x ∧ x < s.2.2 ∧ C x = 5 ∧ C s.1 = 4
  ne : ∀ (k i : Nat) (s t : Nat × Int × Nat), sp[k]? = some s → sp[i]? = some t → k < i → s.1 < t.1 ∧ (t.1 < s.2.2 → t.2.2 < s.2.2)
  ct : sp.length = cntO C m
theorem spn_of {L : List Int} {n : Ne} (h : thN L n0 = (0, n)) : Spn (fun i => L.getD i 0) L.length n.sp := by
  obtain ⟨hi, hop, hp⟩ := thN_all h
  have hno : ∀ j, ¬ n.opn j := fun j ⟨p, hp⟩ => by rw [hop] at hp; cases hp
  refine ⟨fun i s e => ?_, fun i s e => ?_, fun k i s t e f hk => ⟨hi.ris k i s t e f hk, fun h => hi.nst k i s t e f hk (hno k) (hno i) h⟩, by rw [← hp]; exact hi.cnt⟩
  · have h1 := hi.beg i s e
    have h2 := hi.fin i s e (hno i)
    have h3 := h1.2
    simp only [opnB, Bool.or_eq_true, beq_iff_eq] at h3
    exact ⟨h2.1, by rw [← hp]; exact h2.2.1, by omega, by omega, h2.2.2.1⟩
  · have h2 := hi.fin i s e (hno i)
    rcases hi.els i s e with h | ⟨x, h3, h4, _, h6, h7⟩
    · exact .inl h
    · exact .inr ⟨x, h3, h4, by have := h2.2.2.2; rw [h3] at this; omega, h6, h7⟩
theorem cntO_le (C : Nat → Int) : ∀ k, cntO C k ≤ k
  | 0 => Nat.le_refl _
  | k + 1 => by
    have := cntO_le C k
    show cntO C k + _ ≤ _
    split <;> omega
theorem cntO_congr {C D : Nat → Int} : ∀ {k : Nat}, (∀ i, i < k → C i = D i) → cntO C k = cntO D k
  | 0, _ => rfl
  | k + 1, h => by
    show cntO C k + _ = cntO D k + _
    rw [cntO_congr (fun i hi => h i (by omega)), h k (by omega)]
theorem spC_get (l : List (Nat × Int × Nat)) : ∀ (i : Nat) (s : Nat × Int × Nat), l[i]? = some s → (spC l)[i * 3]? = some (.int .i64 s.1) ∧ (spC l)[i * 3 + 1]? = some (.int .i64 s.2.1) ∧ (spC l)[i * 3 + 2]? = some (.int .i64 s.2.2) := by
  induction l with
  | nil => intro i s h; simp at h
  | cons a l ih =>
    intro i s h
    rw [spC_cons]
    cases i with
    | zero => simp only [List.getElem?_cons_zero, Option.some.injEq] at h; subst h; exact ⟨rfl, rfl, rfl⟩
    | succ j =>
      simp only [List.getElem?_cons_succ] at h
      have := ih j s h
      rw [show (j + 1) * 3 = j * 3 + 1 + 1 + 1 from by omega]
      exact this
theorem span_cells {w : World} {B g c : Nat} {sp : List (Nat × Int × Nat)} (h : w.ownsRow B 39 3 (.slice (some ⟨g, 0, none⟩) sp.length c) sp.length (spC sp)) (i : Nat) (s : Nat × Int × Nat) (hs : sp[i]? = some s) :
    w.cell? ⟨g, i * 3, none⟩ = some (.int .i64 s.1) ∧ w.cell? ⟨g, i * 3 + 1, none⟩ = some (.int .i64 s.2.1) ∧ w.cell? ⟨g, i * 3 + 2, none⟩ = some (.int .i64 s.2.2) := by
  have hi : i < sp.length := (List.getElem?_eq_some_iff.1 hs).1
  obtain ⟨h0, h1, h2⟩ := spC_get sp i s hs
  have hc : ∀ q v, q < 3 → (spC sp)[i * 3 + q]? = some v → w.cell? ⟨g, i * 3 + q, none⟩ = some v := fun q v hq hv => by
    rw [h.cellAt (i * 3 + q) (by omega)]
    exact hv
  exact ⟨hc 0 _ (by decide) h0, hc 1 _ (by decide) h1, hc 2 _ (by decide) h2⟩
end Go.Proofs.Ytggfaalodojjkaa
