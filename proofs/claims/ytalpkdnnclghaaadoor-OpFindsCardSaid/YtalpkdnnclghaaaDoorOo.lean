/-
  What OpOwn's walk wants of rows that are written over.
-/
import Derived.Test.YtalpkdnnclghaaaDoorOl
import Derived.Test.YtalpkdnnclghaaaDoorSc
import Derived.Laws.OwnMore
import Derived.Deep.RegionHeld
namespace Go.Proofs.YtalpkdnnclghaaaDoor
open Go.RowKit Go.ChangeShapes Go.WideShapes Go.ChangeAt
set_option linter.unusedVariables false
set_option linter.unusedSimpArgs false
theorem Infs.at {w : World} {B : Nat} : ∀ {l : List (Rw × Nat)} {xs : List Value}, Infs w B l xs → ∀ k r i, l[k]? = some (r, i) → ∃ At ct Ag cg, (∀ j, j < 5 → xs[k * 5 + j]? = (infC r i At ct Ag cg)[j]?) ∧ w.ownsRow B 51 1 (.slice At r.takes.length ct) r.takes.length (r.takes.map U8) ∧ w.ownsRow B 51 1 (.slice Ag r.gives.length cg) r.gives.length (r.gives.map U8)
  | [], xs, h, k, r, i, hk => by simp at hk
  | (r', i') :: l, xs, h, 0, r, i, hk => by
    obtain ⟨At, ct, Ag, cg, ys, rfl, h1, h2, h3⟩ := h
    simp only [List.getElem?_cons_zero, Option.some.injEq, Prod.mk.injEq] at hk
    obtain ⟨rfl, rfl⟩ := hk
    refine ⟨At, ct, Ag, cg, fun j hj => ?_, h1, h2⟩
    rw [Nat.zero_mul, Nat.zero_add, List.getElem?_append_left (by simp [infC]; omega)]
  | (r', i') :: l, xs, h, k + 1, r, i, hk => by
    obtain ⟨At, ct, Ag, cg, ys, rfl, h1, h2, h3⟩ := h
    rw [List.getElem?_cons_succ] at hk
    obtain ⟨At', ct', Ag', cg', hx, h4, h5⟩ := h3.at k r i hk
    refine ⟨At', ct', Ag', cg', fun j hj => ?_, h4, h5⟩
    have hl : (infC r' i' At ct Ag cg).length = 5 := rfl
    rw [List.getElem?_append_right (by rw [hl]; omega), hl, show (k + 1) * 5 + j - 5 = k * 5 + j by omega]
    exact hx j hj
/-- a row of one's own, whatever is in it -/
def Rowa (w : World) (B : Nat) (A : Option Addr) (n c : Nat) : Prop := ∃ us, w.ownsRow B 51 1 (.slice A n c) n us
theorem Rowa.set_ {w : World} {B : Nat} {A : Option Addr} {n c : Nat} (h : Rowa w B A n c) (g j : Nat) (u : Value) : Rowa (w.setCell ⟨g, j, none⟩ u) B A n c := by
  obtain ⟨us, h1, h2⟩ := h
  rcases h2 with h3 | ⟨g2, cap, cur, e, hB, hg, hn, hm, hs, ht⟩
  · exact ⟨us, h1, .inl h3⟩
  · by_cases he : g2 = g
    · subst he
      have hb := Blk.set_ (t := 51) (cs := cur) hg j u
      refine ⟨((cur.setIfInBounds j u).toList.take (n * 1)), ?_, .inr ⟨g2, cap, _, e, hB, hb, hn, hm, by rw [Array.size_setIfInBounds]; exact hs, rfl⟩⟩
      rw [List.length_take, Array.length_toList, Array.size_setIfInBounds, hs]
      omega
    · exact ⟨us, h1, .inr ⟨g2, cap, cur, e, hB, Blk.far (t := 51) (cs := cur) hg he u, hn, hm, hs, ht⟩⟩
theorem Rowa.kept {w w' : World} {B : Nat} {A : Option Addr} {n c : Nat} (h : Rowa w B A n c) (hb : Below w.heap.size w w') : Rowa w' B A n c := by
  obtain ⟨us, h⟩ := h
  exact ⟨us, own_kept h hb⟩
/-- its cells may be written -/
theorem Rowa.cell {w : World} {B : Nat} {A : Option Addr} {n c : Nat} (h : Rowa w B A n c) (j : Nat) (hj : j < n) : ∃ g v, A = some ⟨g, 0, none⟩ ∧ B ≤ g ∧ w.cell? ⟨g, j, none⟩ = some v ∧ w.frozen? ⟨g, j, none⟩ = false ∧ ∃ cur, Blk w g 51 cur := by
  obtain ⟨us, h1, h2⟩ := h
  rcases h2 with ⟨_, h3⟩ | ⟨g2, cap, cur, e, hB, hg, hn, hm, hs, ht⟩
  · omega
  · injection e with e1 e2 e3
    have hb : Blk w g2 51 cur := hg
    exact ⟨g2, cur[j]'(by omega), e1, hB, by rw [hb.cell j, Array.getElem?_eq_getElem (by omega)], hb.frozen j, cur, hb⟩
/-- the ops' gives, as rows that may be written over -/
def GivA (w : World) (B gl : Nat) : Prop := ∀ k r i, OPS[k]? = some (r, i) → ∃ A c, w.cell? ⟨gl, k * 5 + 4, none⟩ = some (.slice A r.gives.length c) ∧ Rowa w B A r.gives.length c
theorem GivA.set_ {w : World} {B gl : Nat} (h : GivA w B gl) {g : Nat} (hne : gl ≠ g) (j : Nat) (u : Value) : GivA (w.setCell ⟨g, j, none⟩ u) B gl := fun k r i hk => by
  obtain ⟨A, c, h1, h2⟩ := h k r i hk
  refine ⟨A, c, ?_, h2.set_ g j u⟩
  rw [← h1]
  exact World.cell?_setCell_far w _ _ u (fun e => hne e.symm)
end Go.Proofs.YtalpkdnnclghaaaDoor
