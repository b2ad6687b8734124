/-
  code's nest: where one more may not be opened; opens; part; end.
-/
import Derived.Test.YtggfaalodojjkaaDoorNa
import Derived.Deep.RegionHeld3
import Derived.Deep.DeepCutAuto
namespace Go.Proofs.YtggfaalodojjkaaDoor
open Go.RowKit
set_option linter.unusedVariables false
set_option linter.unusedSimpArgs false
set_option maxRecDepth 100000 in
theorem begin_full (B b : Nat) (n : Ne) (sv ov : Value) (pt : Bool) (w : World) (h : Nst B w b n sv ov) (h64 : n.op.length = 64) :
    Calls Tryd.prog 57 #[.pointer (some ⟨b, 0, none⟩), .bool pt] w fun e w' => e = .returned (.int .i64 15) ∧ w = w' := by
  have x2 := h.blk.cell 2
  obtain ⟨A, c, rfl⟩ := own_slice h.orr
  have e1 : ((n.op.length : Int) == 64) = true := by rw [h64]; rfl
  clear h
  go_enter Tryd.func57, Tryd.ntmps57
  go_wp2
  go_ret
  exact ⟨rfl, rfl⟩
def opnB (c : Int) : Bool := c == 2 || (c == 3 || c == 4)
set_option maxRecDepth 100000 in
theorem opens_ok (c : Int) (w : World) : Calls Tryd.prog 56 #[.int .i64 c] w fun e w' => e = .returned (.bool (opnB c)) ∧ w = w' := by
  unfold opnB
  by_cases h2 : (c == 2) = true
  · go_enter Tryd.func56, Tryd.ntmps56
    go_wp2
    go_ret
    exact ⟨by rw [h2]; rfl, rfl⟩
  · have h2 := Bool.eq_false_iff.2 h2
    by_cases h3 : (c == 3) = true
    · go_enter Tryd.func56, Tryd.ntmps56
      go_wp2
      go_ret
      exact ⟨by rw [h2, h3]; rfl, rfl⟩
    · have h3 := Bool.eq_false_iff.2 h3
      by_cases h4 : (c == 4) = true
      · go_enter Tryd.func56, Tryd.ntmps56
        go_wp2
        go_ret
        exact ⟨by rw [h2, h3, h4]; rfl, rfl⟩
      · have h4 := Bool.eq_false_iff.2 h4
        go_enter Tryd.func56, Tryd.ntmps56
        go_wp2
        go_ret
        exact ⟨by rw [h2, h3, h4]; rfl, rfl⟩
/-- one span's number turned -/
def setE (sp : List (Nat × Int × Nat)) (j : Nat) (e : Int) : List (Nat × Int × Nat) := sp.modify j fun s => (s.1, e, s.2.2)
def setF (sp : List (Nat × Int × Nat)) (j : Nat) (e : Nat) : List (Nat × Int × Nat) := sp.modify j fun s => (s.1, s.2.1, e)
theorem spC_cons (a : Nat × Int × Nat) (l : List (Nat × Int × Nat)) : spC (a :: l) = .int .i64 a.1 :: .int .i64 a.2.1 :: .int .i64 a.2.2 :: spC l := by unfold spC; rw [List.flatMap_cons]; rfl
theorem opC_cons (a : Nat × Bool) (l : List (Nat × Bool)) : opC (a :: l) = .int .i64 a.1 :: .bool a.2 :: opC l := by unfold opC; rw [List.flatMap_cons]; rfl
theorem spC_setE (sp : List (Nat × Int × Nat)) (e : Int) : ∀ j, j < sp.length → (spC sp).set (j * 3 + 1) (.int .i64 e) = spC (setE sp j e) := by
  induction sp with
  | nil => intro j h; simp at h
  | cons a l ih =>
    intro j h
    cases j with
    | zero => simp [setE, spC_cons]
    | succ j =>
      have := ih j (by simpa using h)
      rw [spC_cons, show (j + 1) * 3 + 1 = (j * 3 + 1) + 1 + 1 + 1 by omega, List.set_cons_succ, List.set_cons_succ, List.set_cons_succ, this]
      unfold setE
      rw [List.modify_succ_cons, spC_cons]
theorem spC_setF (sp : List (Nat × Int × Nat)) (e : Nat) : ∀ j, j < sp.length → (spC sp).set (j * 3 + 2) (.int .i64 e) = spC (setF sp j e) := by
  induction sp with
  | nil => intro j h; simp at h
  | cons a l ih =>
    intro j h
    cases j with
    | zero => simp [setF, spC_cons]
    | succ j =>
      have := ih j (by simpa using h)
      rw [spC_cons, show (j + 1) * 3 + 2 = (j * 3 + 2) + 1 + 1 + 1 by omega, List.set_cons_succ, List.set_cons_succ, List.set_cons_succ, this]
      unfold setF
      rw [List.modify_succ_cons, spC_cons]
theorem opC_last (op : List (Nat × Bool)) (j : Nat) (p q : Bool) : (opC (op ++ [(j, p)])).set (op.length * 2 + 1) (.bool q) = opC (op ++ [(j, q)]) := by
  induction op with
  | nil => rfl
  | cons a l ih =>
    rw [List.cons_append, opC_cons, List.length_cons, show (l.length + 1) * 2 + 1 = (l.length * 2 + 1) + 1 + 1 by omega, List.set_cons_succ, List.set_cons_succ, ih, List.cons_append, opC_cons]
theorem opC_at (op : List (Nat × Bool)) (j : Nat) (p : Bool) : (opC (op ++ [(j, p)]))[op.length * 2]? = some (.int .i64 j) ∧ (opC (op ++ [(j, p)]))[op.length * 2 + 1]? = some (.bool p) := by
  rw [opC_app]
  have hl := opC_len op
  rw [List.getElem?_append_right (by omega), List.getElem?_append_right (by omega), hl]
  simp [opC_cons]
theorem opC_take (op : List (Nat × Bool)) (j : Nat) (p : Bool) : (opC (op ++ [(j, p)])).take (op.length * 2) = opC op := by
  rw [opC_app, ← opC_len op, List.take_left]
end Go.Proofs.YtggfaalodojjkaaDoor
