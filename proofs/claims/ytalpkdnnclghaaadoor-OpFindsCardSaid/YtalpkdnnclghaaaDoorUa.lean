/-
  op.Width, op.Foreign, and the document's Width, Foreign, Form.
-/
import Derived.Test.YtalpkdnnclghaaaDoorTd
import Derived.Outline
namespace Go.Proofs.YtalpkdnnclghaaaDoor
open Go.RowKit Go.ChangeShapes Go.WideShapes Go.ChangeAt
set_option linter.unusedVariables false
set_option linter.unusedSimpArgs false
def widthL (c : Int) : Int := if 40 ≤ c ∧ c ≤ 62 then widL.getD (c - 40).toNat 0 else 0
theorem width_zero (q : Int) (h : ¬ (q = 40 ∨ q = 52 ∨ q = 53 ∨ q = 54 ∨ q = 62 ∨ q = 41 ∨ q = 55 ∨ q = 44 ∨ q = 45 ∨ q = 48 ∨ q = 49 ∨ q = 58 ∨ q = 60 ∨ q = 46 ∨ q = 47 ∨ q = 50 ∨ q = 51 ∨ q = 59 ∨ q = 61)) : widthL q = 0 := by
  unfold widthL
  split
  · rename_i h2
    rcases (by omega : q = 42 ∨ q = 43 ∨ q = 56 ∨ q = 57) with rfl | rfl | rfl | rfl <;> rfl
  · rfl
def ForP (c : Int) : Prop := c = 28 ∨ (37 ≤ c ∧ c ≤ 38) ∨ (42 ≤ c ∧ c ≤ 43) ∨ (56 ≤ c ∧ c ≤ 57) ∨ (67 ≤ c ∧ c ≤ 68) ∨ (91 ≤ c ∧ c ≤ 102) ∨ (139 ≤ c ∧ c ≤ 166) ∨ (168 ≤ c ∧ c ≤ 171) ∨ (174 ≤ c ∧ c ≤ 191) ∨ (208 ≤ c ∧ c ≤ 210) ∨ c = 253 ∨ (64512 ≤ c ∧ c ≤ 64521) ∨ (64524 ≤ c ∧ c ≤ 64529)
instance (c : Int) : Decidable (ForP c) := by unfold ForP; exact inferInstance
theorem forP_iff (c : Int) : ForP c ↔ ∃ r, r ∈ forL ∧ r.getD 0 0 ≤ c ∧ c ≤ r.getD 1 0 := by
  unfold ForP forL
  simp only [List.mem_cons, List.not_mem_nil, or_false, exists_eq_or_imp, exists_eq_left, List.getD_cons_zero, List.getD_cons_succ]
  omega
def formL (c : Int) : Int :=
  if 2 ≤ c ∧ c ≤ 4 then 1 else if c = 12 ∨ c = 13 then 2 else if c = 14 then 3 else if c = 16 then 4 else if c = 17 then 5
  else if 32 ≤ c ∧ c ≤ 34 then 6 else if c = 35 ∨ c = 36 then 7 else if 40 ≤ c ∧ c ≤ 62 then 8 else if c = 63 ∨ c = 64 ∨ c = 64523 then 9 else if c = 64522 then 10 else if c = 65 ∨ c = 66 then 11 else 0
theorem i64_ret {a b : Int} (h : a = b) : Ending.returned (.int .i64 a) = .returned (.int .i64 b) := by rw [h]
theorem bool_ret {a b : Bool} (h : a = b) : Ending.returned (.bool a) = .returned (.bool b) := by rw [h]
end Go.Proofs.YtalpkdnnclghaaaDoor
