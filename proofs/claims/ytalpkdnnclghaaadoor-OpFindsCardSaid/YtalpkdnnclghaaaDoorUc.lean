/-
  op.Width, op.Foreign, and the document's Width, Foreign, Form.
-/
import Derived.Test.YtalpkdnnclghaaaDoorUa
import Derived.Outline
namespace Go.Proofs.YtalpkdnnclghaaaDoor
open Go.RowKit Go.ChangeShapes Go.WideShapes Go.ChangeAt
set_option linter.unusedVariables false
set_option linter.unusedSimpArgs false
theorem fm0 (c : Int)  (p : 2 ≤ c ∧ c ≤ 4) : formL c = 1 := by
  unfold formL
  rw [if_pos p]
theorem fm1 (c : Int) (n0 : ¬ (2 ≤ c ∧ c ≤ 4)) (p : c = 12 ∨ c = 13) : formL c = 2 := by
  unfold formL
  rw [if_neg n0, if_pos p]
theorem fm2 (c : Int) (n0 : ¬ (2 ≤ c ∧ c ≤ 4)) (n1 : ¬ (c = 12 ∨ c = 13)) (p : c = 14) : formL c = 3 := by
  unfold formL
  rw [if_neg n0, if_neg n1, if_pos p]
theorem fm3 (c : Int) (n0 : ¬ (2 ≤ c ∧ c ≤ 4)) (n1 : ¬ (c = 12 ∨ c = 13)) (n2 : ¬ (c = 14)) (p : c = 16) : formL c = 4 := by
  unfold formL
  rw [if_neg n0, if_neg n1, if_neg n2, if_pos p]
theorem fm4 (c : Int) (n0 : ¬ (2 ≤ c ∧ c ≤ 4)) (n1 : ¬ (c = 12 ∨ c = 13)) (n2 : ¬ (c = 14)) (n3 : ¬ (c = 16)) (p : c = 17) : formL c = 5 := by
  unfold formL
  rw [if_neg n0, if_neg n1, if_neg n2, if_neg n3, if_pos p]
theorem fm5 (c : Int) (n0 : ¬ (2 ≤ c ∧ c ≤ 4)) (n1 : ¬ (c = 12 ∨ c = 13)) (n2 : ¬ (c = 14)) (n3 : ¬ (c = 16)) (n4 : ¬ (c = 17)) (p : 32 ≤ c ∧ c ≤ 34) : formL c = 6 := by
  unfold formL
  rw [if_neg n0, if_neg n1, if_neg n2, if_neg n3, if_neg n4, if_pos p]
theorem fm6 (c : Int) (n0 : ¬ (2 ≤ c ∧ c ≤ 4)) (n1 : ¬ (c = 12 ∨ c = 13)) (n2 : ¬ (c = 14)) (n3 : ¬ (c = 16)) (n4 : ¬ (c = 17)) (n5 : ¬ (32 ≤ c ∧ c ≤ 34)) (p : c = 35 ∨ c = 36) : formL c = 7 := by
  unfold formL
  rw [if_neg n0, if_neg n1, if_neg n2, if_neg n3, if_neg n4, if_neg n5, if_pos p]
theorem fm7 (c : Int) (n0 : ¬ (2 ≤ c ∧ c ≤ 4)) (n1 : ¬ (c = 12 ∨ c = 13)) (n2 : ¬ (c = 14)) (n3 : ¬ (c = 16)) (n4 : ¬ (c = 17)) (n5 : ¬ (32 ≤ c ∧ c ≤ 34)) (n6 : ¬ (c = 35 ∨ c = 36)) (p : 40 ≤ c ∧ c ≤ 62) : formL c = 8 := by
  unfold formL
  rw [if_neg n0, if_neg n1, if_neg n2, if_neg n3, if_neg n4, if_neg n5, if_neg n6, if_pos p]
theorem fm8 (c : Int) (n0 : ¬ (2 ≤ c ∧ c ≤ 4)) (n1 : ¬ (c = 12 ∨ c = 13)) (n2 : ¬ (c = 14)) (n3 : ¬ (c = 16)) (n4 : ¬ (c = 17)) (n5 : ¬ (32 ≤ c ∧ c ≤ 34)) (n6 : ¬ (c = 35 ∨ c = 36)) (n7 : ¬ (40 ≤ c ∧ c ≤ 62)) (p : c = 63 ∨ c = 64 ∨ c = 64523) : formL c = 9 := by
  unfold formL
  rw [if_neg n0, if_neg n1, if_neg n2, if_neg n3, if_neg n4, if_neg n5, if_neg n6, if_neg n7, if_pos p]
theorem fm9 (c : Int) (n0 : ¬ (2 ≤ c ∧ c ≤ 4)) (n1 : ¬ (c = 12 ∨ c = 13)) (n2 : ¬ (c = 14)) (n3 : ¬ (c = 16)) (n4 : ¬ (c = 17)) (n5 : ¬ (32 ≤ c ∧ c ≤ 34)) (n6 : ¬ (c = 35 ∨ c = 36)) (n7 : ¬ (40 ≤ c ∧ c ≤ 62)) (n8 : ¬ (c = 63 ∨ c = 64 ∨ c = 64523)) (p : c = 64522) : formL c = 10 := by
  unfold formL
  rw [if_neg n0, if_neg n1, if_neg n2, if_neg n3, if_neg n4, if_neg n5, if_neg n6, if_neg n7, if_neg n8, if_pos p]
theorem fm10 (c : Int) (n0 : ¬ (2 ≤ c ∧ c ≤ 4)) (n1 : ¬ (c = 12 ∨ c = 13)) (n2 : ¬ (c = 14)) (n3 : ¬ (c = 16)) (n4 : ¬ (c = 17)) (n5 : ¬ (32 ≤ c ∧ c ≤ 34)) (n6 : ¬ (c = 35 ∨ c = 36)) (n7 : ¬ (40 ≤ c ∧ c ≤ 62)) (n8 : ¬ (c = 63 ∨ c = 64 ∨ c = 64523)) (n9 : ¬ (c = 64522)) (p : c = 65 ∨ c = 66) : formL c = 11 := by
  unfold formL
  rw [if_neg n0, if_neg n1, if_neg n2, if_neg n3, if_neg n4, if_neg n5, if_neg n6, if_neg n7, if_neg n8, if_neg n9, if_pos p]
theorem fm11 (c : Int) (n0 : ¬ (2 ≤ c ∧ c ≤ 4)) (n1 : ¬ (c = 12 ∨ c = 13)) (n2 : ¬ (c = 14)) (n3 : ¬ (c = 16)) (n4 : ¬ (c = 17)) (n5 : ¬ (32 ≤ c ∧ c ≤ 34)) (n6 : ¬ (c = 35 ∨ c = 36)) (n7 : ¬ (40 ≤ c ∧ c ≤ 62)) (n8 : ¬ (c = 63 ∨ c = 64 ∨ c = 64523)) (n9 : ¬ (c = 64522)) (n10 : ¬ (c = 65 ∨ c = 66)) : formL c = 0 := by
  unfold formL
  rw [if_neg n0, if_neg n1, if_neg n2, if_neg n3, if_neg n4, if_neg n5, if_neg n6, if_neg n7, if_neg n8, if_neg n9, if_neg n10]
set_option maxHeartbeats 8000000 in
set_option maxRecDepth 100000 in
theorem RForm_any (c : Int) (hb : -9223372036854775808 ≤ c ∧ c ≤ 9223372036854775807) (w : World) : Calls Tryd.prog 39 #[.int .i64 c] w fun e w' => e = .returned (.int .i64 (formL c)) ∧ w = w' := by
  obtain ⟨q, HQ⟩ : ∃ q, Hid (q = c) := ⟨_, Lib.hid rfl⟩
  rw [show formL c = formL q by rw [HQ.out]]
  go_enter Tryd.func39, Tryd.ntmps39
  go_wp2_with fail
  all_goals
    go_ret
    have hqc := HQ.out
    try simp only [beq_iff_eq, beq_eq_false_iff_ne, ne_eq] at *
    first
    | (exfalso; omega)
    | (refine ⟨i64_ret ?_, by first | rfl | trivial⟩
       first
       | (rw [fm0 q]; rotate_left; omega)
       | (rw [fm1 q]; rotate_left; omega; omega)
       | (rw [fm2 q]; rotate_left; omega; omega; omega)
       | (rw [fm3 q]; rotate_left; omega; omega; omega; omega)
       | (rw [fm4 q]; rotate_left; omega; omega; omega; omega; omega)
       | (rw [fm5 q]; rotate_left; omega; omega; omega; omega; omega; omega)
       | (rw [fm6 q]; rotate_left; omega; omega; omega; omega; omega; omega; omega)
       | (rw [fm7 q]; rotate_left; omega; omega; omega; omega; omega; omega; omega; omega)
       | (rw [fm8 q]; rotate_left; omega; omega; omega; omega; omega; omega; omega; omega; omega)
       | (rw [fm9 q]; rotate_left; omega; omega; omega; omega; omega; omega; omega; omega; omega; omega)
       | (rw [fm10 q]; rotate_left; omega; omega; omega; omega; omega; omega; omega; omega; omega; omega; omega)
       | (rw [fm11 q]; rotate_left; omega; omega; omega; omega; omega; omega; omega; omega; omega; omega; omega))
end Go.Proofs.YtalpkdnnclghaaaDoor
