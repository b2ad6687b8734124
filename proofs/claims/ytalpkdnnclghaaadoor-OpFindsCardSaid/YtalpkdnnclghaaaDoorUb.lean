/-
  op.Width, op.Foreign, and the document's Width, Foreign, Form.
-/
import Derived.Test.YtalpkdnnclghaaaDoorUa
import Derived.Outline
namespace Go.Proofs.YtalpkdnnclghaaaDoor
open Go.RowKit Go.ChangeShapes Go.WideShapes Go.ChangeAt
set_option linter.unusedVariables false
set_option linter.unusedSimpArgs false
set_option maxHeartbeats 8000000 in
set_option maxRecDepth 100000 in
theorem RWidth_any (c : Int) (hb : -9223372036854775808 ≤ c ∧ c ≤ 9223372036854775807) (w : World) : Calls Tryd.prog 34 #[.int .i64 c] w fun e w' => e = .returned (.int .i64 (widthL c)) ∧ w = w' := by
  obtain ⟨q, HQ⟩ : ∃ q, Hid (q = c) := ⟨_, Lib.hid rfl⟩
  rw [show widthL c = widthL q by rw [HQ.out]]
  go_enter Tryd.func34, Tryd.ntmps34
  go_wp2_with fail
  all_goals
    go_ret
    have hqc := HQ.out
    try simp only [beq_iff_eq, beq_eq_false_iff_ne, ne_eq] at *
    first
    | (exfalso; omega)
    | (refine ⟨i64_ret ?_, by first | rfl | trivial⟩
       first
       | (have e : q = 40 := by omega
          rw [e]; rfl)
       | (have e : q = 52 := by omega
          rw [e]; rfl)
       | (have e : q = 53 := by omega
          rw [e]; rfl)
       | (have e : q = 54 := by omega
          rw [e]; rfl)
       | (have e : q = 62 := by omega
          rw [e]; rfl)
       | (have e : q = 41 := by omega
          rw [e]; rfl)
       | (have e : q = 55 := by omega
          rw [e]; rfl)
       | (have e : q = 44 := by omega
          rw [e]; rfl)
       | (have e : q = 45 := by omega
          rw [e]; rfl)
       | (have e : q = 48 := by omega
          rw [e]; rfl)
       | (have e : q = 49 := by omega
          rw [e]; rfl)
       | (have e : q = 58 := by omega
          rw [e]; rfl)
       | (have e : q = 60 := by omega
          rw [e]; rfl)
       | (have e : q = 46 := by omega
          rw [e]; rfl)
       | (have e : q = 47 := by omega
          rw [e]; rfl)
       | (have e : q = 50 := by omega
          rw [e]; rfl)
       | (have e : q = 51 := by omega
          rw [e]; rfl)
       | (have e : q = 59 := by omega
          rw [e]; rfl)
       | (have e : q = 61 := by omega
          rw [e]; rfl)
       | (rw [width_zero q]; omega))
end Go.Proofs.YtalpkdnnclghaaaDoor
