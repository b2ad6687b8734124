/-
  op.Width, op.Foreign, and the document's Width, Foreign, Form.
-/
import Derived.Test.YtalpkdnnclghaaaDoorUa
import Derived.Outline
namespace Go.Proofs.YtalpkdnnclghaaaDoor
open Go.RowKit Go.ChangeShapes Go.WideShapes Go.ChangeAt
set_option linter.unusedVariables false
set_option linter.unusedSimpArgs false
set_option maxHeartbeats 8000000 in
set_option maxRecDepth 100000 in
theorem RForeign_any (c : Int) (hb : -9223372036854775808 ≤ c ∧ c ≤ 9223372036854775807) (w : World) : Calls Tryd.prog 36 #[.int .i64 c] w fun e w' => e = .returned (.bool (decide (ForP c))) ∧ w = w' := by
  obtain ⟨q, HQ⟩ : ∃ q, Hid (q = c) := ⟨_, Lib.hid rfl⟩
  rw [show decide (ForP c) = decide (ForP q) by rw [HQ.out]]
  go_enter Tryd.func36, Tryd.ntmps36
  go_wp2_with fail
  all_goals
    go_ret
    have hqc := HQ.out
    try simp only [beq_iff_eq, beq_eq_false_iff_ne, ne_eq] at *
    first
    | (exfalso; omega)
    | (refine ⟨bool_ret (decide_eq_true ?_).symm, by first | rfl | trivial⟩
       unfold ForP
       omega)
    | (refine ⟨bool_ret (decide_eq_false ?_).symm, by first | rfl | trivial⟩
       unfold ForP
       omega)
    | (refine ⟨bool_ret (a := (decide _)) ?_, by first | rfl | trivial⟩
       rw [Bool.eq_iff_iff]
       simp only [Bool.or_eq_true, decide_eq_true_eq]
       unfold ForP
       omega)
    | (refine ⟨bool_ret (a := (decide _ || decide _)) ?_, by first | rfl | trivial⟩
       rw [Bool.eq_iff_iff]
       simp only [Bool.or_eq_true, decide_eq_true_eq]
       unfold ForP
       omega)
    | (refine ⟨bool_ret (a := (decide _ || decide _ || decide _)) ?_, by first | rfl | trivial⟩
       rw [Bool.eq_iff_iff]
       simp only [Bool.or_eq_true, decide_eq_true_eq]
       unfold ForP
       omega)
    | (refine ⟨bool_ret (a := (decide _ || decide _ || decide _ || decide _)) ?_, by first | rfl | trivial⟩
       rw [Bool.eq_iff_iff]
       simp only [Bool.or_eq_true, decide_eq_true_eq]
       unfold ForP
       omega)
    | (refine ⟨bool_ret (a := (decide _ || decide _ || decide _ || decide _ || decide _)) ?_, by first | rfl | trivial⟩
       rw [Bool.eq_iff_iff]
       simp only [Bool.or_eq_true, decide_eq_true_eq]
       unfold ForP
       omega)
    | (refine ⟨bool_ret (a := (decide _ || decide _ || decide _ || decide _ || decide _ || decide _)) ?_, by first | rfl | trivial⟩
       rw [Bool.eq_iff_iff]
       simp only [Bool.or_eq_true, decide_eq_true_eq]
       unfold ForP
       omega)
    | (refine ⟨bool_ret (a := (decide _ || decide _ || decide _ || decide _ || decide _ || decide _ || decide _)) ?_, by first | rfl | trivial⟩
       rw [Bool.eq_iff_iff]
       simp only [Bool.or_eq_true, decide_eq_true_eq]
       unfold ForP
       omega)
end Go.Proofs.YtalpkdnnclghaaaDoor
