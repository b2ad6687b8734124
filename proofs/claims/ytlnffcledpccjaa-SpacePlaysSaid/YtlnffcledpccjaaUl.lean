/-
  The document's Beyond.
-/
import Derived.Test.YtlnffcledpccjaaUk
import Derived.BigQuiet
import Derived.OwnWalk
import Derived.WalkKit
import Derived.ProofKit
import Derived.OpenShut
import Derived.ShutString
import Derived.ChangeOld
import Derived.Below
namespace Go.Proofs.Ytlnffcledpccjaa
set_option linter.unusedVariables false
set_option linter.unusedSimpArgs false
open Go.ChangeShapes Go.WideShapes Go.ChangeAt
open Go.RowKit
set_option maxRecDepth 100000 in
theorem RBey_ok (w : World) (S : Value) (pages most at_ off n : Nat) (hp : pages ≤ 65536) (h1 : at_ ≤ 18446744073709551615) (h2 : off ≤ 18446744073709551615) (h3 : n ≤ 18446744073709551615) :
    Calls Try.prog 27 #[.agg #[.int .i64 pages, .int .i64 most, S], .int .u64 at_, .int .u64 off, .int .u64 n] w fun e w' => e = .returned (.bool (bey pages at_ off n)) ∧ Below w.heap.size w w' := by
  by_cases c1 : pages * 65536 < at_
  · rw [show bey pages at_ off n = true from decide_eq_true (by omega)]
    go_enter Try.func27, Try.ntmps27
    go_wp2_with fail
    go_ret
    refine ⟨ret_bool ?_, (Below.refl _ _).alloc (Nat.le_refl _) _⟩
    first | rfl | (simp; omega)
  · by_cases c2 : pages * 65536 < at_ + off
    · rw [show bey pages at_ off n = true from decide_eq_true (by omega)]
      go_enter Try.func27, Try.ntmps27
      go_wp2_with fail
      go_ret
      refine ⟨ret_bool ?_, (Below.refl _ _).alloc (Nat.le_refl _) _⟩
      first | rfl | (simp; omega)
    · by_cases c3 : pages * 65536 < at_ + off + n
      · rw [show bey pages at_ off n = true from decide_eq_true (by omega)]
        go_enter Try.func27, Try.ntmps27
        go_wp2_with fail
        go_ret
        refine ⟨ret_bool ?_, (Below.refl _ _).alloc (Nat.le_refl _) _⟩
        first | rfl | (simp; omega)
      · rw [show bey pages at_ off n = false from decide_eq_false (by omega)]
        go_enter Try.func27, Try.ntmps27
        go_wp2_with fail
        go_ret
        refine ⟨ret_bool ?_, (Below.refl _ _).alloc (Nat.le_refl _) _⟩
        first | rfl | (simp; omega)

end Go.Proofs.Ytlnffcledpccjaa
