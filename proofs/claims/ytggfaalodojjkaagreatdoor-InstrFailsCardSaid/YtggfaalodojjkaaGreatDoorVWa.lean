/-
  word.Cut, Sign, known, truth, lowest, traps: what they answer, for every input that they are called with.
-/
import Derived.Test.YtggfaalodojjkaaGreatDoorRows
import Derived.Test.YtggfaalodojjkaaGreatDoorVM
import Derived.Test.YtggfaalodojjkaaGreatDoorQLa
import Derived.WalkKit
import Derived.WalkSpells
import Derived.WalkLawsBesides
import Derived.BigQuiet
import Derived.Deep.QuietTactic
import Derived.Lib.Hide
import Derived.Laws.BitsAllLaws
import Derived.Deep.DeepFit
import Derived.Deep.DeepMust
namespace Go.Proofs.YtggfaalodojjkaaGreatDoor
open Go.RowKit
set_option linter.unusedVariables false
theorem Cut_32 (a : Nat) (w : World) :
    Calls Tryz.prog 130 #[.int .i64 32, .int .u64 a] w fun e w' => e = .returned (.int .u64 ((Wd.cut 32 a : Nat) : Int)) ∧ w = w' := by
  go_enter Tryz.func130, Tryz.ntmps130
  go_wp2
  go_ret
  exact ⟨ret_int (by simp [Wd.cut]), rfl⟩
theorem Cut_no (n : Int) (a : Nat) (w : World) (h : n ≠ 32) :
    Calls Tryz.prog 130 #[.int .i64 n, .int .u64 a] w fun e w' => e = .returned (.int .u64 ((Wd.cut n a : Nat) : Int)) ∧ w = w' := by
  go_enter Tryz.func130, Tryz.ntmps130
  go_wp2
  go_ret
  exact ⟨ret_int (by simp [Wd.cut, h]), rfl⟩
theorem WCut_any (n : Int) (a : Nat) (w : World) :
    Calls Tryz.prog 130 #[.int .i64 n, .int .u64 a] w fun e w' => e = .returned (.int .u64 ((Wd.cut n a : Nat) : Int)) ∧ w = w' := by
  by_cases h : n = 32
  · subst h; exact Cut_32 a w
  · exact Cut_no n a w h
theorem Sign_32 (a : Nat) (w : World) :
    Calls Tryz.prog 93 #[.int .i64 32, .int .u64 a] w fun e w' => e = .returned (.int .i64 (Wd.sgn 32 a)) ∧ w = w' := by
  go_enter Tryz.func93, Tryz.ntmps93
  go_wp2
  go_ret
  exact ⟨ret_int (by simp [Wd.sgn]; unfold wrap64 wrap32; split <;> omega), rfl⟩
theorem Sign_no (n : Int) (a : Nat) (w : World) (h : n ≠ 32) (ha : a < 18446744073709551616) :
    Calls Tryz.prog 93 #[.int .i64 n, .int .u64 a] w fun e w' => e = .returned (.int .i64 (Wd.sgn n a)) ∧ w = w' := by
  go_enter Tryz.func93, Tryz.ntmps93
  go_wp2
  go_ret
  exact ⟨ret_int (by simp [Wd.sgn, h]; unfold wrap64; split <;> omega), rfl⟩
theorem Sign_any (n : Int) (a : Nat) (w : World) (ha : a < 18446744073709551616) :
    Calls Tryz.prog 93 #[.int .i64 n, .int .u64 a] w fun e w' => e = .returned (.int .i64 (Wd.sgn n a)) ∧ w = w' := by
  by_cases h : n = 32
  · subst h; exact Sign_32 a w
  · exact Sign_no n a w h ha
theorem sgn_fit (n : Int) (a : Nat) (ha : a < 18446744073709551616) : -9223372036854775808 ≤ Wd.sgn n a ∧ Wd.sgn n a ≤ 9223372036854775807 := by
  unfold Wd.sgn
  split <;> split <;> omega
end Go.Proofs.YtggfaalodojjkaaGreatDoor
