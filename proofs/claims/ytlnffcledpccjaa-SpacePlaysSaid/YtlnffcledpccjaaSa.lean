/-
  What is known of a store of blocks; its operations counted (atomic), uses, has, lowest.
-/
import Derived.Test.YtlnffcledpccjaaC
import Derived.Laws.LoneSync
namespace Go.Proofs.Ytlnffcledpccjaa
open Go.RowKit
set_option linter.unusedVariables false
theorem add_run (p : Addr) (r : Nat) (w : World) (hr : r < 1000000) (hc : w.cell? p = some (.int .i64 r)) (hz : w.frozen? p = false) :
    (callFunc 114 #[.pointer (some p), .int .i64 1]).run Try.prog w = .ok (.value (.int .i64 ((r : Int) + 1))) (w.setCell p (.int .i64 ((r : Int) + 1))) :=
  run_call_add (P := Try.prog) Try.func114 (by kernel_rfl) (by kernel_rfl) (by kernel_rfl) .i64 (by kernel_rfl) hc hz (by simp [go_sem, IntKind.wrap_i64]; omega)
theorem storeu_run (p : Addr) (r y : Int) (w : World) (hc : w.cell? p = some (.int .u32 r)) (hz : w.frozen? p = false) :
    (callFunc 115 #[.pointer (some p), .int .u32 y]).run Try.prog w = .ok (.value (.tuple #[])) (w.setCell p (.int .u32 y)) :=
  run_call_store (P := Try.prog) Try.func115 (by kernel_rfl) (by kernel_rfl) (by kernel_rfl) (by kernel_rfl) hc hz
set_option maxHeartbeats 400000 in
set_option maxRecDepth 100000 in
theorem Add_any (f i : Nat) (r : Nat) (w : World) (hr : r < 1000000) (hc : w.cell? ⟨f, i, none⟩ = some (.int .i64 r)) (hz : w.frozen? ⟨f, i, none⟩ = false) :
    Calls Try.prog 111 #[.pointer (some ⟨f, i, none⟩), .int .i64 1] w fun e w' => e = .returned (.int .i64 ((r : Int) + 1)) ∧ w.setCell ⟨f, i, none⟩ (.int .i64 ((r : Int) + 1)) = w' := by
  have ha := add_run ⟨f, i, none⟩ r w hr hc hz
  go_enter Try.func111, Try.ntmps111
  go_wp2
  go_ret
  exact ⟨rfl, rfl⟩
def B32 (b : Bool) : Int := if b then 1 else 0
set_option maxRecDepth 100000 in
theorem b32_true (w : World) : Calls Try.prog 116 #[.bool true] w fun e w' => e = .returned (.int .u32 1) ∧ w = w' := by
  go_enter Try.func116, Try.ntmps116
  go_wp2
  go_ret
  exact ⟨rfl, rfl⟩
set_option maxHeartbeats 400000 in
set_option maxRecDepth 100000 in
theorem StoreB_any (f i : Nat) (r : Int) (w : World) (hc : w.cell? ⟨f, i, none⟩ = some (.int .u32 r)) (hz : w.frozen? ⟨f, i, none⟩ = false) :
    Calls Try.prog 112 #[.pointer (some ⟨f, i, none⟩), .bool true] w fun e w' => e = .returned (.tuple #[]) ∧ ∃ k, (w.drewN k).setCell ⟨f, i, none⟩ (.int .u32 1) = w' := by
  have ha := storeu_run ⟨f, i, none⟩ r 1 w.drew hc hz
  go_enter Try.func112, Try.ntmps112
  go_wp2
  go_region_with (first | (go_at_call 116; refine (b32_true _).mono ?_; rintro e w' ⟨rfl, rfl⟩))
  all_goals
    go_end0
    exact ⟨rfl, 1, rfl⟩
end Go.Proofs.Ytlnffcledpccjaa
