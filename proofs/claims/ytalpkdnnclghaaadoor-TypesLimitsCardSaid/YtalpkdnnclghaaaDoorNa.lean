/-
  A type's name, and bits; a name's type.
-/
import Derived.Test.YtalpkdnnclghaaaDoorSa
import Derived.Outline
namespace Go.Proofs.YtalpkdnnclghaaaDoor
open Go.RowKit Go.ChangeShapes Go.WideShapes Go.ChangeAt
set_option linter.unusedVariables false
set_option linter.unusedSimpArgs false
/-- a type's name -/
def nmT (t : Nat) : ByteArray := if t = 127 then ⟨#[105, 51, 50]⟩ else if t = 126 then ⟨#[105, 54, 52]⟩ else ⟨#[63]⟩
def btT (t : Nat) : Nat := if t = 127 then 32 else if t = 126 then 64 else 0
theorem kinds3 (t : Nat) (ht : t < 256) (P : Nat → Prop) (h1 : P 127) (h2 : P 126) (h3 : ∀ t, t < 256 → t ≠ 127 → t ≠ 126 → P t) : P t := by
  by_cases h : t = 127
  · exact h ▸ h1
  · by_cases h' : t = 126
    · exact h' ▸ h2
    · exact h3 t ht h h'
set_option maxRecDepth 100000 in
theorem Name_ok (t : Nat) (ht : t < 256) (w : World) : Calls Tryd.prog 28 #[.int .u8 t] w fun e w' => e = .returned (.string (nmT t)) ∧ w = w' := by
  revert w
  refine kinds3 t ht (fun t => ∀ w, Calls Tryd.prog 28 #[.int .u8 t] w fun e w' => e = .returned (.string (nmT t)) ∧ w = w') ?_ ?_ ?_
  · intro w; try show Calls Tryd.prog _ _ w _
    go_enter Tryd.func28, Tryd.ntmps28
    go_wp2
    go_ret
    exact ⟨rfl, rfl⟩
  · intro w; try show Calls Tryd.prog _ _ w _
    go_enter Tryd.func28, Tryd.ntmps28
    go_wp2
    go_ret
    exact ⟨rfl, rfl⟩
  · intro t ht h1 h2 w
    have e : nmT t = ⟨#[63]⟩ := by unfold nmT; rw [if_neg h1, if_neg h2]
    rw [e]
    have h1' : ((t : Int) == 127) = false := by rw [beq_eq_false_iff_ne]; omega
    have h2' : ((t : Int) == 126) = false := by rw [beq_eq_false_iff_ne]; omega
    clear e
    go_enter Tryd.func28, Tryd.ntmps28
    go_wp2
    go_ret
    exact ⟨rfl, rfl⟩
set_option maxRecDepth 100000 in
theorem RName9_ok (t : Nat) (ht : t < 256) (w : World) : Calls Tryd.prog 29 #[.int .u8 t] w fun e w' => e = .returned (.string (nmT t)) ∧ w = w' := by
  revert w
  refine kinds3 t ht (fun t => ∀ w, Calls Tryd.prog 29 #[.int .u8 t] w fun e w' => e = .returned (.string (nmT t)) ∧ w = w') ?_ ?_ ?_
  · intro w; try show Calls Tryd.prog _ _ w _
    go_enter Tryd.func29, Tryd.ntmps29
    go_wp2
    go_ret
    exact ⟨rfl, rfl⟩
  · intro w; try show Calls Tryd.prog _ _ w _
    go_enter Tryd.func29, Tryd.ntmps29
    go_wp2
    go_ret
    exact ⟨rfl, rfl⟩
  · intro t ht h1 h2 w
    have e : nmT t = ⟨#[63]⟩ := by unfold nmT; rw [if_neg h1, if_neg h2]
    rw [e]
    have h1' : ((t : Int) == 127) = false := by rw [beq_eq_false_iff_ne]; omega
    have h2' : ((t : Int) == 126) = false := by rw [beq_eq_false_iff_ne]; omega
    clear e
    go_enter Tryd.func29, Tryd.ntmps29
    go_wp2
    go_ret
    exact ⟨rfl, rfl⟩
set_option maxRecDepth 100000 in
theorem Bits_ok (t : Nat) (ht : t < 256) (w : World) : Calls Tryd.prog 30 #[.int .u8 t] w fun e w' => e = .returned (.int .i64 (btT t)) ∧ w = w' := by
  revert w
  refine kinds3 t ht (fun t => ∀ w, Calls Tryd.prog 30 #[.int .u8 t] w fun e w' => e = .returned (.int .i64 (btT t)) ∧ w = w') ?_ ?_ ?_
  · intro w; try show Calls Tryd.prog _ _ w _
    go_enter Tryd.func30, Tryd.ntmps30
    go_wp2
    go_ret
    exact ⟨rfl, rfl⟩
  · intro w; try show Calls Tryd.prog _ _ w _
    go_enter Tryd.func30, Tryd.ntmps30
    go_wp2
    go_ret
    exact ⟨rfl, rfl⟩
  · intro t ht h1 h2 w
    have e : btT t = 0 := by unfold btT; rw [if_neg h1, if_neg h2]
    rw [e]
    have h1' : ((t : Int) == 127) = false := by rw [beq_eq_false_iff_ne]; omega
    have h2' : ((t : Int) == 126) = false := by rw [beq_eq_false_iff_ne]; omega
    clear e
    go_enter Tryd.func30, Tryd.ntmps30
    go_wp2
    go_ret
    exact ⟨rfl, rfl⟩
end Go.Proofs.YtalpkdnnclghaaaDoor
