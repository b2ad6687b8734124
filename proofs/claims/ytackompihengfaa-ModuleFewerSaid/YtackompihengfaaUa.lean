/-
  Unfit: what isn't as it must be: its pieces.
-/
import Derived.Test.YtackompihengfaaGg
import Derived.Deep.RegionHeld3
namespace Go.Proofs.Ytackompihengfaa
open Go.RowKit
set_option linter.unusedVariables false
/-- block n of the text -/
def fromBlk (n : Nat) : Code → Option Code
  | .block i c => if i = n then some (.block i c) else fromBlk n c
  | .seq a b => match fromBlk n a with
    | some c => some c
    | none => fromBlk n b
  | .loop c => fromBlk n c
  | .scope c => fromBlk n c
  | .cond _ a b => match fromBlk n a with
    | some c => some c
    | none => fromBlk n b
  | _ => none
noncomputable def unBlk (n : Nat) : Code := ((Try.f13.body.bind (fromBlk n)).getD .skip)
theorem all_more' {Q : Nat → Prop} {k : Nat} (h : ∀ i, i < k → Q i) (hk : Q k) : ∀ i, i < k + 1 → Q i := fun i hi => by
  rcases Nat.lt_succ_iff_lt_or_eq.1 hi with h1 | h1
  · exact h i h1
  · rw [h1]; exact hk
def UnN (W0 w' : World) (F : Prop) : Prop := Below W0.heap.size W0 w' ∧ F
def UnR (W0 : World) (t : Array Value) (w' : World) : Prop := Below W0.heap.size W0 w' ∧ ∃ (s : ByteArray) (r : Int), t[2]? = some (.string s) ∧ t[3]? = some (.int .i64 r) ∧ r ≠ 0
end Go.Proofs.Ytackompihengfaa
