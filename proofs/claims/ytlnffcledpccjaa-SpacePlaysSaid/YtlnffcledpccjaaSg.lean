/-
  The given example of the third layer (awake): true, and nothing that was there is changed.
-/
import Derived.Test.YtlnffcledpccjaaSf
namespace Go.Proofs.Ytlnffcledpccjaa
open Go.RowKit
set_option linter.unusedVariables false
def sm (s m : Nat) (k : Nat) : Prop := k = s ∨ k = m
/-- a store that the call made, and all that it has done since -/
theorem below_sm {w0 w w' : World} {s m : Nat} (hb : Below w0.heap.size w0 w) (hs : w0.heap.size ≤ s) (hm : w0.heap.size ≤ m) (hf : Fr (fun k => k = s ∨ k = m) w w') : Below w0.heap.size w0 w' :=
  hf.below hb hb.size (fun k hk => by rcases hk with rfl | rfl <;> assumption)
theorem below_s {w0 w w' : World} {s : Nat} (hb : Below w0.heap.size w0 w) (hs : w0.heap.size ≤ s) (hf : Fr (· = s) w w') : Below w0.heap.size w0 w' :=
  hf.below hb hb.size (fun k hk => by rw [hk]; exact hs)
end Go.Proofs.Ytlnffcledpccjaa
