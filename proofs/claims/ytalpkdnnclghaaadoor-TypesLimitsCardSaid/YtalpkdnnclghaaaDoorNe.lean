/-
  A name's type; strings.SplitSeq's value.
-/
import Derived.Test.YtalpkdnnclghaaaDoorNd
namespace Go.Proofs.YtalpkdnnclghaaaDoor
open Go.RowKit Go.ChangeShapes Go.WideShapes Go.ChangeAt
set_option linter.unusedVariables false
set_option linter.unusedSimpArgs false
/-- a name's type -/
def tyB (p : ByteArray) : Option Nat := if p.toList == [105, 51, 50] then some 127 else if p.toList == [105, 54, 52] then some 126 else none
set_option maxRecDepth 100000 in
theorem named_ok (p : ByteArray) (w : World) : Calls Tryd.prog 64 #[.string p] w fun e w' => e = .returned (.tuple #[.int .u8 ((tyB p).getD 0), .bool (tyB p).isSome]) ∧ w = w' := by
  unfold tyB
  by_cases h1 : (p.toList == [105, 51, 50]) = true
  · rw [if_pos h1]
    go_enter Tryd.func64, Tryd.ntmps64
    go_wp2
    go_ret2
    exact ⟨rfl, rfl⟩
  · have h1 := Bool.eq_false_iff.2 h1
    rw [h1]
    by_cases h2 : (p.toList == [105, 54, 52]) = true
    · rw [if_neg (by decide), if_pos h2]
      go_enter Tryd.func64, Tryd.ntmps64
      go_wp2
      go_ret2
      exact ⟨rfl, rfl⟩
    · have h2 := Bool.eq_false_iff.2 h2
      rw [h2, if_neg (by decide), if_neg (by decide)]
      go_enter Tryd.func64, Tryd.ntmps64
      go_wp2
      go_ret2
      exact ⟨rfl, rfl⟩
/-- the boxes that SplitSeq lays -/
def seqW (s : List UInt8) (w : World) : World := ((w.alloc (.cells #[.string ⟨s.toArray⟩] 9)).alloc (.cells #[.string ⟨#[44]⟩] 9)).alloc (.cells #[.int .i64 0] 3)
def seqV (B : Nat) : Value := .func (.func 91) #[] #[.pointer (some ⟨B + 1, 0, none⟩), .pointer (some ⟨B, 0, none⟩), .pointer (some ⟨B + 2, 0, none⟩)]
set_option maxRecDepth 100000 in
theorem splitSeq_ok (s : List UInt8) (w : World) : Calls Tryd.prog 78 #[.string ⟨s.toArray⟩, .string ⟨#[44]⟩, .int .i64 0] w fun e w' => e = .returned (seqV w.heap.size) ∧ w' = seqW s w := by
  go_enter Tryd.func78, Tryd.ntmps78
  go_wp2
  go_ret
  exact ⟨rfl, rfl⟩
set_option maxRecDepth 100000 in
theorem SplitSeq_ok (s : List UInt8) (w : World) : Calls Tryd.prog 63 #[.string ⟨s.toArray⟩, .string ⟨#[44]⟩] w fun e w' => e = .returned (seqV w.heap.size) ∧ w' = seqW s w := by
  go_enter Tryd.func63, Tryd.ntmps63
  go_wp2_with (go_at_call 78; with_reducible refine (splitSeq_ok s _).mono ?_; rintro e w1 ⟨rfl, rfl⟩)
  go_ret
  exact ⟨rfl, rfl⟩
end Go.Proofs.YtalpkdnnclghaaaDoor
