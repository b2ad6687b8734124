/-
  A stack's Room and Get with numbers written out.
-/
import Derived.Test.YthfdblpodnodcaaWa
namespace Go.Proofs.Ythfdblpodnodcaa
open Go.RowKit
set_option linter.unusedVariables false
section
variable {w w' : World} {a bb rm gm : Nat} {d : Ad} {s at_ cells h : Nat}
theorem SkRoom_i (H : SkI w a bb rm gm d s at_ cells h) : Calls Try.prog 24 #[.pointer (some ⟨s, 0, none⟩)] w fun e w' => e = .returned (.int .i64 ((cells : Int) - (h : Int))) ∧ ∃ k, w.drewN k = w' := by
  have := SkRoom_ok H
  have h3 := H.hh
  rw [show ((cells - h : Nat) : Int) = (cells : Int) - (h : Int) by omega] at this
  exact this
theorem SkGet_w {F : Nat → Nat} (H : SkI w a bb rm gm d s 0 cells h) (hc : Con d 0 h F) (c : Nat) (hh : c < h) : Calls Try.prog 20 #[.pointer (some ⟨s, 0, none⟩), .int .i64 c] w fun e w' => e = .returned (.tuple #[.int .u64 ((F c : Nat) : Int), .int .i64 0]) ∧ ∃ k, w.drewN k = w' := by
  have := SkGet_ok H c hh
  rw [hc c hh] at this
  exact this
end
end Go.Proofs.Ythfdblpodnodcaa
