/-
  Slices of words: what a cut gives.
-/
import Derived.Test.YthfdblpodnodcaaWc
import Derived.IntWalk
namespace Go.Proofs.Ythfdblpodnodcaa
open Go.RowKit
set_option linter.unusedVariables false
theorem el34 : Try.prog.underlying 34 = some (.slice (Try.prog.elem 34)) := by kernel_rfl
theorem sz34 (W : World) : (sizeOf (Try.prog.elem 34)).run Try.prog W = .ok 1 W := by kernel_rfl
theorem own_addr {w : World} {B n c : Nat} {A : Option Addr} {xs : List Value} (h : w.ownsRow B 38 1 (.slice A n c) n xs) : A = none ∨ ∃ g, A = some ⟨g, 0, none⟩ := by
  rcases h.2 with ⟨e, _⟩ | ⟨g, cap, cur, e, _⟩
  · injection e with e1; exact .inl e1
  · injection e with e1; exact .inr ⟨g, e1⟩
theorem slice_low {A : Option Addr} {n c k : Nat} (hk : k ≤ c) (hA : A = none ∨ ∃ g, A = some ⟨g, 0, none⟩) (W : World) :
    (Instr.slice 34 (.slice A n c) none (some (.int .i64 (k : Int))) none).run Try.prog W = .ok (.slice A k c) W := by
  rw [run_slice_h (P := Try.prog) W 34 A n c el34 .i64 (k : Int) (by omega) (by omega), sz34]
  rcases hA with rfl | ⟨g, rfl⟩
  · simp [Result.andThen, sliced]
  · simp [Result.andThen, sliced, addr_add]
theorem slice_high {A : Option Addr} {n c r : Nat} (hr : r ≤ n) (hn : n ≤ c) : ∃ A2, (∀ W, (Instr.slice 34 (.slice A n c) (some (.int .i64 (r : Int))) none none).run Try.prog W = .ok (.slice A2 (n - r) (c - r)) W) ∧
    ∀ w F, Wrd w A n c F → Wrd w A2 (n - r) (c - r) (fun i => F (r + i)) := by
  refine ⟨if c = r then A else A.map (·.add (r * 1)), fun W => ?_, fun w F h => ?_⟩
  · rw [run_slice_l (P := Try.prog) W 34 A n c el34 .i64 (r : Int) (by omega) (by omega), sz34]
    simp [Result.andThen, sliced]
  · refine ⟨by omega, by have := h.2.1; omega, fun i hi => h.2.2.1 (r + i) (by omega), fun h0 => ?_⟩
    obtain ⟨b, off, e, hl, hc⟩ := h.2.2.2 (by omega)
    subst e
    refine ⟨b, off + r, ?_, hl, fun j hj => ?_⟩
    · rw [if_neg (by omega), Option.map_some, addr_add, Nat.mul_one]
    · rw [Nat.add_assoc]
      exact hc (r + j) (by omega)
end Go.Proofs.Ythfdblpodnodcaa
