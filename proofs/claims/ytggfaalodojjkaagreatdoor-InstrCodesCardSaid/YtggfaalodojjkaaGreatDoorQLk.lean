/-
  Small facts for the statements on widths: a number modulo 64; shifted to the right; the bytes of a number put behind nothing.
-/
import Derived.Test.YtggfaalodojjkaaGreatDoorQLg
import Derived.Test.YtggfaalodojjkaaGreatDoorQLj
namespace Go.Proofs.YtggfaalodojjkaaGreatDoor
open Go.RowKit
set_option linter.unusedVariables false
theorem tmod64 (a1 : Int) : ∃ q : Nat, q < 64 ∧ (IntKind.u64.wrap a1).tmod 64 = (q : Int) := by
  refine ⟨(a1 % 64).toNat, by omega, ?_⟩
  rw [IntKind.wrap_u64, Int.tmod_eq_emod_of_nonneg (by omega)]
  omega
theorem shr_pos (n k : Nat) : ((0 : Int) < (n : Int) / 2 ^ k) ↔ 2 ^ k ≤ n := by
  have e : (n : Int) / 2 ^ k = ((n / 2 ^ k : Nat) : Int) := by simp
  rw [e]
  have : 0 < n / 2 ^ k ↔ 2 ^ k ≤ n := Nat.div_pos_iff.trans ⟨fun h => h.2, fun h => ⟨Nat.two_pow_pos k, h⟩⟩
  omega
theorem put_nil (n : Nat) (w : World) (h : n < 2 ^ 64) : Calls Tryz.prog 35 #[.slice none 0 0, .int .u64 n] w (PutPost w.heap.size (Leb.szU n + 1) (Leb.enc (Leb.szU n) n) w) := by
  have := Put_any none 0 0 [] n w (byt_nil w) (by omega) h
  rw [Nat.zero_add, List.nil_append] at this
  exact this
theorem putS_nil (n : Int) (w : World) (h : -9223372036854775808 ≤ n) (h2 : n < 9223372036854775808) : Calls Tryz.prog 31 #[.slice none 0 0, .int .i64 n] w (PutPost w.heap.size (Leb.szS n + 1) (Leb.enc (Leb.szS n) n) w) := by
  have := PutS_any none 0 0 [] n w (byt_nil w) (by omega) h h2
  rw [Nat.zero_add, List.nil_append] at this
  exact this
end Go.Proofs.YtggfaalodojjkaaGreatDoor
