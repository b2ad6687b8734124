/-
  Slices of words: cut, and their memory.
-/
import Derived.Test.YthfdblpodnodcaaWb
namespace Go.Proofs.Ythfdblpodnodcaa
open Go.RowKit
set_option linter.unusedVariables false
theorem Wrd.nil {w : World} {A : Option Addr} {n c : Nat} {f : Nat → Nat} (h : Wrd w A n c f) : A = none → n = 0 := fun e => by
  rcases Nat.eq_zero_or_pos n with h0 | h0
  · exact h0
  · obtain ⟨b, off, e2, _⟩ := h.2.2.2 h0
    rw [e] at e2
    cases e2
theorem wrd_slice {w : World} {B n c : Nat} {A : Option Addr} {F : Nat → Nat} (h : w.ownsRow B 38 1 (.slice A n c) n (rowsW F n)) (hF : ∀ j, j < n → F j < 18446744073709551616) : Wrd w A n c F := by
  obtain ⟨A', c', e, hw⟩ := wrd_own h hF
  injection e with e1 e2 e3
  subst e1 e3
  exact hw
theorem Wrd.low {w : World} {A : Option Addr} {n c k : Nat} {f : Nat → Nat} (h : Wrd w A n c f) (hk : k ≤ n) : Wrd w A k c f :=
  ⟨Nat.le_trans hk h.1, h.2.1, fun i hi => h.2.2.1 i (by omega), fun h0 => by
    obtain ⟨b, off, e, hl, hc⟩ := h.2.2.2 (by omega)
    exact ⟨b, off, e, hl, fun j hj => hc j (by omega)⟩⟩
end Go.Proofs.Ythfdblpodnodcaa
