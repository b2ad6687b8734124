/-
  Two words' bits counted; one word's, ahead and behind (plain mathematics).
-/
import Derived.Test.YtmbnaejoiglckaaDoorWf
import Derived.Test.YtmbnaejoiglckaaDoorMc
namespace Go.Proofs.YtmbnaejoiglckaaDoor
set_option linter.unusedVariables false
namespace Wd
theorem uz2 (n : Int) (a : Nat) : uz 2 n a = pop 64 (cut n a) := by simp [uz]
theorem uz0 (n : Int) (a : Nat) : uz 0 n a = n.toNat - Lib.bitLen (cut n a) := by simp [uz]
theorem uz1 (n : Int) (a : Nat) : uz 1 n a = min (low 64 (cut n a)) n.toNat := by simp [uz]
theorem both_law {n : Int} {a b : Nat} (h : ok n) (ha : a < 18446744073709551616) (hb : b < 18446744073709551616) :
    uz 2 n a + uz 2 n b = uz 2 n (bz 7 n a b) + uz 2 n (bz 8 n a b) ∧ uz 2 n a ≤ 64 ∧ uz 2 n b ≤ 64 ∧ uz 2 n (bz 7 n a b) ≤ 64 ∧ uz 2 n (bz 8 n a b) ≤ 64 := by
  simp only [uz2]
  refine ⟨?_, pop_le _ _, pop_le _ _, pop_le _ _, pop_le _ _⟩
  rw [cut_of_lt h (bz_lt (op := 7) h ha hb), cut_of_lt h (bz_lt (op := 8) h ha hb)]
  have e7 : bz 7 n a b = cut n a &&& cut n b := by simp [bz, trap, bin]
  have e8 : bz 8 n a b = cut n a ||| cut n b := by simp [bz, trap, bin]
  rw [e7, e8]
  exact (pop_and_or 64 _ _).symm
theorem none_law {n : Int} {a : Nat} (h : ok n) (ha : a < 18446744073709551616) (h0 : uz 2 n a = 0) : uz 0 n a = n.toNat ∧ uz 1 n a = n.toNat := by
  have hc := Nat.lt_of_lt_of_le (cut_lt h ha) (md_le h)
  have hz := (pop_eq_zero 64 _ hc).1 ((uz2 n a).symm.trans h0)
  rw [uz0, uz1, hz, low_zero]
  rcases h with rfl | rfl <;> exact ⟨rfl, rfl⟩
theorem some_law {n : Int} {a : Nat} (h : ok n) (ha : a < 18446744073709551616) (h0 : uz 2 n a ≠ 0) :
    uz 0 n a + uz 1 n a + uz 2 n a ≤ n.toNat ∧ uz 0 n a < n.toNat ∧ uz 1 n a < n.toNat ∧ cut n a / 2 ^ (n.toNat - 1 - uz 0 n a) = 1 ∧ cut n a / 2 ^ uz 1 n a % 2 = 1 ∧ cut n a / 2 ^ uz 1 n a * 2 ^ uz 1 n a = cut n a := by
  have hm := cut_lt h ha
  have hc := Nat.lt_of_lt_of_le hm (md_le h)
  have hz : cut n a ≠ 0 := fun e => h0 (by rw [uz2, e, pop_zero])
  have hN : n.toNat ≤ 64 := by rcases h with rfl | rfl <;> decide
  rw [md_pow h] at hm
  obtain ⟨l1, l2⟩ := bitLen_two _ hc
  obtain ⟨l3, l4⟩ := l2 hz
  have l5 := Lib.bitLen_le _ _ hN hm
  obtain ⟨c1, c2, c3, c4, c5⟩ := count_law hN l3 l5 l1 l4
  have e1 : uz 1 n a = low 64 (cut n a) := by rw [uz1]; omega
  rw [e1, uz0, uz2]
  refine ⟨c1, by omega, c5, ?_, c3, c4⟩
  rw [show n.toNat - 1 - (n.toNat - Lib.bitLen (cut n a)) = Lib.bitLen (cut n a) - 1 from by omega]
  exact c2
end Wd
end Go.Proofs.YtmbnaejoiglckaaDoor
