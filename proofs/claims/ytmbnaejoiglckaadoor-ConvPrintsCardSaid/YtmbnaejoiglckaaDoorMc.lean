/-
  Words turned and turned back, and counted (plain mathematics).
-/
import Derived.Test.YtmbnaejoiglckaaDoorMb
import Derived.Lib.BitFns
namespace Go.Proofs.YtmbnaejoiglckaaDoor
set_option linter.unusedVariables false
/-- what comes of a word -/
def uz (op n : Int) (a : Nat) : Nat :=
  if op = 0 then n.toNat - Lib.bitLen (Wd.cut n a) else if op = 1 then min (Wd.low 64 (Wd.cut n a)) n.toNat
  else if op = 2 then Wd.pop 64 (Wd.cut n a) else if Wd.cut n a = 0 then 1 else 0
namespace Wd
theorem pop64 {n : Int} {x : Nat} (h : ok n) (hx : x < md n) : pop 64 x = pop n.toNat x := by
  have hp := md_pow h
  rcases h with rfl | rfl
  · exact pop_wide 32 32 x hx
  · rfl
theorem turn_law {n : Int} {a k : Nat} (h : ok n) (ha : a < 18446744073709551616) (hk : k < 18446744073709551616) :
    bz 14 n (bz 13 n a k) k = cut n a ∧ uz 2 n (bz 13 n a k) = uz 2 n a ∧ bz 10 n (bz 9 n (bz 12 n (bz 10 n a k) k) a) k = 0 := by
  have hA := cut_lt h ha
  have hs := sh_lt h k
  have hp := md_pow h
  have e13 : ∀ x, bz 13 n x k = cut n x % 2 ^ (n.toNat - k % n.toNat) * 2 ^ (k % n.toNat) + cut n x / 2 ^ (n.toNat - k % n.toNat) := fun x => by simp [bz, trap, bin, cut_mod_n h]
  have e14 : ∀ x, bz 14 n x k = cut n x % 2 ^ (k % n.toNat) * 2 ^ (n.toNat - k % n.toNat) + cut n x / 2 ^ (k % n.toNat) := fun x => by simp [bz, trap, bin, cut_mod_n h]
  have e10 : ∀ x, bz 10 n x k = cut n x * 2 ^ (k % n.toNat) % md n := fun x => by simp [bz, trap, bin, cut_mod_n h]
  have e12 : ∀ x, bz 12 n x k = cut n x / 2 ^ (k % n.toNat) := fun x => by simp [bz, trap, bin, cut_mod_n h]
  have e9 : ∀ x y, bz 9 n x y = cut n x ^^^ cut n y := fun x y => by simp [bz, trap, bin]
  have l13 := cut_of_lt h (bz_lt (op := 13) h ha hk)
  have l10 := cut_of_lt h (bz_lt (op := 10) h ha hk)
  have k10 := Nat.lt_of_lt_of_le (bz_lt (op := 10) h ha hk) (md_le h)
  have l12 := cut_of_lt h (bz_lt (op := 12) h k10 hk)
  have k12 := Nat.lt_of_lt_of_le (bz_lt (op := 12) h k10 hk) (md_le h)
  have l9 := cut_of_lt h (bz_lt (op := 9) h k12 ha)
  generalize hK : k % n.toNat = K at *
  obtain ⟨m, hm⟩ : ∃ m, n.toNat - K = m := ⟨_, rfl⟩
  have hN : n.toNat = K + m := by omega
  rw [hm] at e13 e14
  generalize hAA : cut n a = A at *
  rw [hp, hN] at hA
  have h2 : A / 2 ^ m < 2 ^ K := by rw [Nat.div_lt_iff_lt_mul (Nat.two_pow_pos _), ← Nat.pow_add]; exact hA
  have x1 : (A % 2 ^ m * 2 ^ K + A / 2 ^ m) % 2 ^ K = A / 2 ^ m := by
    rw [Nat.add_comm, Nat.add_mul_mod_self_right, Nat.mod_eq_of_lt h2]
  have x2 : (A % 2 ^ m * 2 ^ K + A / 2 ^ m) / 2 ^ K = A % 2 ^ m := by
    rw [Nat.add_comm, Nat.add_mul_div_right _ _ (Nat.two_pow_pos _), Nat.div_eq_of_lt h2, Nat.zero_add]
  refine ⟨?_, ?_, ?_⟩
  · rw [e14, l13, e13, hAA, x1, x2, Nat.mul_comm]
    exact Nat.div_add_mod A (2 ^ m)
  · have hx := bz_lt (op := 13) h ha hk
    simp only [uz]
    simp only [show ((2 : Int) = 0) = False from by simp, show ((2 : Int) = 1) = False from by simp, if_false, if_true]
    rw [l13, hAA, pop64 h hx, pop64 h (by rw [hp, hN]; exact hA), e13, hAA, hN]
    exact pop_turn K m A hA
  · have z1 : A * 2 ^ K % 2 ^ (K + m) = 2 ^ K * (A % 2 ^ m) := by rw [Nat.pow_add, Nat.mul_comm A, Nat.mul_mod_mul_left]
    have w1 : bz 12 n (bz 10 n a k) k = A % 2 ^ m := by
      rw [e12, l10, e10, hAA, hp, hN, z1, Nat.mul_div_cancel_left _ (Nat.two_pow_pos _)]
    rw [e10, l9, e9, l12, w1, hAA, hp, hN, Nat.pow_add, Nat.mul_comm _ (2 ^ K), Nat.mul_mod_mul_left, Nat.xor_mod_two_pow, Nat.mod_mod, Nat.xor_self, Nat.mul_zero]
theorem low_lt {A N : Nat} (hA : A < 2 ^ N) (h0 : A ≠ 0) (hN : N ≤ 64) : low 64 A < N ∧ ∃ q, A = 2 ^ low 64 A * (2 * q + 1) := by
  obtain ⟨h1, q, h2⟩ := low_spec 64 A (Nat.lt_of_lt_of_le hA (Nat.pow_le_pow_right (by decide) hN)) (by omega)
  refine ⟨?_, q, h2⟩
  rcases Nat.lt_or_ge (low 64 A) N with g | g
  · exact g
  · exfalso
    have := Nat.pow_le_pow_right (show 0 < 2 by decide) g
    have : 2 ^ low 64 A * 1 ≤ 2 ^ low 64 A * (2 * q + 1) := Nat.mul_le_mul_left _ (by omega)
    omega
/-- of a word that isn't 0, with its bit length: what stands ahead of its highest one, and behind its lowest one -/
theorem count_law {A N L : Nat} (hN : N ≤ 64) (hL : 0 < L) (hLN : L ≤ N) (h1 : A < 2 ^ L) (h2 : 2 ^ (L - 1) ≤ A) :
    N - L + low 64 A + pop 64 A ≤ N ∧ A / 2 ^ (L - 1) = 1 ∧ A / 2 ^ low 64 A % 2 = 1 ∧ A / 2 ^ low 64 A * 2 ^ low 64 A = A ∧ low 64 A < N := by
  have h0 : A ≠ 0 := by have := Nat.two_pow_pos (L - 1); omega
  obtain ⟨t1, q, hq⟩ := low_lt h1 h0 (by omega)
  generalize low 64 A = t at *
  have hd : A / 2 ^ t = 2 * q + 1 := by rw [hq, Nat.mul_div_cancel_left _ (Nat.two_pow_pos _)]
  have hq2 : 2 * q + 1 < 2 ^ (L - t) := by
    rw [hq, show L = t + (L - t) from by omega, Nat.pow_add] at h1
    exact Nat.lt_of_mul_lt_mul_left h1
  have hr := pop_room t (L - t) (64 - L) (2 * q + 1) hq2
  rw [Nat.mul_comm, ← hq, show t + (L - t + (64 - L)) = 64 from by omega] at hr
  refine ⟨by omega, ?_, by rw [hd]; omega, by rw [hd, Nat.mul_comm, ← hq], by omega⟩
  have e : 2 ^ L = 2 * 2 ^ (L - 1) := by rw [show L = (L - 1) + 1 from by omega, Nat.pow_succ]; simp [Nat.mul_comm]
  rw [e] at h1
  rw [Nat.div_eq_iff (Nat.two_pow_pos _)]
  omega
end Wd
end Go.Proofs.YtmbnaejoiglckaaDoor
