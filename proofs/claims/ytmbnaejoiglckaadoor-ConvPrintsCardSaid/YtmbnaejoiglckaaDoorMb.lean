/-
  The bits of a word that are 1, counted: how they are counted side by side; the lowest one (plain mathematics).
-/
import Derived.Test.YtmbnaejoiglckaaDoorM
namespace Go.Proofs.YtmbnaejoiglckaaDoor
set_option linter.unusedVariables false
namespace Wd
def pop : Nat → Nat → Nat
  | 0, _ => 0
  | n + 1, a => a % 2 + pop n (a / 2)
theorem pop_split : ∀ (k m a : Nat), pop (k + m) a = pop k (a % 2 ^ k) + pop m (a / 2 ^ k)
  | 0, m, a => by simp [pop]
  | k + 1, m, a => by
    rw [show k + 1 + m = (k + m) + 1 from by omega]
    have h1 : a % 2 ^ (k + 1) % 2 = a % 2 := by
      rw [Nat.pow_succ, Nat.mul_comm, Nat.mod_mul_right_mod]
    have h2 : a % 2 ^ (k + 1) / 2 = a / 2 % 2 ^ k := by
      rw [Nat.pow_succ, Nat.mul_comm, Nat.mod_mul_right_div_self]
    have h3 : a / 2 / 2 ^ k = a / 2 ^ (k + 1) := by rw [Nat.div_div_eq_div_mul, Nat.pow_succ, Nat.mul_comm]
    simp only [pop]
    rw [pop_split k m (a / 2), h1, h2, h3]
    omega
theorem pop_mod (k a : Nat) : pop k (a % 2 ^ k) = pop k a := by
  have h := pop_split k 0 a
  simp [pop] at h
  exact h.symm
theorem pop_le : ∀ k a, pop k a ≤ k
  | 0, a => by simp [pop]
  | k + 1, a => by simp only [pop]; have := pop_le k (a / 2); omega
theorem pop_zero : ∀ k, pop k 0 = 0
  | 0 => rfl
  | k + 1 => by simp [pop, pop_zero k]
theorem pop_eq_zero : ∀ k a, a < 2 ^ k → (pop k a = 0 ↔ a = 0)
  | 0, a, h => by simp at h; simp [pop, h]
  | k + 1, a, h => by
    simp only [pop]
    have := pop_eq_zero k (a / 2) (by rw [Nat.pow_succ] at h; omega)
    omega
theorem pop_wide (k m a : Nat) (h : a < 2 ^ k) : pop (k + m) a = pop k a := by
  rw [pop_split, Nat.mod_eq_of_lt h, Nat.div_eq_of_lt h, pop_zero]; rfl
theorem pop_and_or : ∀ k a b, pop k (a &&& b) + pop k (a ||| b) = pop k a + pop k b
  | 0, a, b => by simp [pop]
  | k + 1, a, b => by
    have h := pop_and_or k (a / 2) (b / 2)
    have e1 : (a &&& b) / 2 = a / 2 &&& b / 2 := by have := Nat.and_div_two_pow (a := a) (b := b) (n := 1); simpa using this
    have e2 : (a ||| b) / 2 = a / 2 ||| b / 2 := by have := Nat.or_div_two_pow (a := a) (b := b) (n := 1); simpa using this
    have e3 : (a &&& b) % 2 = (a % 2) &&& (b % 2) := by have := Nat.and_mod_two_pow (a := a) (b := b) (n := 1); simpa using this
    have e4 : (a ||| b) % 2 = (a % 2) ||| (b % 2) := by have := Nat.or_mod_two_pow (a := a) (b := b) (n := 1); simpa using this
    simp only [pop, e1, e2, e3, e4]
    have : (a % 2 &&& b % 2) + (a % 2 ||| b % 2) = a % 2 + b % 2 := by
      rcases Nat.mod_two_eq_zero_or_one a with p | p <;> rcases Nat.mod_two_eq_zero_or_one b with q | q <;> rw [p, q] <;> rfl
    omega
/-- turned by k of n places, the bits are as many -/
theorem pop_turn (k m a : Nat) (h : a < 2 ^ (k + m)) : pop (k + m) (a % 2 ^ m * 2 ^ k + a / 2 ^ m) = pop (k + m) a := by
  have h2 : a / 2 ^ m < 2 ^ k := by rw [Nat.div_lt_iff_lt_mul (Nat.two_pow_pos _), ← Nat.pow_add]; exact h
  rw [pop_split k m, Nat.add_comm (a % 2 ^ m * 2 ^ k), Nat.add_mul_mod_self_right, Nat.mod_eq_of_lt h2, Nat.add_mul_div_right _ _ (Nat.two_pow_pos _), Nat.div_eq_of_lt h2, Nat.zero_add, Nat.add_comm k m, pop_split m k a]
  omega
/-- a number that 2^t divides, below 2^L, has at most L - t bits that are 1 -/
theorem pop_room (t L m q : Nat) (h : q < 2 ^ L) : pop (t + (L + m)) (q * 2 ^ t) ≤ L := by
  rw [pop_split t, Nat.mul_mod_left, pop_zero, Nat.mul_div_cancel _ (Nat.two_pow_pos _), pop_wide L m q h]
  have := pop_le L q
  omega
/-! eight bytes counted side by side -/
theorem and_bytes (u v s t : Nat) (hv : v < 256) (ht : t < 256) : (256 * u + v) &&& (256 * s + t) = 256 * (u &&& s) + (v &&& t) := by
  have h1 := Nat.and_div_two_pow (a := 256 * u + v) (b := 256 * s + t) (n := 8)
  have h2 := Nat.and_mod_two_pow (a := 256 * u + v) (b := 256 * s + t) (n := 8)
  rw [show (2 : Nat) ^ 8 = 256 from rfl] at h1 h2
  rw [show (256 * u + v) / 256 = u from by omega, show (256 * s + t) / 256 = s from by omega] at h1
  rw [show (256 * u + v) % 256 = v from by omega, show (256 * s + t) % 256 = t from by omega] at h2
  rw [← h1, ← h2]
  omega
def mask (c : Nat) : Nat → Nat
  | 0 => 0
  | k + 1 => 256 * mask c k + c
def s1 (k x : Nat) : Nat := (x / 2 &&& mask 85 k) + (x &&& mask 85 k)
def s2 (k x : Nat) : Nat := (x / 4 &&& mask 51 k) + (x &&& mask 51 k)
def s3 (k x : Nat) : Nat := (x / 16 + x) &&& mask 15 k
theorem byte_facts : ∀ (c : Fin 256),
    ((c.val / 2 &&& 85) = (c.val / 2 + 128 &&& 85)) ∧ (c.val / 2 &&& 85) + (c.val &&& 85) < 256 ∧
    (let d := (c.val / 2 &&& 85) + (c.val &&& 85)
     (d / 4 &&& 51) = (d / 4 + 64 &&& 51) ∧ (d / 4 &&& 51) = (d / 4 + 128 &&& 51) ∧ (d / 4 &&& 51) = (d / 4 + 192 &&& 51) ∧ (d / 4 &&& 51) + (d &&& 51) < 256 ∧
     (let e := (d / 4 &&& 51) + (d &&& 51)
      e % 16 ≤ 4 ∧ e / 16 ≤ 4 ∧ (e / 16 + e) % 16 = pop 8 c.val)) := by
  decide +kernel
def dd (c : Nat) : Nat := (c / 2 &&& 85) + (c &&& 85)
def ee (c : Nat) : Nat := (dd c / 4 &&& 51) + (dd c &&& 51)
theorem byte1 (c j : Nat) (hc : c < 256) (hj : j < 2) : (c / 2 + 128 * j &&& 85) + (c &&& 85) = dd c ∧ dd c < 256 := by
  have h := byte_facts ⟨c, hc⟩
  simp only at h
  unfold dd
  rcases (by omega : j = 0 ∨ j = 1) with rfl | rfl
  · exact ⟨rfl, h.2.1⟩
  · rw [show 128 * 1 = 128 from rfl, ← h.1]; exact ⟨rfl, h.2.1⟩
theorem byte2 (c j : Nat) (hc : c < 256) (hj : j < 4) : (dd c / 4 + 64 * j &&& 51) + (dd c &&& 51) = ee c ∧ ee c < 256 := by
  have h := (byte_facts ⟨c, hc⟩).2.2
  simp only at h
  obtain ⟨h1, h2, h3, h4, h5⟩ := h
  unfold ee
  unfold dd
  rcases (by omega : j = 0 ∨ j = 1 ∨ j = 2 ∨ j = 3) with rfl | rfl | rfl | rfl
  · exact ⟨rfl, h4⟩
  · rw [show 64 * 1 = 64 from rfl, ← h1]; exact ⟨rfl, h4⟩
  · rw [show 64 * 2 = 128 from rfl, ← h2]; exact ⟨rfl, h4⟩
  · rw [show 64 * 3 = 192 from rfl, ← h3]; exact ⟨rfl, h4⟩
theorem byte3 (c : Nat) (hc : c < 256) : ee c % 16 ≤ 4 ∧ ee c / 16 ≤ 4 ∧ (ee c / 16 + ee c) % 16 = pop 8 c := by
  have h := (byte_facts ⟨c, hc⟩).2.2
  simp only at h
  exact h.2.2.2.2
theorem s1_step (k y c : Nat) (hc : c < 256) : s1 (k + 1) (256 * y + c) = 256 * s1 k y + dd c := by
  have hb := byte1 c (y % 2) hc (by omega)
  unfold s1
  rw [show mask 85 (k + 1) = 256 * mask 85 k + 85 from rfl]
  rw [show (256 * y + c) / 2 = 256 * (y / 2) + (c / 2 + 128 * (y % 2)) from by omega, and_bytes _ _ _ _ (by omega) (by decide), and_bytes _ _ _ _ hc (by decide), ← hb.1]
  omega
theorem s2_step (k y c : Nat) (hc : c < 256) : s2 (k + 1) (256 * y + dd c) = 256 * s2 k y + ee c := by
  have hd := (byte1 c 0 hc (by decide)).2
  have hb := byte2 c (y % 4) hc (by omega)
  unfold s2
  rw [show mask 51 (k + 1) = 256 * mask 51 k + 51 from rfl]
  rw [show (256 * y + dd c) / 4 = 256 * (y / 4) + (dd c / 4 + 64 * (y % 4)) from by omega, and_bytes _ _ _ _ (by omega) (by decide), and_bytes _ _ _ _ hd (by decide), ← hb.1]
  omega
theorem s3_step (k y c : Nat) (hc : c < 256) (hy : y % 16 ≤ 4) : s3 (k + 1) (256 * y + ee c) = 256 * s3 k y + pop 8 c := by
  have he := (byte2 c 0 hc (by decide)).2
  have hb := byte3 c hc
  unfold s3
  rw [show mask 15 (k + 1) = 256 * mask 15 k + 15 from rfl]
  rw [show (256 * y + ee c) / 16 + (256 * y + ee c) = 256 * (y / 16 + y) + (ee c / 16 + ee c + 16 * (y % 16)) from by omega, and_bytes _ _ _ _ (by omega) (by decide)]
  have : (ee c / 16 + ee c + 16 * (y % 16)) &&& 15 = pop 8 c := by
    rw [show 15 = 2 ^ 4 - 1 from rfl, Nat.and_two_pow_sub_one_eq_mod, ← hb.2.2]
    omega
  rw [this]
theorem s12_low : ∀ k y, s2 k (s1 k y) % 16 ≤ 4
  | 0, y => by simp [s2, mask]
  | k + 1, y => by
    have hc : y % 256 < 256 := Nat.mod_lt _ (by decide)
    rw [show y = 256 * (y / 256) + y % 256 from by omega, s1_step _ _ _ hc, s2_step _ _ _ hc]
    have := (byte3 (y % 256) hc).1
    omega
def sums (k x : Nat) : Nat := s3 k (s2 k (s1 k x))
theorem sums_step (k x : Nat) : sums (k + 1) x = 256 * sums k (x / 256) + pop 8 (x % 256) := by
  have hc : x % 256 < 256 := Nat.mod_lt _ (by decide)
  unfold sums
  have e : s1 (k + 1) x = 256 * s1 k (x / 256) + dd (x % 256) := by
    have := s1_step k (x / 256) (x % 256) hc
    rwa [show 256 * (x / 256) + x % 256 = x from by omega] at this
  rw [e, s2_step _ _ _ hc, s3_step _ _ _ hc (s12_low _ _)]
theorem sums_zero (x : Nat) : sums 0 x = 0 := Nat.and_zero _
theorem pop8_step (m x : Nat) : pop (8 + m) x = pop 8 (x % 256) + pop m (x / 256) := by
  have := pop_split 8 m x
  rwa [show (2 : Nat) ^ 8 = 256 from rfl] at this
theorem dv (m a b x : Nat) (h : x = m * a + b) (hb : b < m) : x / m = a := by
  rw [h, Nat.mul_add_div (by omega), Nat.div_eq_of_lt hb, Nat.add_zero]
theorem ones_sum (p0 p1 p2 p3 p4 p5 p6 p7 : Nat) (h0 : p0 ≤ 8) (h1 : p1 ≤ 8) (h2 : p2 ≤ 8) (h3 : p3 ≤ 8) (h4 : p4 ≤ 8) (h5 : p5 ≤ 8) (h6 : p6 ≤ 8) (h7 : p7 ≤ 8)
    (z z1 z2 z3 : Nat) (hz : z = 256 * (256 * (256 * (256 * (256 * (256 * (256 * (256 * 0 + p7) + p6) + p5) + p4) + p3) + p2) + p1) + p0)
    (hz1 : z1 = z + z / 256) (hz2 : z2 = z1 + z1 / 65536) (hz3 : z3 = z2 + z2 / 4294967296) :
    z < 18446744073709551616 ∧ z1 < 18446744073709551616 ∧ z2 < 18446744073709551616 ∧ z3 < 1441151880758558720 ∧ z3 % 128 = p0 + (p1 + (p2 + (p3 + (p4 + (p5 + (p6 + (p7 + 0))))))) := by
  have e1 := dv 256 (256 * (256 * (256 * (256 * (256 * (256 * p7 + p6) + p5) + p4) + p3) + p2) + p1) p0 z (by omega) (by omega)
  rw [e1] at hz1
  have e2 := dv 65536 (256 * (256 * (256 * (256 * (256 * p7 + (p6 + p7)) + (p5 + p6)) + (p4 + p5)) + (p3 + p4)) + (p2 + p3)) (256 * (p1 + p2) + (p0 + p1)) z1 (by omega) (by omega)
  rw [e2] at hz2
  have e3 := dv 4294967296 (256 * (256 * (256 * p7 + (p6 + p7)) + (p5 + p6 + p7)) + (p4 + p5 + p6 + p7)) (256 * (256 * (256 * (p3 + p4 + p5 + p6) + (p2 + p3 + p4 + p5)) + (p1 + p2 + p3 + p4)) + (p0 + p1 + p2 + p3)) z2 (by omega) (by omega)
  rw [e3] at hz3
  clear e1 e2 e3
  have b0 : z < 9 * 72057594037927936 := by omega
  have b1 : z1 < 18 * 72057594037927936 := by omega
  have b2 : z2 < 19 * 72057594037927936 := by omega
  have b3 : z3 < 20 * 72057594037927936 := by omega
  have e4 : z3 = 128 * (2 * (16777216 * (256 * (256 * (256 * p7 + (p6 + p7)) + (p5 + p6 + p7)) + (p4 + p5 + p6 + p7)) + (256 * (256 * (p3 + p4 + p5 + p6) + (p2 + p3 + p4 + p5)) + (p1 + p2 + p3 + p4)) + (256 * (256 * p7 + (p6 + p7)) + (p5 + p6 + p7)))) + (p0 + p1 + p2 + p3 + p4 + p5 + p6 + p7) := by omega
  have e5 : (p0 + p1 + p2 + p3 + p4 + p5 + p6 + p7) % 128 = p0 + (p1 + (p2 + (p3 + (p4 + (p5 + (p6 + (p7 + 0))))))) := by
    clear hz hz1 hz2 hz3 b0 b1 b2 b3 e4
    omega
  refine ⟨Nat.lt_of_lt_of_le b0 (by decide), Nat.lt_of_lt_of_le b1 (by decide), Nat.lt_of_lt_of_le b2 (by decide), Nat.lt_of_lt_of_le b3 (by decide), ?_⟩
  exact (congrArg (· % 128) e4).trans ((Nat.mul_add_mod _ _ _).trans e5)
theorem pop8k (k m x : Nat) (h : k = 8 + m) : pop k x = pop 8 (x % 256) + pop m (x / 256) := by subst h; exact pop8_step m x
theorem pop64_bytes (x : Nat) : pop 64 x = pop 8 (x % 256) + (pop 8 (x / 256 % 256) + (pop 8 (x / 256 / 256 % 256) + (pop 8 (x / 256 / 256 / 256 % 256) + (pop 8 (x / 256 / 256 / 256 / 256 % 256) + (pop 8 (x / 256 / 256 / 256 / 256 / 256 % 256) + (pop 8 (x / 256 / 256 / 256 / 256 / 256 / 256 % 256) + (pop 8 (x / 256 / 256 / 256 / 256 / 256 / 256 / 256 % 256) + 0))))))) := by
  have q7 : pop 8 (x / 256 / 256 / 256 / 256 / 256 / 256 / 256) = pop 8 (x / 256 / 256 / 256 / 256 / 256 / 256 / 256 % 256) + 0 := pop8k 8 0 _ rfl
  have q6 : pop 16 (x / 256 / 256 / 256 / 256 / 256 / 256) = pop 8 (x / 256 / 256 / 256 / 256 / 256 / 256 % 256) + (pop 8 (x / 256 / 256 / 256 / 256 / 256 / 256 / 256 % 256) + 0) := by
    refine (pop8k 16 8 _ rfl).trans ?_
    exact congrArg (pop 8 (x / 256 / 256 / 256 / 256 / 256 / 256 % 256) + ·) q7
  have q5 : pop 24 (x / 256 / 256 / 256 / 256 / 256) = pop 8 (x / 256 / 256 / 256 / 256 / 256 % 256) + (pop 8 (x / 256 / 256 / 256 / 256 / 256 / 256 % 256) + (pop 8 (x / 256 / 256 / 256 / 256 / 256 / 256 / 256 % 256) + 0)) := by
    refine (pop8k 24 16 _ rfl).trans ?_
    exact congrArg (pop 8 (x / 256 / 256 / 256 / 256 / 256 % 256) + ·) q6
  have q4 : pop 32 (x / 256 / 256 / 256 / 256) = pop 8 (x / 256 / 256 / 256 / 256 % 256) + (pop 8 (x / 256 / 256 / 256 / 256 / 256 % 256) + (pop 8 (x / 256 / 256 / 256 / 256 / 256 / 256 % 256) + (pop 8 (x / 256 / 256 / 256 / 256 / 256 / 256 / 256 % 256) + 0))) := by
    refine (pop8k 32 24 _ rfl).trans ?_
    exact congrArg (pop 8 (x / 256 / 256 / 256 / 256 % 256) + ·) q5
  have q3 : pop 40 (x / 256 / 256 / 256) = pop 8 (x / 256 / 256 / 256 % 256) + (pop 8 (x / 256 / 256 / 256 / 256 % 256) + (pop 8 (x / 256 / 256 / 256 / 256 / 256 % 256) + (pop 8 (x / 256 / 256 / 256 / 256 / 256 / 256 % 256) + (pop 8 (x / 256 / 256 / 256 / 256 / 256 / 256 / 256 % 256) + 0)))) := by
    refine (pop8k 40 32 _ rfl).trans ?_
    exact congrArg (pop 8 (x / 256 / 256 / 256 % 256) + ·) q4
  have q2 : pop 48 (x / 256 / 256) = pop 8 (x / 256 / 256 % 256) + (pop 8 (x / 256 / 256 / 256 % 256) + (pop 8 (x / 256 / 256 / 256 / 256 % 256) + (pop 8 (x / 256 / 256 / 256 / 256 / 256 % 256) + (pop 8 (x / 256 / 256 / 256 / 256 / 256 / 256 % 256) + (pop 8 (x / 256 / 256 / 256 / 256 / 256 / 256 / 256 % 256) + 0))))) := by
    refine (pop8k 48 40 _ rfl).trans ?_
    exact congrArg (pop 8 (x / 256 / 256 % 256) + ·) q3
  have q1 : pop 56 (x / 256) = pop 8 (x / 256 % 256) + (pop 8 (x / 256 / 256 % 256) + (pop 8 (x / 256 / 256 / 256 % 256) + (pop 8 (x / 256 / 256 / 256 / 256 % 256) + (pop 8 (x / 256 / 256 / 256 / 256 / 256 % 256) + (pop 8 (x / 256 / 256 / 256 / 256 / 256 / 256 % 256) + (pop 8 (x / 256 / 256 / 256 / 256 / 256 / 256 / 256 % 256) + 0)))))) := by
    refine (pop8k 56 48 _ rfl).trans ?_
    exact congrArg (pop 8 (x / 256 % 256) + ·) q2
  have q0 : pop 64 (x) = pop 8 (x % 256) + (pop 8 (x / 256 % 256) + (pop 8 (x / 256 / 256 % 256) + (pop 8 (x / 256 / 256 / 256 % 256) + (pop 8 (x / 256 / 256 / 256 / 256 % 256) + (pop 8 (x / 256 / 256 / 256 / 256 / 256 % 256) + (pop 8 (x / 256 / 256 / 256 / 256 / 256 / 256 % 256) + (pop 8 (x / 256 / 256 / 256 / 256 / 256 / 256 / 256 % 256) + 0))))))) := by
    refine (pop8k 64 56 _ rfl).trans ?_
    exact congrArg (pop 8 (x % 256) + ·) q1
  exact q0
theorem sums8_bytes (x : Nat) : sums 8 x = 256 * (256 * (256 * (256 * (256 * (256 * (256 * (256 * 0 + pop 8 (x / 256 / 256 / 256 / 256 / 256 / 256 / 256 % 256)) + pop 8 (x / 256 / 256 / 256 / 256 / 256 / 256 % 256)) + pop 8 (x / 256 / 256 / 256 / 256 / 256 % 256)) + pop 8 (x / 256 / 256 / 256 / 256 % 256)) + pop 8 (x / 256 / 256 / 256 % 256)) + pop 8 (x / 256 / 256 % 256)) + pop 8 (x / 256 % 256)) + pop 8 (x % 256) := by
  have q7 : sums 1 (x / 256 / 256 / 256 / 256 / 256 / 256 / 256) = 256 * 0 + pop 8 (x / 256 / 256 / 256 / 256 / 256 / 256 / 256 % 256) := by rw [sums_step 0, sums_zero]
  have q6 : sums 2 (x / 256 / 256 / 256 / 256 / 256 / 256) = 256 * (256 * 0 + pop 8 (x / 256 / 256 / 256 / 256 / 256 / 256 / 256 % 256)) + pop 8 (x / 256 / 256 / 256 / 256 / 256 / 256 % 256) := by rw [sums_step 1, q7]
  have q5 : sums 3 (x / 256 / 256 / 256 / 256 / 256) = 256 * (256 * (256 * 0 + pop 8 (x / 256 / 256 / 256 / 256 / 256 / 256 / 256 % 256)) + pop 8 (x / 256 / 256 / 256 / 256 / 256 / 256 % 256)) + pop 8 (x / 256 / 256 / 256 / 256 / 256 % 256) := by rw [sums_step 2, q6]
  have q4 : sums 4 (x / 256 / 256 / 256 / 256) = 256 * (256 * (256 * (256 * 0 + pop 8 (x / 256 / 256 / 256 / 256 / 256 / 256 / 256 % 256)) + pop 8 (x / 256 / 256 / 256 / 256 / 256 / 256 % 256)) + pop 8 (x / 256 / 256 / 256 / 256 / 256 % 256)) + pop 8 (x / 256 / 256 / 256 / 256 % 256) := by rw [sums_step 3, q5]
  have q3 : sums 5 (x / 256 / 256 / 256) = 256 * (256 * (256 * (256 * (256 * 0 + pop 8 (x / 256 / 256 / 256 / 256 / 256 / 256 / 256 % 256)) + pop 8 (x / 256 / 256 / 256 / 256 / 256 / 256 % 256)) + pop 8 (x / 256 / 256 / 256 / 256 / 256 % 256)) + pop 8 (x / 256 / 256 / 256 / 256 % 256)) + pop 8 (x / 256 / 256 / 256 % 256) := by rw [sums_step 4, q4]
  have q2 : sums 6 (x / 256 / 256) = 256 * (256 * (256 * (256 * (256 * (256 * 0 + pop 8 (x / 256 / 256 / 256 / 256 / 256 / 256 / 256 % 256)) + pop 8 (x / 256 / 256 / 256 / 256 / 256 / 256 % 256)) + pop 8 (x / 256 / 256 / 256 / 256 / 256 % 256)) + pop 8 (x / 256 / 256 / 256 / 256 % 256)) + pop 8 (x / 256 / 256 / 256 % 256)) + pop 8 (x / 256 / 256 % 256) := by rw [sums_step 5, q3]
  have q1 : sums 7 (x / 256) = 256 * (256 * (256 * (256 * (256 * (256 * (256 * 0 + pop 8 (x / 256 / 256 / 256 / 256 / 256 / 256 / 256 % 256)) + pop 8 (x / 256 / 256 / 256 / 256 / 256 / 256 % 256)) + pop 8 (x / 256 / 256 / 256 / 256 / 256 % 256)) + pop 8 (x / 256 / 256 / 256 / 256 % 256)) + pop 8 (x / 256 / 256 / 256 % 256)) + pop 8 (x / 256 / 256 % 256)) + pop 8 (x / 256 % 256) := by rw [sums_step 6, q2]
  have q0 : sums 8 (x) = 256 * (256 * (256 * (256 * (256 * (256 * (256 * (256 * 0 + pop 8 (x / 256 / 256 / 256 / 256 / 256 / 256 / 256 % 256)) + pop 8 (x / 256 / 256 / 256 / 256 / 256 / 256 % 256)) + pop 8 (x / 256 / 256 / 256 / 256 / 256 % 256)) + pop 8 (x / 256 / 256 / 256 / 256 % 256)) + pop 8 (x / 256 / 256 / 256 % 256)) + pop 8 (x / 256 / 256 % 256)) + pop 8 (x / 256 % 256)) + pop 8 (x % 256) := by rw [sums_step 7, q1]
  exact q0
/-- what is left of the sums of eight bytes, added as the program does -/
theorem ones_64 (x z z1 z2 z3 : Nat) (hz : z = sums 8 x) (hz1 : z1 = z + z / 256) (hz2 : z2 = z1 + z1 / 65536) (hz3 : z3 = z2 + z2 / 4294967296) :
    z < 18446744073709551616 ∧ z1 < 18446744073709551616 ∧ z2 < 18446744073709551616 ∧ z3 < 1441151880758558720 ∧ z3 % 128 = pop 64 x := by
  have e := pop64_bytes x
  rw [e]
  rw [sums8_bytes] at hz
  exact ones_sum (pop 8 (x % 256)) (pop 8 (x / 256 % 256)) (pop 8 (x / 256 / 256 % 256)) (pop 8 (x / 256 / 256 / 256 % 256)) (pop 8 (x / 256 / 256 / 256 / 256 % 256)) (pop 8 (x / 256 / 256 / 256 / 256 / 256 % 256)) (pop 8 (x / 256 / 256 / 256 / 256 / 256 / 256 % 256)) (pop 8 (x / 256 / 256 / 256 / 256 / 256 / 256 / 256 % 256)) (pop_le 8 _) (pop_le 8 _) (pop_le 8 _) (pop_le 8 _) (pop_le 8 _) (pop_le 8 _) (pop_le 8 _) (pop_le 8 _) z z1 z2 z3 hz hz1 hz2 hz3
/-! the lowest bit -/
theorem low_and (t q : Nat) (ht : t < 64) (h : 2 ^ t * (2 * q + 1) < 2 ^ 64) :
    (2 ^ t * (2 * q + 1)) &&& (2 ^ 64 - 2 ^ t * (2 * q + 1)) = 2 ^ t := by
  obtain ⟨m, hm⟩ : ∃ m, 64 = t + (m + 1) := ⟨63 - t, by omega⟩
  have hp : (2 : Nat) ^ 64 = 2 ^ t * (2 * 2 ^ m) := by rw [hm, Nat.pow_add, Nat.pow_succ, Nat.mul_comm (2 ^ m)]
  have hq : q < 2 ^ m := by
    rw [hp] at h
    have := Nat.lt_of_mul_lt_mul_left h
    omega
  have e : 2 ^ 64 - 2 ^ t * (2 * q + 1) = 2 ^ t * (2 * (2 ^ m - (q + 1)) + 1) := by
    rw [hp, ← Nat.mul_sub]; congr 1; omega
  rw [e]
  have hz : q &&& (2 ^ m - (q + 1)) = 0 := by
    apply Nat.eq_of_testBit_eq
    intro i
    rw [Nat.testBit_and, Nat.testBit_two_pow_sub_succ hq, Nat.zero_testBit]
    cases q.testBit i <;> simp
  have ho : (2 * q + 1) &&& (2 * (2 ^ m - (q + 1)) + 1) = 1 := by
    have h1 := Nat.and_div_two_pow (a := 2 * q + 1) (b := 2 * (2 ^ m - (q + 1)) + 1) (n := 1)
    have h2 := Nat.and_mod_two_pow (a := 2 * q + 1) (b := 2 * (2 ^ m - (q + 1)) + 1) (n := 1)
    rw [Nat.pow_one, show (2 * q + 1) / 2 = q from by omega, show (2 * (2 ^ m - (q + 1)) + 1) / 2 = 2 ^ m - (q + 1) from by omega, hz] at h1
    rw [Nat.pow_one, show (2 * q + 1) % 2 = 1 from by omega, show (2 * (2 ^ m - (q + 1)) + 1) % 2 = 1 from by omega] at h2
    have : (1 &&& 1 : Nat) = 1 := rfl
    omega
  have hs := Nat.shiftLeft_and_distrib (a := 2 * q + 1) (b := 2 * (2 ^ m - (q + 1)) + 1) (i := t)
  simp only [Nat.shiftLeft_eq] at hs
  rw [Nat.mul_comm (2 ^ t), Nat.mul_comm (2 ^ t), ← hs, ho, Nat.one_mul]
/-- how many bits behind the lowest one; 64 of 0 -/
def low : Nat → Nat → Nat
  | 0, _ => 0
  | k + 1, a => if a % 2 = 1 then 0 else low k (a / 2) + 1
theorem low_spec : ∀ k a, a < 2 ^ k → 0 < a → low k a < k ∧ ∃ q, a = 2 ^ low k a * (2 * q + 1)
  | 0, a, h, h0 => by simp at h; omega
  | k + 1, a, h, h0 => by
    unfold low
    split
    · exact ⟨by omega, a / 2, by simp; omega⟩
    · obtain ⟨h1, q, h2⟩ := low_spec k (a / 2) (by rw [Nat.pow_succ] at h; omega) (by omega)
      refine ⟨by omega, q, ?_⟩
      rw [Nat.pow_succ, Nat.mul_comm (2 ^ low k (a / 2)), Nat.mul_assoc, ← h2]
      omega
theorem low_zero : ∀ k, low k 0 = k
  | 0 => rfl
  | k + 1 => by simp [low, low_zero k]
theorem low_uniq (k t q : Nat) (h : 2 ^ t * (2 * q + 1) < 2 ^ k) : low k (2 ^ t * (2 * q + 1)) = t := by
  obtain ⟨h1, r, h2⟩ := low_spec k _ h (Nat.mul_pos (Nat.two_pow_pos _) (by omega))
  generalize low k (2 ^ t * (2 * q + 1)) = s at *
  rcases Nat.lt_trichotomy s t with g | g | g
  · obtain ⟨d, rfl⟩ : ∃ d, t = s + (d + 1) := ⟨t - s - 1, by omega⟩
    rw [Nat.pow_add, Nat.pow_succ, Nat.mul_assoc] at h2
    have := Nat.eq_of_mul_eq_mul_left (Nat.two_pow_pos s) h2
    rw [Nat.mul_comm (2 ^ d), Nat.mul_assoc] at this
    omega
  · exact g
  · obtain ⟨d, rfl⟩ : ∃ d, s = t + (d + 1) := ⟨s - t - 1, by omega⟩
    rw [Nat.pow_add, Nat.pow_succ, Nat.mul_assoc] at h2
    have := Nat.eq_of_mul_eq_mul_left (Nat.two_pow_pos t) h2
    rw [Nat.mul_comm (2 ^ d), Nat.mul_assoc] at this
    omega
end Wd
end Go.Proofs.YtmbnaejoiglckaaDoor
