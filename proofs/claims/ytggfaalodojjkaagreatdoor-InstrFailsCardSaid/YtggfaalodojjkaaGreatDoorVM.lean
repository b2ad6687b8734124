/-
  Words as numbers: what the ops, the tests and the traps of layer 5 are, and plain facts on them (no program here).
-/
namespace Go.Proofs.YtggfaalodojjkaaGreatDoor
set_option linter.unusedVariables false
namespace Wd
/-- a word cut to 32 bits, or as it is -/
def cut (n : Int) (a : Nat) : Nat := if n = 32 then a % 4294967296 else a
/-- a word as a number with a sign -/
def sgn (n : Int) (a : Nat) : Int :=
  if n = 32 then (if a % 4294967296 < 2147483648 then ((a % 4294967296 : Nat) : Int) else ((a % 4294967296 : Nat) : Int) - 4294967296)
  else (if a < 9223372036854775808 then (a : Int) else (a : Int) - 18446744073709551616)
def ok (n : Int) : Prop := n = 32 ∨ n = 64
def md (n : Int) : Nat := if n = 32 then 4294967296 else 18446744073709551616
theorem md_pow {n : Int} (h : ok n) : md n = 2 ^ n.toNat := by
  rcases h with rfl | rfl <;> rfl
theorem cut_lt {n : Int} {a : Nat} (h : ok n) (ha : a < 18446744073709551616) : cut n a < md n := by
  rcases h with rfl | rfl
  · simp [cut, md]; omega
  · simp [cut, md]; omega
theorem cut_mod {n : Int} {a : Nat} (h : ok n) (ha : a < 18446744073709551616) : cut n a = a % md n := by
  rcases h with rfl | rfl
  · simp [cut, md]
  · simp [cut, md]; omega
theorem cut_of_lt {n : Int} {a : Nat} (h : ok n) (ha : a < md n) : cut n a = a := by
  rcases h with rfl | rfl
  · simp [cut, md] at *; omega
  · simp [cut]
theorem sgn_of_lt {n : Int} {a : Nat} (h : ok n) (ha : a < md n) : sgn n a = if 2 * a < md n then (a : Int) else (a : Int) - md n := by
  rcases h with rfl | rfl
  · simp [sgn, md] at *
    rw [Nat.mod_eq_of_lt ha]
    split <;> split <;> omega
  · simp [sgn, md] at *
    split <;> split <;> omega
theorem sgn_emod {n : Int} {a : Nat} (h : ok n) (ha : a < md n) : sgn n a % (md n : Int) = a := by
  rw [sgn_of_lt h ha]
  split
  · exact Int.emod_eq_of_lt (by omega) (by omega)
  · have : ((a : Int) - md n) % (md n : Int) = (a : Int) % (md n : Int) := by simp
    rw [this]; exact Int.emod_eq_of_lt (by omega) (by omega)
def tst (op n : Int) (a b : Nat) : Bool :=
  if op = 0 then decide (a = b) else if op = 1 then decide (a ≠ b)
  else if op = 2 then decide (sgn n a < sgn n b) else if op = 3 then decide (a < b)
  else if op = 4 then decide (sgn n b < sgn n a) else if op = 5 then decide (b < a)
  else if op = 6 then decide (sgn n a ≤ sgn n b) else if op = 7 then decide (a ≤ b)
  else if op = 8 then decide (sgn n b ≤ sgn n a) else decide (b ≤ a)
def tz (op n : Int) (a b : Nat) : Nat := (tst op n (cut n a) (cut n b)).toNat
/-- 0: none; 2: divided by 0; 3: beyond -/
def trap (op n : Int) (a b : Nat) : Nat :=
  if op < 3 ∨ 6 < op then 0 else if b = 0 then 2
  else if op = 3 ∧ 2 * a = md n ∧ b + 1 = md n then 3 else 0
def bin (op n : Int) (a b : Nat) : Nat :=
  if op = 0 then (a + b) % md n
  else if op = 1 then (a + md n - b) % md n
  else if op = 2 then a * b % md n
  else if op = 3 then ((sgn n a).tdiv (sgn n b) % (md n : Int)).toNat
  else if op = 4 then a / b
  else if op = 5 then ((sgn n a).tmod (sgn n b) % (md n : Int)).toNat
  else if op = 6 then a % b
  else if op = 7 then a &&& b
  else if op = 8 then a ||| b
  else if op = 9 then a ^^^ b
  else if op = 10 then a * 2 ^ (b % n.toNat) % md n
  else if op = 11 then (sgn n a / 2 ^ (b % n.toNat) % (md n : Int)).toNat
  else if op = 12 then a / 2 ^ (b % n.toNat)
  else if op = 13 then a % 2 ^ (n.toNat - b % n.toNat) * 2 ^ (b % n.toNat) + a / 2 ^ (n.toNat - b % n.toNat)
  else a % 2 ^ (b % n.toNat) * 2 ^ (n.toNat - b % n.toNat) + a / 2 ^ (b % n.toNat)
/-- what a binary op answers: the word, the trap -/
def bz (op n : Int) (a b : Nat) : Nat := if trap op n (cut n a) (cut n b) = 0 then bin op n (cut n a) (cut n b) else 0
def tr (op n : Int) (a b : Nat) : Nat := trap op n (cut n a) (cut n b)
theorem sh_lt {n : Int} (h : ok n) (b : Nat) : b % n.toNat < n.toNat := Nat.mod_lt _ (by rcases h with rfl | rfl <;> decide)
theorem cut_mod_n {n : Int} {b : Nat} (h : ok n) : cut n b % n.toNat = b % n.toNat := by
  rcases h with rfl | rfl
  · simp [cut]
  · simp [cut]
theorem bin_lt {op n : Int} {a b : Nat} (h : ok n) (ha : a < md n) (hb : b < md n) : bin op n a b < md n := by
  have hm : 0 < md n := by omega
  have hz : ∀ x : Int, (x % (md n : Int)).toNat < md n := fun x => by
    have := Int.emod_lt_of_pos x (show (0 : Int) < md n by omega)
    have := Int.emod_nonneg x (show (md n : Int) ≠ 0 by omega)
    omega
  have hs := sh_lt h b
  have hmp := md_pow h
  have key : ∀ k m, k + m = n.toNat → a % 2 ^ m * 2 ^ k + a / 2 ^ m < md n := fun k m hkm => by
    have h1 : a % 2 ^ m < 2 ^ m := Nat.mod_lt _ (Nat.two_pow_pos _)
    have h2 : a / 2 ^ m < 2 ^ k := by
      rw [Nat.div_lt_iff_lt_mul (Nat.two_pow_pos _), ← Nat.pow_add, hkm, ← hmp]; exact ha
    have h3 : md n = 2 ^ m * 2 ^ k := by rw [hmp, ← hkm, Nat.pow_add, Nat.mul_comm]
    have h4 : (a % 2 ^ m + 1) * 2 ^ k ≤ 2 ^ m * 2 ^ k := Nat.mul_le_mul_right _ h1
    rw [Nat.succ_mul] at h4
    omega
  unfold bin
  by_cases e0 : op = 0
  · rw [if_pos e0]; exact Nat.mod_lt _ hm
  rw [if_neg e0]
  by_cases e1 : op = 1
  · rw [if_pos e1]; exact Nat.mod_lt _ hm
  rw [if_neg e1]
  by_cases e2 : op = 2
  · rw [if_pos e2]; exact Nat.mod_lt _ hm
  rw [if_neg e2]
  by_cases e3 : op = 3
  · rw [if_pos e3]; exact hz _
  rw [if_neg e3]
  by_cases e4 : op = 4
  · rw [if_pos e4]; exact Nat.lt_of_le_of_lt (Nat.div_le_self _ _) ha
  rw [if_neg e4]
  by_cases e5 : op = 5
  · rw [if_pos e5]; exact hz _
  rw [if_neg e5]
  by_cases e6 : op = 6
  · rw [if_pos e6]; exact Nat.lt_of_le_of_lt (Nat.mod_le _ _) ha
  rw [if_neg e6]
  by_cases e7 : op = 7
  · rw [if_pos e7]; rw [hmp] at ha hb ⊢; exact Nat.and_lt_two_pow _ hb
  rw [if_neg e7]
  by_cases e8 : op = 8
  · rw [if_pos e8]; rw [hmp] at ha hb ⊢; exact Nat.or_lt_two_pow ha hb
  rw [if_neg e8]
  by_cases e9 : op = 9
  · rw [if_pos e9]; rw [hmp] at ha hb ⊢; exact Nat.xor_lt_two_pow ha hb
  rw [if_neg e9]
  by_cases e10 : op = 10
  · rw [if_pos e10]; exact Nat.mod_lt _ hm
  rw [if_neg e10]
  by_cases e11 : op = 11
  · rw [if_pos e11]; exact hz _
  rw [if_neg e11]
  by_cases e12 : op = 12
  · rw [if_pos e12]; exact Nat.lt_of_le_of_lt (Nat.div_le_self _ _) ha
  rw [if_neg e12]
  by_cases e13 : op = 13
  · rw [if_pos e13]; exact key _ _ (by omega)
  rw [if_neg e13]
  exact key (n.toNat - b % n.toNat) (b % n.toNat) (by omega)
theorem bz_lt {op n : Int} {a b : Nat} (h : ok n) (ha : a < 18446744073709551616) (hb : b < 18446744073709551616) : bz op n a b < md n := by
  unfold bz
  split
  · exact bin_lt h (cut_lt h ha) (cut_lt h hb)
  · rcases h with rfl | rfl <;> decide
theorem md_le {n : Int} (h : ok n) : md n ≤ 18446744073709551616 := by rcases h with rfl | rfl <;> decide
/-! shifts -/
theorem shl_mul {n : Int} {a k : Nat} (h : ok n) (ha : a < 18446744073709551616) (hk : k < 18446744073709551616) :
    bz 10 n a k = bz 2 n a (2 ^ (k % n.toNat)) := by
  have h1 := sh_lt h k
  have h2 : 2 ^ (k % n.toNat) < md n := by rw [md_pow h]; exact Nat.pow_lt_pow_right (by decide) h1
  unfold bz trap bin
  simp [cut_of_lt h h2, cut_mod_n h]
theorem shr_div {n : Int} {a k : Nat} (h : ok n) (ha : a < 18446744073709551616) (hk : k < 18446744073709551616) :
    bz 12 n a k = bz 4 n a (2 ^ (k % n.toNat)) ∧ tr 4 n a (2 ^ (k % n.toNat)) = 0 := by
  have h1 := sh_lt h k
  have h2 : 2 ^ (k % n.toNat) < md n := by rw [md_pow h]; exact Nat.pow_lt_pow_right (by decide) h1
  have h3 : 2 ^ (k % n.toNat) ≠ 0 := by have := Nat.two_pow_pos (k % n.toNat); omega
  unfold bz tr trap bin
  simp [cut_of_lt h h2, cut_mod_n h]
/-! tests -/
theorem tst_lt {s : Bool} {n : Int} {a b : Nat} (h : ok n) (ha : a < 18446744073709551616) (hb : b < 18446744073709551616) :
    let op : Int := if s then 2 else 3
    tz op n a b + tz (op + 2) n a b + tz 0 n a b = 1 ∧ tz op n a b + tz (op + 6) n a b = 1 ∧
    tz (op + 2) n a b + tz (op + 4) n a b = 1 ∧ tz 0 n a b + tz 1 n a b = 1 ∧ tz op n b a = tz (op + 2) n a b := by
  have h1 := cut_lt h ha
  have h2 := cut_lt h hb
  have e1 := sgn_of_lt h h1
  have e2 := sgn_of_lt h h2
  obtain ⟨x, hx⟩ : ∃ x, x = cut n a := ⟨_, rfl⟩
  obtain ⟨y, hy⟩ : ∃ y, y = cut n b := ⟨_, rfl⟩
  unfold tz
  rw [← hx] at h1 e1
  rw [← hy] at h2 e2
  rw [← hx, ← hy]
  cases s
  · simp [tst]
    refine ⟨?_, ?_, ?_, ?_⟩
    all_goals
      by_cases c1 : x < y <;> by_cases c2 : y < x <;> by_cases c3 : x = y <;> by_cases c4 : y ≤ x <;> by_cases c5 : x ≤ y <;> simp [c1, c2, c3, c4, c5] <;> omega
  · simp [tst]
    have hxy : x = y ↔ sgn n x = sgn n y := by
      rw [e1, e2]
      split <;> split <;> omega
    simp only [hxy]
    generalize sgn n x = s at *
    generalize sgn n y = t at *
    refine ⟨?_, ?_, ?_, ?_⟩
    all_goals
      by_cases c1 : s < t <;> by_cases c2 : t < s <;> by_cases c3 : s = t <;> by_cases c4 : t ≤ s <;> by_cases c5 : s ≤ t <;> simp [c1, c2, c3, c4, c5] <;> omega
theorem tz_le (op n : Int) (a b : Nat) : tz op n a b ≤ 1 := by unfold tz; cases tst op n (cut n a) (cut n b) <;> simp
/-! division -/
theorem div_back {n : Int} {x y : Nat} (h : ok n) (hx : x < md n) (hy : y < md n) :
    ((((sgn n x).tdiv (sgn n y) % (md n : Int)).toNat * y % md n + ((sgn n x).tmod (sgn n y) % (md n : Int)).toNat) % md n = x) := by
  have hm : (md n : Int) ≠ 0 := by omega
  have q0 := Int.emod_nonneg ((sgn n x).tdiv (sgn n y)) hm
  have r0 := Int.emod_nonneg ((sgn n x).tmod (sgn n y)) hm
  have e1 := sgn_emod h hx
  have e2 := sgn_emod h hy
  have key : ((((sgn n x).tdiv (sgn n y) % (md n : Int)) * y % md n + ((sgn n x).tmod (sgn n y) % (md n : Int))) % md n = (x : Int)) := by
    have e3 := Int.tdiv_mul_add_tmod (sgn n x) (sgn n y)
    rw [← Int.add_emod, ]
    rw [Int.add_emod, Int.mul_emod, Int.emod_emod_of_dvd _ (Int.dvd_refl _), ← e2, Int.emod_emod_of_dvd _ (Int.dvd_refl _), ← Int.mul_emod, ← Int.add_emod, e3, e1]
  apply Int.ofNat_inj.1
  simp only [Int.natCast_emod, Int.natCast_add, Int.natCast_mul, Int.toNat_of_nonneg q0, Int.toNat_of_nonneg r0]
  exact key
theorem div_law {s : Bool} {n : Int} {a b : Nat} (h : ok n) (ha : a < 18446744073709551616) (hb : b < 18446744073709551616) :
    let op : Int := if s then 3 else 4
    (cut n b = 0 ∧ tr op n a b = 2 ∧ tr (op + 2) n a b = 2) ∨
    (cut n b ≠ 0 ∧ tr op n a b = 3 ∧ tr (op + 2) n a b = 0 ∧ bz (op + 2) n a b = 0 ∧ sgn n b = -1) ∨
    (cut n b ≠ 0 ∧ tr op n a b = 0 ∧ tr (op + 2) n a b = 0 ∧ bz 0 n (bz 2 n (bz op n a b) b) (bz (op + 2) n a b) = cut n a) := by
  have h1 := cut_lt h ha
  have h2 := cut_lt h hb
  have hcs : sgn n b = sgn n (cut n b) := by
    rcases h with rfl | rfl
    · simp [sgn, cut]
    · simp [sgn, cut]
  have cc : ∀ op a b, a < 18446744073709551616 → b < 18446744073709551616 → cut n (bz op n a b) = bz op n a b := fun op a b ha hb => cut_of_lt h (bz_lt h ha hb)
  have lt64 : ∀ op a b, a < 18446744073709551616 → b < 18446744073709551616 → bz op n a b < 18446744073709551616 := fun op a b ha hb => Nat.lt_of_lt_of_le (bz_lt h ha hb) (md_le h)
  intro op
  by_cases hb0 : cut n b = 0
  · refine .inl ⟨hb0, ?_, ?_⟩ <;> cases s <;> simp [op, tr, trap, hb0]
  · refine .inr ?_
    have ht : tr (op + 2) n a b = 0 := by cases s <;> simp [op, tr, trap, hb0]
    have hmul : ∀ x y, bz 2 n x y = cut n x * cut n y % md n := fun x y => by simp [bz, trap, bin]
    have hadd : ∀ x y, bz 0 n x y = (cut n x + cut n y) % md n := fun x y => by simp [bz, trap, bin]
    by_cases ho : tr op n a b = 3
    · refine .inl ⟨hb0, ho, ht, ?_⟩
      cases s
      · simp [op, tr, trap, hb0] at ho
      · simp [op, tr, trap, hb0] at ho
        obtain ⟨o1, o2⟩ := ho
        have e2 : sgn n (cut n b) = -1 := by
          rw [sgn_of_lt h h2, if_neg (by rcases h with rfl | rfl <;> simp [md] at * <;> omega)]; omega
        refine ⟨?_, by rw [hcs, e2]⟩
        simp [op, bz, trap, bin, hb0, e2]
    · have ho2 : tr op n a b = 0 := by
        revert ho
        cases s
        · simp [op, tr, trap, hb0]
        · simp only [op, tr, trap, hb0]
          simp
      refine .inr ⟨hb0, ho2, ht, ?_⟩
      rw [hadd, cc _ _ _ (lt64 _ _ _ ha hb) hb, cc _ _ _ ha hb, hmul, cc _ _ _ ha hb]
      have q1 : bz op n a b = bin op n (cut n a) (cut n b) := if_pos ho2
      have q2 : bz (op + 2) n a b = bin (op + 2) n (cut n a) (cut n b) := if_pos ht
      rw [q1, q2]
      cases s
      · simp [op, bin]
        have := Nat.div_add_mod (cut n a) (cut n b)
        rw [Nat.mul_comm] at this
        rw [this, Nat.mod_eq_of_lt h1]
      · simp only [op, bin]
        simp
        have := div_back h h1 h2
        simp at this
        exact this
end Wd
end Go.Proofs.YtggfaalodojjkaaGreatDoor
