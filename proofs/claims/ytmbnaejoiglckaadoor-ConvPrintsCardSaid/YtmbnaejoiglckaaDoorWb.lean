/-
  word.shift, divide, binary: what they answer, of words of 32 and of 64 bits, cut.
-/
import Derived.Test.YtmbnaejoiglckaaDoorWa
namespace Go.Proofs.YtmbnaejoiglckaaDoor
open Go.RowKit
set_option linter.unusedVariables false
/-- what comes of a word, not cut yet -/
def Rw (op n : Int) (a b : Nat) (e : Ending) : Prop := ∃ r : Nat, r < 18446744073709551616 ∧ Wd.cut n r = Wd.bin op n a b ∧ e = .returned (.int .u64 (r : Int))
theorem Rw.mk_ {op n : Int} {a b : Nat} {x : Int} (r : Nat) (h1 : r < 18446744073709551616) (h2 : Wd.cut n r = Wd.bin op n a b) (h3 : x = (r : Int)) : Rw op n a b (.returned (.int .u64 x)) :=
  ⟨r, h1, h2, by rw [h3]⟩
theorem wrap_nat (a p : Nat) : IntKind.u64.wrap ((a : Int) * 2 ^ p) = ((a * 2 ^ p % 18446744073709551616 : Nat) : Int) := by
  rw [IntKind.wrap_u64]
  simp
theorem div_nat (a p : Nat) : (a : Int) / 2 ^ p = ((a / 2 ^ p : Nat) : Int) := by simp
theorem or_nat (a b : Nat) (ha : a < 18446744073709551616) (hb : b < 18446744073709551616) : bits BinOp.or IntKind.u64 (a : Int) (b : Int) = ((a ||| b : Nat) : Int) := u64_or_nat a b ha hb
theorem or_lt64 {a b : Nat} (ha : a < 18446744073709551616) (hb : b < 18446744073709551616) : a ||| b < 18446744073709551616 := Nat.or_lt_two_pow (n := 64) ha hb
/-- two parts of a word that don't meet -/
theorem turn_or (N k m a : Nat) (hN : N = 2 ^ (k + m)) (ha : a < N) : (a * 2 ^ k ||| a / 2 ^ m) % N = a % 2 ^ m * 2 ^ k + a / 2 ^ m := by
  subst hN
  have h2 : a / 2 ^ m < 2 ^ k := by rw [Nat.div_lt_iff_lt_mul (Nat.two_pow_pos _), ← Nat.pow_add]; exact ha
  rw [Nat.or_mod_two_pow]
  have e1 : a * 2 ^ k % 2 ^ (k + m) = 2 ^ k * (a % 2 ^ m) := by
    rw [Nat.pow_add, Nat.mul_comm a, Nat.mul_mod_mul_left]
  have e2 : a / 2 ^ m % 2 ^ (k + m) = a / 2 ^ m := Nat.mod_eq_of_lt (Nat.lt_of_le_of_lt (Nat.div_le_self _ _) ha)
  rw [e1, e2, ← Nat.two_pow_add_eq_or_of_lt h2, Nat.mul_comm]
theorem mod64_or (a x y : Nat) : (x % 18446744073709551616 ||| y) % 4294967296 = (x ||| y) % 4294967296 := by
  have h := Nat.or_mod_two_pow (a := x % 18446744073709551616) (b := y) (n := 32)
  have h' := Nat.or_mod_two_pow (a := x) (b := y) (n := 32)
  rw [show (2 : Nat) ^ 32 = 4294967296 from rfl] at h h'
  rw [h, h', Nat.mod_mod_of_dvd _ (by decide)]
theorem mod64_or64 (x y : Nat) (hy : y < 18446744073709551616) : (x % 18446744073709551616 ||| y) = (x ||| y) % 18446744073709551616 := by
  have h' := Nat.or_mod_two_pow (a := x) (b := y) (n := 64)
  rw [show (2 : Nat) ^ 64 = 18446744073709551616 from rfl, Nat.mod_eq_of_lt hy] at h'
  exact h'.symm
theorem or_swap (a b : Nat) : a ||| b = b ||| a := Nat.or_comm a b
theorem div_le64 {a p : Nat} (h : a < 18446744073709551616) : a / 2 ^ p < 18446744073709551616 := Nat.lt_of_le_of_lt (Nat.div_le_self _ _) h
theorem shl_32 (a b : Nat) (ha : a < 4294967296) : Wd.cut 32 (a * 2 ^ (b % 32) % 18446744073709551616) = Wd.bin 10 32 a b := by
  simp only [Wd.cut, Wd.bin, Wd.md]
  simp [Nat.mod_mod_of_dvd]
theorem shl_64 (a b : Nat) (ha : a < 18446744073709551616) : Wd.cut 64 (a * 2 ^ (b % 64) % 18446744073709551616) = Wd.bin 10 64 a b := by
  simp [Wd.cut, Wd.bin, Wd.md]
theorem shr_32 (a b : Nat) (ha : a < 4294967296) : Wd.cut 32 (a / 2 ^ (b % 32)) = Wd.bin 12 32 a b := by
  simp only [Wd.cut, Wd.bin]
  simp
  exact Nat.lt_of_le_of_lt (Nat.div_le_self _ _) ha
theorem shr_64 (a b : Nat) (ha : a < 18446744073709551616) : Wd.cut 64 (a / 2 ^ (b % 64)) = Wd.bin 12 64 a b := by
  simp [Wd.cut, Wd.bin]
theorem rotl_32 (a b : Nat) (ha : a < 4294967296) : Wd.cut 32 (a * 2 ^ (b % 32) % 18446744073709551616 ||| a / 2 ^ (32 - b % 32)) = Wd.bin 13 32 a b := by
  have hb : b % 32 < 32 := Nat.mod_lt _ (by decide)
  have h := turn_or 4294967296 (b % 32) (32 - b % 32) a (by rw [show b % 32 + (32 - b % 32) = 32 from by omega]) ha
  simp only [Wd.cut, Wd.bin]
  simp only [mod64_or a]
  simpa using h
theorem rotl_64 (a b : Nat) (ha : a < 18446744073709551616) : Wd.cut 64 (a * 2 ^ (b % 64) % 18446744073709551616 ||| a / 2 ^ (64 - b % 64)) = Wd.bin 13 64 a b := by
  have hb : b % 64 < 64 := Nat.mod_lt _ (by decide)
  have h := turn_or 18446744073709551616 (b % 64) (64 - b % 64) a (by rw [show b % 64 + (64 - b % 64) = 64 from by omega]) ha
  simp only [Wd.cut, Wd.bin]
  rw [mod64_or64 _ _ (div_le64 ha)]
  simpa using h
theorem rotr_32 (a b : Nat) (ha : a < 4294967296) : Wd.cut 32 (a / 2 ^ (b % 32) ||| a * 2 ^ (32 - b % 32) % 18446744073709551616) = Wd.bin 14 32 a b := by
  have hb : b % 32 < 32 := Nat.mod_lt _ (by decide)
  have h := turn_or 4294967296 (32 - b % 32) (b % 32) a (by rw [show 32 - b % 32 + b % 32 = 32 from by omega]) ha
  rw [or_swap]
  simp only [Wd.cut, Wd.bin]
  simp only [mod64_or a]
  simpa using h
theorem rotr_64 (a b : Nat) (ha : a < 18446744073709551616) : Wd.cut 64 (a / 2 ^ (b % 64) ||| a * 2 ^ (64 - b % 64) % 18446744073709551616) = Wd.bin 14 64 a b := by
  have hb : b % 64 < 64 := Nat.mod_lt _ (by decide)
  have h := turn_or 18446744073709551616 (64 - b % 64) (b % 64) a (by rw [show 64 - b % 64 + b % 64 = 64 from by omega]) ha
  rw [or_swap]
  simp only [Wd.cut, Wd.bin]
  rw [mod64_or64 _ _ (div_le64 ha)]
  simpa using h
theorem low32 (y : Int) : (y % 18446744073709551616).toNat % 4294967296 = (y % 4294967296).toNat := by omega
theorem sar_32 (a b : Nat) : Wd.cut 32 ((Wd.sgn 32 a / 2 ^ (b % 32) % 18446744073709551616).toNat) = Wd.bin 11 32 a b := by
  simp only [Wd.cut, Wd.bin, Wd.md]
  have := low32 (Wd.sgn 32 a / 2 ^ (b % 32))
  simpa using this
theorem sar_64 (a b : Nat) : Wd.cut 64 ((Wd.sgn 64 a / 2 ^ (b % 64) % 18446744073709551616).toNat) = Wd.bin 11 64 a b := by
  simp [Wd.cut, Wd.bin, Wd.md]
theorem mod_nat (y : Int) : y % 18446744073709551616 = (((y % 18446744073709551616).toNat : Nat) : Int) ∧ (y % 18446744073709551616).toNat < 18446744073709551616 := by omega
set_option maxHeartbeats 400000 in
theorem shift_32 (op : Int) (a b : Nat) (w : World) (ho : op = 10 ∨ op = 11 ∨ op = 12 ∨ op = 13 ∨ op = 14) (ha : a < 4294967296) (hb : b < 4294967296) :
    Calls Tryd.prog 54 #[.int .i64 op, .int .i64 32, .int .u64 a, .int .u64 b] w fun e w' => Rw op 32 a b e ∧ w = w' := by
  have F1 := sgn_fit 32 a (by omega)
  have S1 := Lib.hid (Sign_any 32 a w (by omega))
  have e1 := wrap_nat a (b % 32)
  have e2 := wrap_nat a (32 - b % 32)
  have e3 := div_nat a (b % 32)
  have e4 := div_nat a (32 - b % 32)
  have E := Lib.hid (And.intro e1 (And.intro e2 (And.intro e3 e4)))
  obtain ⟨x, hx⟩ : ∃ x, x = Wd.sgn 32 a := ⟨_, rfl⟩
  rw [← hx] at F1 S1
  have HX := Lib.hid hx
  clear hx e1 e2 e3 e4
  rcases ho with rfl | rfl | rfl | rfl | rfl
  all_goals
    go_enter Tryd.func54, Tryd.ntmps54
    go_wp2_with (go_at_call 13; refine S1.out.mono ?_; rintro e w1 ⟨rfl, rfl⟩)
    go_ret
    refine ⟨?_, rfl⟩
  · exact Rw.mk_ _ (Nat.mod_lt _ (by decide)) (shl_32 a b ha) E.out.1
  · exact Rw.mk_ _ (mod_nat _).2 (sar_32 a b) (by rw [HX.out, IntKind.wrap_u64]; exact (mod_nat _).1)
  · exact Rw.mk_ _ (div_le64 (by omega)) (shr_32 a b ha) E.out.2.2.1
  · exact Rw.mk_ _ (or_lt64 (Nat.mod_lt _ (by decide)) (div_le64 (by omega))) (rotl_32 a b ha) (by rw [E.out.1, E.out.2.2.2, or_nat _ _ (Nat.mod_lt _ (by decide)) (div_le64 (by omega))])
  · exact Rw.mk_ _ (or_lt64 (div_le64 (by omega)) (Nat.mod_lt _ (by decide))) (rotr_32 a b ha) (by rw [E.out.2.1, E.out.2.2.1, or_nat _ _ (div_le64 (by omega)) (Nat.mod_lt _ (by decide))])
set_option maxHeartbeats 400000 in
theorem shift_64 (op : Int) (a b : Nat) (w : World) (ho : op = 10 ∨ op = 11 ∨ op = 12 ∨ op = 13 ∨ op = 14) (ha : a < 18446744073709551616) (hb : b < 18446744073709551616) :
    Calls Tryd.prog 54 #[.int .i64 op, .int .i64 64, .int .u64 a, .int .u64 b] w fun e w' => Rw op 64 a b e ∧ w = w' := by
  have F1 := sgn_fit 64 a (by omega)
  have S1 := Lib.hid (Sign_any 64 a w (by omega))
  have e1 := wrap_nat a (b % 64)
  have e2 := wrap_nat a (64 - b % 64)
  have e3 := div_nat a (b % 64)
  have e4 := div_nat a (64 - b % 64)
  have E := Lib.hid (And.intro e1 (And.intro e2 (And.intro e3 e4)))
  obtain ⟨x, hx⟩ : ∃ x, x = Wd.sgn 64 a := ⟨_, rfl⟩
  rw [← hx] at F1 S1
  have HX := Lib.hid hx
  clear hx e1 e2 e3 e4
  rcases ho with rfl | rfl | rfl | rfl | rfl
  all_goals
    go_enter Tryd.func54, Tryd.ntmps54
    go_wp2_with (go_at_call 13; refine S1.out.mono ?_; rintro e w1 ⟨rfl, rfl⟩)
    go_ret
    refine ⟨?_, rfl⟩
  · exact Rw.mk_ _ (Nat.mod_lt _ (by decide)) (shl_64 a b ha) E.out.1
  · exact Rw.mk_ _ (mod_nat _).2 (sar_64 a b) (by rw [HX.out, IntKind.wrap_u64]; exact (mod_nat _).1)
  · exact Rw.mk_ _ (div_le64 (by omega)) (shr_64 a b ha) E.out.2.2.1
  · exact Rw.mk_ _ (or_lt64 (Nat.mod_lt _ (by decide)) (div_le64 (by omega))) (rotl_64 a b ha) (by rw [E.out.1, E.out.2.2.2, or_nat _ _ (Nat.mod_lt _ (by decide)) (div_le64 (by omega))])
  · exact Rw.mk_ _ (or_lt64 (div_le64 (by omega)) (Nat.mod_lt _ (by decide))) (rotr_64 a b ha) (by rw [E.out.2.1, E.out.2.2.1, or_nat _ _ (div_le64 (by omega)) (Nat.mod_lt _ (by decide))])
theorem val_mod (q : Int) : IntKind.u64.wrap (wrap64 q) = (((q % 18446744073709551616).toNat : Nat) : Int) := by
  rw [IntKind.wrap_u64]; unfold wrap64; omega
theorem div_mod (a b : Nat) (h : a < 18446744073709551616) : ((a : Int) / (b : Int)) % 18446744073709551616 = ((a / b : Nat) : Int) := by
  have e : (a : Int) / (b : Int) = ((a / b : Nat) : Int) := by simp
  have h2 := Nat.lt_of_le_of_lt (Nat.div_le_self a b) h
  rw [e]
  generalize a / b = q at *
  omega
theorem quo_32 (a b : Nat) : Wd.cut 32 (((Wd.sgn 32 a).tdiv (Wd.sgn 32 b) % 18446744073709551616).toNat) = Wd.bin 3 32 a b := by
  simp only [Wd.cut, Wd.bin, Wd.md]
  have := low32 ((Wd.sgn 32 a).tdiv (Wd.sgn 32 b))
  simpa using this
theorem rem_32 (a b : Nat) : Wd.cut 32 (((Wd.sgn 32 a).tmod (Wd.sgn 32 b) % 18446744073709551616).toNat) = Wd.bin 5 32 a b := by
  simp only [Wd.cut, Wd.bin, Wd.md]
  have := low32 ((Wd.sgn 32 a).tmod (Wd.sgn 32 b))
  simpa using this
theorem quo_64 (a b : Nat) : Wd.cut 64 (((Wd.sgn 64 a).tdiv (Wd.sgn 64 b) % 18446744073709551616).toNat) = Wd.bin 3 64 a b := by
  simp [Wd.cut, Wd.bin, Wd.md]
theorem rem_64 (a b : Nat) : Wd.cut 64 (((Wd.sgn 64 a).tmod (Wd.sgn 64 b) % 18446744073709551616).toNat) = Wd.bin 5 64 a b := by
  simp [Wd.cut, Wd.bin, Wd.md]
theorem divu_32 (a b : Nat) (h : a < 4294967296) : Wd.cut 32 (a / b) = Wd.bin 4 32 a b := by
  have := Nat.div_le_self a b
  simp [Wd.cut, Wd.bin]; omega
theorem divu_64 (a b : Nat) (h : a < 18446744073709551616) : Wd.cut 64 (a / b) = Wd.bin 4 64 a b := by simp [Wd.cut, Wd.bin]
theorem remu_32 (a b : Nat) (h : a < 4294967296) : Wd.cut 32 (a % b) = Wd.bin 6 32 a b := by
  have := Nat.mod_le a b
  simp [Wd.cut, Wd.bin]; omega
theorem remu_64 (a b : Nat) (h : a < 18446744073709551616) : Wd.cut 64 (a % b) = Wd.bin 6 64 a b := by simp [Wd.cut, Wd.bin]
set_option maxHeartbeats 400000 in
theorem divide_32 (op : Int) (a b : Nat) (w : World) (ho : op = 3 ∨ op = 4 ∨ op = 5 ∨ op = 6) (ha : a < 4294967296) (hb : b < 4294967296) (hz : b ≠ 0) :
    Calls Tryd.prog 53 #[.int .i64 op, .int .i64 32, .int .u64 a, .int .u64 b] w fun e w' => Rw op 32 a b e ∧ w = w' := by
  have F1 := sgn_fit 32 a (by omega)
  have F2 := sgn_fit 32 b (by omega)
  have S1 := Lib.hid (Sign_any 32 a w (by omega))
  have S2 := Lib.hid (Sign_any 32 b w (by omega))
  have hy0 : Wd.sgn 32 b ≠ 0 := by unfold Wd.sgn; rw [if_pos rfl]; split <;> omega
  obtain ⟨x, hx⟩ : ∃ x, x = Wd.sgn 32 a := ⟨_, rfl⟩
  obtain ⟨y, hy⟩ : ∃ y, y = Wd.sgn 32 b := ⟨_, rfl⟩
  rw [← hx] at F1 S1
  rw [← hy] at F2 S2 hy0
  have HX := Lib.hid hx
  have HY := Lib.hid hy
  clear hx hy
  rcases ho with rfl | rfl | rfl | rfl
  all_goals
    go_enter Tryd.func53, Tryd.ntmps53
    go_wp2_with (go_at_call 13; refine (Sign_any 32 _ _ (by omega)).mono ?_; (first | rw [← HX.out] | rw [← HY.out]); rintro e w1 ⟨rfl, rfl⟩)
    go_ret
    refine ⟨?_, rfl⟩
  · exact Rw.mk_ _ (mod_nat _).2 (quo_32 a b) (by rw [HX.out, HY.out]; exact val_mod _)
  · exact Rw.mk_ _ (Nat.lt_of_le_of_lt (Nat.div_le_self a b) (by omega)) (divu_32 a b ha) (by rw [IntKind.wrap_u64]; exact div_mod a b (by omega))
  · exact Rw.mk_ _ (mod_nat _).2 (rem_32 a b) (by rw [HX.out, HY.out, IntKind.wrap_u64]; exact (mod_nat _).1)
  · exact Rw.mk_ _ (Nat.lt_of_le_of_lt (Nat.mod_le a b) (by omega)) (remu_32 a b ha) (by simp)
set_option maxHeartbeats 400000 in
theorem divide_64 (op : Int) (a b : Nat) (w : World) (ho : op = 3 ∨ op = 4 ∨ op = 5 ∨ op = 6) (ha : a < 18446744073709551616) (hb : b < 18446744073709551616) (hz : b ≠ 0) :
    Calls Tryd.prog 53 #[.int .i64 op, .int .i64 64, .int .u64 a, .int .u64 b] w fun e w' => Rw op 64 a b e ∧ w = w' := by
  have F1 := sgn_fit 64 a (by omega)
  have F2 := sgn_fit 64 b (by omega)
  have S1 := Lib.hid (Sign_any 64 a w (by omega))
  have S2 := Lib.hid (Sign_any 64 b w (by omega))
  have hy0 : Wd.sgn 64 b ≠ 0 := by unfold Wd.sgn; rw [if_neg (by decide)]; split <;> omega
  obtain ⟨x, hx⟩ : ∃ x, x = Wd.sgn 64 a := ⟨_, rfl⟩
  obtain ⟨y, hy⟩ : ∃ y, y = Wd.sgn 64 b := ⟨_, rfl⟩
  rw [← hx] at F1 S1
  rw [← hy] at F2 S2 hy0
  have HX := Lib.hid hx
  have HY := Lib.hid hy
  clear hx hy
  rcases ho with rfl | rfl | rfl | rfl
  all_goals
    go_enter Tryd.func53, Tryd.ntmps53
    go_wp2_with (go_at_call 13; refine (Sign_any 64 _ _ (by omega)).mono ?_; (first | rw [← HX.out] | rw [← HY.out]); rintro e w1 ⟨rfl, rfl⟩)
    go_ret
    refine ⟨?_, rfl⟩
  · exact Rw.mk_ _ (mod_nat _).2 (quo_64 a b) (by rw [HX.out, HY.out]; exact val_mod _)
  · exact Rw.mk_ _ (Nat.lt_of_le_of_lt (Nat.div_le_self a b) (by omega)) (divu_64 a b ha) (by rw [IntKind.wrap_u64]; exact div_mod a b (by omega))
  · exact Rw.mk_ _ (mod_nat _).2 (rem_64 a b) (by rw [HX.out, HY.out, IntKind.wrap_u64]; exact (mod_nat _).1)
  · exact Rw.mk_ _ (Nat.lt_of_le_of_lt (Nat.mod_le a b) (by omega)) (remu_64 a b ha) (by simp)
theorem add_32 (a b : Nat) : Wd.cut 32 (a + b) = Wd.bin 0 32 a b := by simp [Wd.cut, Wd.bin, Wd.md]
theorem add_64 (a b : Nat) : Wd.cut 64 ((a + b) % 18446744073709551616) = Wd.bin 0 64 a b := by simp [Wd.cut, Wd.bin, Wd.md]
theorem sub_32 (a b : Nat) (ha : a < 4294967296) (hb : b < 4294967296) : Wd.cut 32 (((a : Int) - b) % 18446744073709551616).toNat = Wd.bin 1 32 a b := by
  simp [Wd.cut, Wd.bin, Wd.md]; omega
theorem sub_64 (a b : Nat) (ha : a < 18446744073709551616) (hb : b < 18446744073709551616) : Wd.cut 64 (((a : Int) - b) % 18446744073709551616).toNat = Wd.bin 1 64 a b := by
  simp [Wd.cut, Wd.bin, Wd.md]; omega
theorem mul_32 (a b : Nat) : Wd.cut 32 (a * b % 18446744073709551616) = Wd.bin 2 32 a b := by
  simp only [Wd.cut, Wd.bin, Wd.md]
  simp [Nat.mod_mod_of_dvd]
theorem mul_64 (a b : Nat) : Wd.cut 64 (a * b % 18446744073709551616) = Wd.bin 2 64 a b := by simp [Wd.cut, Wd.bin, Wd.md]
theorem wrap_mul (a b : Nat) : IntKind.u64.wrap ((a : Int) * b) = ((a * b % 18446744073709551616 : Nat) : Int) := by rw [IntKind.wrap_u64]; simp
theorem wrap_add (a b : Nat) : IntKind.u64.wrap ((a : Int) + b) = (((a + b) % 18446744073709551616 : Nat) : Int) := by rw [IntKind.wrap_u64]; simp
theorem lt_and (n : Int) (h : Wd.ok n) (a b : Nat) (hb : b < Wd.md n) : a &&& b < Wd.md n := by rw [Wd.md_pow h] at *; exact Nat.and_lt_two_pow _ hb
theorem lt_or (n : Int) (h : Wd.ok n) (a b : Nat) (ha : a < Wd.md n) (hb : b < Wd.md n) : a ||| b < Wd.md n := by rw [Wd.md_pow h] at *; exact Nat.or_lt_two_pow ha hb
theorem lt_xor (n : Int) (h : Wd.ok n) (a b : Nat) (ha : a < Wd.md n) (hb : b < Wd.md n) : a ^^^ b < Wd.md n := by rw [Wd.md_pow h] at *; exact Nat.xor_lt_two_pow ha hb
theorem and_64 (a b : Nat) (ha : a < 18446744073709551616) (hb : b < 18446744073709551616) : bits BinOp.and IntKind.u64 (a : Int) (b : Int) = ((a &&& b : Nat) : Int) := u64_and_nat a b ha hb
theorem xor_64 (a b : Nat) (ha : a < 18446744073709551616) (hb : b < 18446744073709551616) : bits BinOp.xor IntKind.u64 (a : Int) (b : Int) = ((a ^^^ b : Nat) : Int) := u64_xor_nat a b ha hb
/-- three ops bit by bit, of words that are cut -/
theorem mix_any (n : Int) (h : Wd.ok n) (a b : Nat) (ha : a < Wd.md n) (hb : b < Wd.md n) :
    Rw 7 n a b (.returned (.int .u64 (bits BinOp.and IntKind.u64 (a : Int) (b : Int)))) ∧ Rw 8 n a b (.returned (.int .u64 (bits BinOp.or IntKind.u64 (a : Int) (b : Int)))) ∧ Rw 9 n a b (.returned (.int .u64 (bits BinOp.xor IntKind.u64 (a : Int) (b : Int)))) := by
  have hm := Wd.md_le h
  have h1 := lt_and n h a b hb
  have h2 := lt_or n h a b ha hb
  have h3 := lt_xor n h a b ha hb
  refine ⟨Rw.mk_ _ (by omega) ?_ (and_64 a b (by omega) (by omega)), Rw.mk_ _ (by omega) ?_ (or_nat a b (by omega) (by omega)), Rw.mk_ _ (by omega) ?_ (xor_64 a b (by omega) (by omega))⟩
  · rw [Wd.cut_of_lt h h1]; simp [Wd.bin]
  · rw [Wd.cut_of_lt h h2]; simp [Wd.bin]
  · rw [Wd.cut_of_lt h h3]; simp [Wd.bin]
set_option maxHeartbeats 1000000 in
theorem binary_32 (op : Int) (a b : Nat) (w : World) (h0 : 0 ≤ op) (h14 : op ≤ 14) (ha : a < 4294967296) (hb : b < 4294967296) (hz : 3 ≤ op → op ≤ 6 → b ≠ 0) :
    Calls Tryd.prog 40 #[.int .i64 op, .int .i64 32, .int .u64 a, .int .u64 b] w fun e w' => Rw op 32 a b e ∧ w = w' := by
  by_cases hd : 3 ≤ op ∧ op ≤ 6
  · have D := Lib.hid (divide_32 op a b w (by omega) ha hb (hz hd.1 hd.2))
    rcases (by omega : op = 3 ∨ op = 4 ∨ op = 5 ∨ op = 6) with rfl | rfl | rfl | rfl
    all_goals
      go_enter Tryd.func40, Tryd.ntmps40
      go_wp2_with (go_at_call 53; refine D.out.mono ?_; rintro e w1 ⟨⟨r, hr, hc, rfl⟩, rfl⟩; have HC := Lib.hid hc; clear hc)
      go_ret
      exact ⟨⟨r, hr, HC.out, rfl⟩, rfl⟩
  · by_cases hs : 10 ≤ op
    · have D := Lib.hid (shift_32 op a b w (by omega) ha hb)
      rcases (by omega : op = 10 ∨ op = 11 ∨ op = 12 ∨ op = 13 ∨ op = 14) with rfl | rfl | rfl | rfl | rfl
      all_goals
        go_enter Tryd.func40, Tryd.ntmps40
        go_wp2_with (go_at_call 54; refine D.out.mono ?_; rintro e w1 ⟨⟨r, hr, hc, rfl⟩, rfl⟩; have HC := Lib.hid hc; clear hc)
        go_ret
        exact ⟨⟨r, hr, HC.out, rfl⟩, rfl⟩
    · rcases (by omega : op = 0 ∨ op = 1 ∨ op = 2 ∨ op = 7 ∨ op = 8 ∨ op = 9) with rfl | rfl | rfl | rfl | rfl | rfl
      all_goals
        go_enter Tryd.func40, Tryd.ntmps40
        go_wp2
        go_ret
        refine ⟨?_, rfl⟩
      · exact Rw.mk_ _ (by omega) (add_32 a b) (by simp)
      · exact Rw.mk_ _ (mod_nat _).2 (sub_32 a b ha hb) (by rw [IntKind.wrap_u64]; exact (mod_nat _).1)
      · exact Rw.mk_ _ (Nat.mod_lt _ (by decide)) (mul_32 a b) (wrap_mul a b)
      · exact (mix_any 32 (.inl rfl) a b ha hb).1
      · exact (mix_any 32 (.inl rfl) a b ha hb).2.1
      · exact (mix_any 32 (.inl rfl) a b ha hb).2.2
set_option maxHeartbeats 1000000 in
theorem binary_64 (op : Int) (a b : Nat) (w : World) (h0 : 0 ≤ op) (h14 : op ≤ 14) (ha : a < 18446744073709551616) (hb : b < 18446744073709551616) (hz : 3 ≤ op → op ≤ 6 → b ≠ 0) :
    Calls Tryd.prog 40 #[.int .i64 op, .int .i64 64, .int .u64 a, .int .u64 b] w fun e w' => Rw op 64 a b e ∧ w = w' := by
  by_cases hd : 3 ≤ op ∧ op ≤ 6
  · have D := Lib.hid (divide_64 op a b w (by omega) ha hb (hz hd.1 hd.2))
    rcases (by omega : op = 3 ∨ op = 4 ∨ op = 5 ∨ op = 6) with rfl | rfl | rfl | rfl
    all_goals
      go_enter Tryd.func40, Tryd.ntmps40
      go_wp2_with (go_at_call 53; refine D.out.mono ?_; rintro e w1 ⟨⟨r, hr, hc, rfl⟩, rfl⟩; have HC := Lib.hid hc; clear hc)
      go_ret
      exact ⟨⟨r, hr, HC.out, rfl⟩, rfl⟩
  · by_cases hs : 10 ≤ op
    · have D := Lib.hid (shift_64 op a b w (by omega) ha hb)
      rcases (by omega : op = 10 ∨ op = 11 ∨ op = 12 ∨ op = 13 ∨ op = 14) with rfl | rfl | rfl | rfl | rfl
      all_goals
        go_enter Tryd.func40, Tryd.ntmps40
        go_wp2_with (go_at_call 54; refine D.out.mono ?_; rintro e w1 ⟨⟨r, hr, hc, rfl⟩, rfl⟩; have HC := Lib.hid hc; clear hc)
        go_ret
        exact ⟨⟨r, hr, HC.out, rfl⟩, rfl⟩
    · rcases (by omega : op = 0 ∨ op = 1 ∨ op = 2 ∨ op = 7 ∨ op = 8 ∨ op = 9) with rfl | rfl | rfl | rfl | rfl | rfl
      all_goals
        go_enter Tryd.func40, Tryd.ntmps40
        go_wp2
        go_ret
        refine ⟨?_, rfl⟩
      · exact Rw.mk_ _ (Nat.mod_lt _ (by decide)) (add_64 a b) (wrap_add a b)
      · exact Rw.mk_ _ (mod_nat _).2 (sub_64 a b ha hb) (by rw [IntKind.wrap_u64]; exact (mod_nat _).1)
      · exact Rw.mk_ _ (Nat.mod_lt _ (by decide)) (mul_64 a b) (wrap_mul a b)
      · exact (mix_any 64 (.inr rfl) a b ha hb).1
      · exact (mix_any 64 (.inr rfl) a b ha hb).2.1
      · exact (mix_any 64 (.inr rfl) a b ha hb).2.2
theorem binary_any (op n : Int) (a b : Nat) (w : World) (h : Wd.ok n) (h0 : 0 ≤ op) (h14 : op ≤ 14) (ha : a < Wd.md n) (hb : b < Wd.md n) (hz : 3 ≤ op → op ≤ 6 → b ≠ 0) :
    Calls Tryd.prog 40 #[.int .i64 op, .int .i64 n, .int .u64 a, .int .u64 b] w fun e w' => Rw op n a b e ∧ w = w' := by
  rcases h with rfl | rfl
  · exact binary_32 op a b w h0 h14 ha hb hz
  · exact binary_64 op a b w h0 h14 ha hb hz
end Go.Proofs.YtmbnaejoiglckaaDoor
