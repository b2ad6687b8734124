/-
  word.Cut, Sign, known, truth, lowest, traps: what they answer, for every input that they are called with.
-/
import Derived.Test.YtmbnaejoiglckaaDoorRows
import Derived.Test.YtmbnaejoiglckaaDoorMb
import Derived.WalkKit
import Derived.WalkSpells
import Derived.WalkLawsBesides
import Derived.BigQuiet
import Derived.Deep.QuietTactic
import Derived.Lib.Hide
import Derived.Laws.BitsAllLaws
import Derived.Deep.DeepFit
import Derived.Deep.DeepMust
namespace Go.Proofs.YtmbnaejoiglckaaDoor
open Go.RowKit
set_option linter.unusedVariables false
theorem ret_int {k : IntKind} {a b : Int} (h : a = b) : Ending.returned (.int k a) = .returned (.int k b) := by rw [h]
theorem ret_bool {a b : Bool} (h : a = b) : Ending.returned (.bool a) = .returned (.bool b) := by rw [h]
theorem Cut_32 (a : Nat) (w : World) :
    Calls Tryd.prog 12 #[.int .i64 32, .int .u64 a] w fun e w' => e = .returned (.int .u64 ((Wd.cut 32 a : Nat) : Int)) ∧ w = w' := by
  go_enter Tryd.func12, Tryd.ntmps12
  go_wp2
  go_ret
  exact ⟨ret_int (by simp [Wd.cut]), rfl⟩
theorem Cut_no (n : Int) (a : Nat) (w : World) (h : n ≠ 32) :
    Calls Tryd.prog 12 #[.int .i64 n, .int .u64 a] w fun e w' => e = .returned (.int .u64 ((Wd.cut n a : Nat) : Int)) ∧ w = w' := by
  go_enter Tryd.func12, Tryd.ntmps12
  go_wp2
  go_ret
  exact ⟨ret_int (by simp [Wd.cut, h]), rfl⟩
theorem Cut_any (n : Int) (a : Nat) (w : World) :
    Calls Tryd.prog 12 #[.int .i64 n, .int .u64 a] w fun e w' => e = .returned (.int .u64 ((Wd.cut n a : Nat) : Int)) ∧ w = w' := by
  by_cases h : n = 32
  · subst h; exact Cut_32 a w
  · exact Cut_no n a w h
theorem Sign_32 (a : Nat) (w : World) :
    Calls Tryd.prog 13 #[.int .i64 32, .int .u64 a] w fun e w' => e = .returned (.int .i64 (Wd.sgn 32 a)) ∧ w = w' := by
  go_enter Tryd.func13, Tryd.ntmps13
  go_wp2
  go_ret
  exact ⟨ret_int (by simp [Wd.sgn]; unfold wrap64 wrap32; split <;> omega), rfl⟩
theorem Sign_no (n : Int) (a : Nat) (w : World) (h : n ≠ 32) (ha : a < 18446744073709551616) :
    Calls Tryd.prog 13 #[.int .i64 n, .int .u64 a] w fun e w' => e = .returned (.int .i64 (Wd.sgn n a)) ∧ w = w' := by
  go_enter Tryd.func13, Tryd.ntmps13
  go_wp2
  go_ret
  exact ⟨ret_int (by simp [Wd.sgn, h]; unfold wrap64; split <;> omega), rfl⟩
theorem Sign_any (n : Int) (a : Nat) (w : World) (ha : a < 18446744073709551616) :
    Calls Tryd.prog 13 #[.int .i64 n, .int .u64 a] w fun e w' => e = .returned (.int .i64 (Wd.sgn n a)) ∧ w = w' := by
  by_cases h : n = 32
  · subst h; exact Sign_32 a w
  · exact Sign_no n a w h ha
theorem known_any (op ops n : Int) (w : World) :
    Calls Tryd.prog 33 #[.int .i64 op, .int .i64 ops, .int .i64 n] w fun e w' => e = .returned (.bool ((n == 32 || n == 64) && decide (0 ≤ op) && decide (op < ops))) ∧ w = w' := by
  go_enter Tryd.func33, Tryd.ntmps33
  go_wp2
  all_goals
    go_ret
    refine ⟨ret_bool ?_, rfl⟩
    simp_all <;> omega
theorem known_yes (op ops n : Int) (w : World) (h : Wd.ok n) (h0 : 0 ≤ op) (h1 : op < ops) :
    Calls Tryd.prog 33 #[.int .i64 op, .int .i64 ops, .int .i64 n] w fun e w' => e = .returned (.bool true) ∧ w = w' := by
  refine (known_any op ops n w).mono ?_
  rintro e w' ⟨rfl, rfl⟩
  refine ⟨ret_bool ?_, rfl⟩
  rcases h with rfl | rfl <;> simp [h0, h1]
theorem known_no (op ops n : Int) (w : World) (h : ¬ (Wd.ok n ∧ 0 ≤ op ∧ op < ops)) :
    Calls Tryd.prog 33 #[.int .i64 op, .int .i64 ops, .int .i64 n] w fun e w' => e = .returned (.bool false) ∧ w = w' := by
  refine (known_any op ops n w).mono ?_
  rintro e w' ⟨rfl, rfl⟩
  refine ⟨ret_bool ?_, rfl⟩
  rw [Bool.eq_false_iff]
  intro hh
  apply h
  simp at hh
  exact ⟨hh.1.1, hh.1.2, hh.2⟩
theorem truth_any (b : Bool) (w : World) :
    Calls Tryd.prog 37 #[.bool b] w fun e w' => e = .returned (.int .u64 ((b.toNat : Nat) : Int)) ∧ w = w' := by
  cases b
  all_goals
    go_enter Tryd.func37, Tryd.ntmps37
    go_wp2
    go_ret
    exact ⟨rfl, rfl⟩
theorem lowest_any (n : Int) (w : World) :
    Calls Tryd.prog 52 #[.int .i64 n] w fun e w' => e = .returned (.int .i64 (if n = 32 then -2147483648 else -9223372036854775808)) ∧ w = w' := by
  by_cases h : n = 32
  all_goals
    go_enter Tryd.func52, Tryd.ntmps52
    go_wp2
    go_ret
    exact ⟨ret_int rfl, rfl⟩
theorem sgn_fit (n : Int) (a : Nat) (ha : a < 18446744073709551616) : -9223372036854775808 ≤ Wd.sgn n a ∧ Wd.sgn n a ≤ 9223372036854775807 := by
  unfold Wd.sgn
  split <;> split <;> omega
theorem sgn_low32 {a : Nat} (ha : a < 4294967296) : Wd.sgn 32 a = -2147483648 ↔ a = 2147483648 := by
  unfold Wd.sgn
  rw [if_pos rfl, Nat.mod_eq_of_lt ha]
  split <;> omega
theorem sgn_low64 {a : Nat} (ha : a < 18446744073709551616) : Wd.sgn 64 a = -9223372036854775808 ↔ a = 9223372036854775808 := by
  unfold Wd.sgn
  rw [if_neg (by decide)]
  split <;> omega
theorem sgn_m32 {a : Nat} (ha : a < 4294967296) : Wd.sgn 32 a = -1 ↔ a = 4294967295 := by
  unfold Wd.sgn
  rw [if_pos rfl, Nat.mod_eq_of_lt ha]
  split <;> omega
theorem sgn_m64 {a : Nat} (ha : a < 18446744073709551616) : Wd.sgn 64 a = -1 ↔ a = 18446744073709551615 := by
  unfold Wd.sgn
  rw [if_neg (by decide)]
  split <;> omega
theorem traps_32 (op : Int) (a b : Nat) (w : World) (ha : a < 4294967296) (hb : b < 4294967296) :
    Calls Tryd.prog 39 #[.int .i64 op, .int .i64 32, .int .u64 a, .int .u64 b] w fun e w' => e = .returned (.int .i64 ((Wd.trap op 32 a b : Nat) : Int)) ∧ w = w' := by
  have h1 := sgn_low32 ha
  have h2 := sgn_m32 hb
  have F1 := sgn_fit 32 a (by omega)
  have F2 := sgn_fit 32 b (by omega)
  obtain ⟨x, hx⟩ : ∃ x, x = Wd.sgn 32 a := ⟨_, rfl⟩
  obtain ⟨y, hy⟩ : ∃ y, y = Wd.sgn 32 b := ⟨_, rfl⟩
  rw [← hx] at h1 F1
  rw [← hy] at h2 F2
  have HX := Lib.hid hx
  have HY := Lib.hid hy
  have H1 := Lib.hid h1
  have H2 := Lib.hid h2
  clear hx hy h1 h2
  go_enter Tryd.func39, Tryd.ntmps39
  go_wp2_with (first | (go_at_call 13; refine (Sign_any 32 _ _ (by omega)).mono ?_; (first | rw [← HX.out] | rw [← HY.out]); rintro e w1 ⟨rfl, rfl⟩) | (go_at_call 52; refine (lowest_any 32 _).mono ?_; rintro e w1 ⟨rfl, rfl⟩))

  all_goals
    go_ret
    refine ⟨ret_int ?_, rfl⟩
    have H1 := H1.out
    have H2 := H2.out
    try simp only [beq_eq_false_iff_ne, ne_eq, beq_iff_eq] at *
    unfold Wd.trap
    rw [show Wd.md 32 = 4294967296 from rfl]
    split <;> first | omega | (split <;> first | omega | (split <;> omega))
theorem traps_64 (op : Int) (a b : Nat) (w : World) (ha : a < 18446744073709551616) (hb : b < 18446744073709551616) :
    Calls Tryd.prog 39 #[.int .i64 op, .int .i64 64, .int .u64 a, .int .u64 b] w fun e w' => e = .returned (.int .i64 ((Wd.trap op 64 a b : Nat) : Int)) ∧ w = w' := by
  have h1 := sgn_low64 ha
  have h2 := sgn_m64 hb
  have F1 := sgn_fit 64 a (by omega)
  have F2 := sgn_fit 64 b (by omega)
  obtain ⟨x, hx⟩ : ∃ x, x = Wd.sgn 64 a := ⟨_, rfl⟩
  obtain ⟨y, hy⟩ : ∃ y, y = Wd.sgn 64 b := ⟨_, rfl⟩
  rw [← hx] at h1 F1
  rw [← hy] at h2 F2
  have HX := Lib.hid hx
  have HY := Lib.hid hy
  have H1 := Lib.hid h1
  have H2 := Lib.hid h2
  clear hx hy h1 h2
  go_enter Tryd.func39, Tryd.ntmps39
  go_wp2_with (first | (go_at_call 13; refine (Sign_any 64 _ _ (by omega)).mono ?_; (first | rw [← HX.out] | rw [← HY.out]); rintro e w1 ⟨rfl, rfl⟩) | (go_at_call 52; refine (lowest_any 64 _).mono ?_; rintro e w1 ⟨rfl, rfl⟩))

  all_goals
    go_ret
    refine ⟨ret_int ?_, rfl⟩
    have H1 := H1.out
    have H2 := H2.out
    try simp only [beq_eq_false_iff_ne, ne_eq, beq_iff_eq] at *
    unfold Wd.trap
    rw [show Wd.md 64 = 18446744073709551616 from rfl]
    split <;> first | omega | (split <;> first | omega | (split <;> omega))
theorem traps_any (op n : Int) (a b : Nat) (w : World) (h : Wd.ok n) (ha : a < Wd.md n) (hb : b < Wd.md n) :
    Calls Tryd.prog 39 #[.int .i64 op, .int .i64 n, .int .u64 a, .int .u64 b] w fun e w' => e = .returned (.int .i64 ((Wd.trap op n a b : Nat) : Int)) ∧ w = w' := by
  rcases h with rfl | rfl
  · exact traps_32 op a b w ha hb
  · exact traps_64 op a b w ha hb
end Go.Proofs.YtmbnaejoiglckaaDoor
