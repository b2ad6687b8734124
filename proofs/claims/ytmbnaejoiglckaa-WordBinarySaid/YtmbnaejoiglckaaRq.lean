/-
  The document's own Binary: what it answers, of any op and any two words.
-/
import Derived.Test.YtmbnaejoiglckaaRo
import Derived.Test.YtmbnaejoiglckaaRp
namespace Go.Proofs.Ytmbnaejoiglckaa
open Go.RowKit
set_option linter.unusedVariables false
theorem RB_3_32 (a b : Nat) (w : World) (ha : a < 18446744073709551616) (hb : b < 18446744073709551616) :
    Calls Try.prog 11 #[.int .i64 3, .int .i64 32, .int .u64 a, .int .u64 b] w fun e w' => e = .returned (.tuple #[.int .u64 ((Wd.bz 3 32 a b : Nat) : Int), .int .i64 ((Wd.tr 3 32 a b : Nat) : Int)]) ∧ Below w.heap.size w w' := by
  by_cases h0 : Wd.cut 32 b = 0
  · exact RB_3_32_z a b w ha hb h0
  · cases ena : bt (Wd.cut 32 a) 31 <;> cases enb : bt (Wd.cut 32 b) 31
    · by_cases hq : 2 ^ 31 ≤ ab (2 ^ 32) (Wd.cut 32 a) false / ab (2 ^ 32) (Wd.cut 32 b) false
      · exact RB_3_32_ff_y a b w ha hb h0 ena enb hq
      · exact RB_3_32_ff_n a b w ha hb h0 ena enb hq
    · exact RB_3_32_ft a b w ha hb h0 ena enb
    · exact RB_3_32_tf a b w ha hb h0 ena enb
    · by_cases hq : 2 ^ 31 ≤ ab (2 ^ 32) (Wd.cut 32 a) true / ab (2 ^ 32) (Wd.cut 32 b) true
      · exact RB_3_32_tt_y a b w ha hb h0 ena enb hq
      · exact RB_3_32_tt_n a b w ha hb h0 ena enb hq
theorem RB_4_32 (a b : Nat) (w : World) (ha : a < 18446744073709551616) (hb : b < 18446744073709551616) :
    Calls Try.prog 11 #[.int .i64 4, .int .i64 32, .int .u64 a, .int .u64 b] w fun e w' => e = .returned (.tuple #[.int .u64 ((Wd.bz 4 32 a b : Nat) : Int), .int .i64 ((Wd.tr 4 32 a b : Nat) : Int)]) ∧ Below w.heap.size w w' := by
  by_cases h0 : Wd.cut 32 b = 0
  · exact RB_4_32_z a b w ha hb h0
  · exact RB_4_32_n a b w ha hb h0
theorem RB_5_32 (a b : Nat) (w : World) (ha : a < 18446744073709551616) (hb : b < 18446744073709551616) :
    Calls Try.prog 11 #[.int .i64 5, .int .i64 32, .int .u64 a, .int .u64 b] w fun e w' => e = .returned (.tuple #[.int .u64 ((Wd.bz 5 32 a b : Nat) : Int), .int .i64 ((Wd.tr 5 32 a b : Nat) : Int)]) ∧ Below w.heap.size w w' := by
  by_cases h0 : Wd.cut 32 b = 0
  · exact RB_5_32_z a b w ha hb h0
  · cases ena : bt (Wd.cut 32 a) 31 <;> cases enb : bt (Wd.cut 32 b) 31
    · exact RB_5_32_ff a b w ha hb h0 ena enb
    · exact RB_5_32_ft a b w ha hb h0 ena enb
    · exact RB_5_32_tf a b w ha hb h0 ena enb
    · exact RB_5_32_tt a b w ha hb h0 ena enb
theorem RB_6_32 (a b : Nat) (w : World) (ha : a < 18446744073709551616) (hb : b < 18446744073709551616) :
    Calls Try.prog 11 #[.int .i64 6, .int .i64 32, .int .u64 a, .int .u64 b] w fun e w' => e = .returned (.tuple #[.int .u64 ((Wd.bz 6 32 a b : Nat) : Int), .int .i64 ((Wd.tr 6 32 a b : Nat) : Int)]) ∧ Below w.heap.size w w' := by
  by_cases h0 : Wd.cut 32 b = 0
  · exact RB_6_32_z a b w ha hb h0
  · exact RB_6_32_n a b w ha hb h0
theorem RB_3_64 (a b : Nat) (w : World) (ha : a < 18446744073709551616) (hb : b < 18446744073709551616) :
    Calls Try.prog 11 #[.int .i64 3, .int .i64 64, .int .u64 a, .int .u64 b] w fun e w' => e = .returned (.tuple #[.int .u64 ((Wd.bz 3 64 a b : Nat) : Int), .int .i64 ((Wd.tr 3 64 a b : Nat) : Int)]) ∧ Below w.heap.size w w' := by
  by_cases h0 : Wd.cut 64 b = 0
  · exact RB_3_64_z a b w ha hb h0
  · cases ena : bt (Wd.cut 64 a) 63 <;> cases enb : bt (Wd.cut 64 b) 63
    · by_cases hq : 2 ^ 63 ≤ ab (2 ^ 64) (Wd.cut 64 a) false / ab (2 ^ 64) (Wd.cut 64 b) false
      · exact RB_3_64_ff_y a b w ha hb h0 ena enb hq
      · exact RB_3_64_ff_n a b w ha hb h0 ena enb hq
    · exact RB_3_64_ft a b w ha hb h0 ena enb
    · exact RB_3_64_tf a b w ha hb h0 ena enb
    · by_cases hq : 2 ^ 63 ≤ ab (2 ^ 64) (Wd.cut 64 a) true / ab (2 ^ 64) (Wd.cut 64 b) true
      · exact RB_3_64_tt_y a b w ha hb h0 ena enb hq
      · exact RB_3_64_tt_n a b w ha hb h0 ena enb hq
theorem RB_4_64 (a b : Nat) (w : World) (ha : a < 18446744073709551616) (hb : b < 18446744073709551616) :
    Calls Try.prog 11 #[.int .i64 4, .int .i64 64, .int .u64 a, .int .u64 b] w fun e w' => e = .returned (.tuple #[.int .u64 ((Wd.bz 4 64 a b : Nat) : Int), .int .i64 ((Wd.tr 4 64 a b : Nat) : Int)]) ∧ Below w.heap.size w w' := by
  by_cases h0 : Wd.cut 64 b = 0
  · exact RB_4_64_z a b w ha hb h0
  · exact RB_4_64_n a b w ha hb h0
theorem RB_5_64 (a b : Nat) (w : World) (ha : a < 18446744073709551616) (hb : b < 18446744073709551616) :
    Calls Try.prog 11 #[.int .i64 5, .int .i64 64, .int .u64 a, .int .u64 b] w fun e w' => e = .returned (.tuple #[.int .u64 ((Wd.bz 5 64 a b : Nat) : Int), .int .i64 ((Wd.tr 5 64 a b : Nat) : Int)]) ∧ Below w.heap.size w w' := by
  by_cases h0 : Wd.cut 64 b = 0
  · exact RB_5_64_z a b w ha hb h0
  · cases ena : bt (Wd.cut 64 a) 63 <;> cases enb : bt (Wd.cut 64 b) 63
    · exact RB_5_64_ff a b w ha hb h0 ena enb
    · exact RB_5_64_ft a b w ha hb h0 ena enb
    · exact RB_5_64_tf a b w ha hb h0 ena enb
    · exact RB_5_64_tt a b w ha hb h0 ena enb
theorem RB_6_64 (a b : Nat) (w : World) (ha : a < 18446744073709551616) (hb : b < 18446744073709551616) :
    Calls Try.prog 11 #[.int .i64 6, .int .i64 64, .int .u64 a, .int .u64 b] w fun e w' => e = .returned (.tuple #[.int .u64 ((Wd.bz 6 64 a b : Nat) : Int), .int .i64 ((Wd.tr 6 64 a b : Nat) : Int)]) ∧ Below w.heap.size w w' := by
  by_cases h0 : Wd.cut 64 b = 0
  · exact RB_6_64_z a b w ha hb h0
  · exact RB_6_64_n a b w ha hb h0
theorem RBin_any (op n : Int) (a b : Nat) (w : World) (h : Wd.ok n) (h0 : 0 ≤ op) (h14 : op ≤ 14) (ha : a < 18446744073709551616) (hb : b < 18446744073709551616) :
    Calls Try.prog 11 #[.int .i64 op, .int .i64 n, .int .u64 a, .int .u64 b] w fun e w' => e = .returned (.tuple #[.int .u64 ((Wd.bz op n a b : Nat) : Int), .int .i64 ((Wd.tr op n a b : Nat) : Int)]) ∧ Below w.heap.size w w' := by
  rcases h with rfl | rfl
  · rcases (by omega : op = 0 ∨ op = 1 ∨ op = 2 ∨ op = 3 ∨ op = 4 ∨ op = 5 ∨ op = 6 ∨ op = 7 ∨ op = 8 ∨ op = 9 ∨ op = 10 ∨ op = 11 ∨ op = 12 ∨ op = 13 ∨ op = 14) with rfl | rfl | rfl | rfl | rfl | rfl | rfl | rfl | rfl | rfl | rfl | rfl | rfl | rfl | rfl
    · exact RB_0_32 a b w ha hb
    · exact RB_1_32 a b w ha hb
    · exact RB_2_32 a b w ha hb
    · exact RB_3_32 a b w ha hb
    · exact RB_4_32 a b w ha hb
    · exact RB_5_32 a b w ha hb
    · exact RB_6_32 a b w ha hb
    · exact RB_7_32 a b w ha hb
    · exact RB_8_32 a b w ha hb
    · exact RB_9_32 a b w ha hb
    · exact RB_10_32 a b w ha hb
    · exact RB_11_32 a b w ha hb
    · exact RB_12_32 a b w ha hb
    · exact RB_13_32 a b w ha hb
    · exact RB_14_32 a b w ha hb
  · rcases (by omega : op = 0 ∨ op = 1 ∨ op = 2 ∨ op = 3 ∨ op = 4 ∨ op = 5 ∨ op = 6 ∨ op = 7 ∨ op = 8 ∨ op = 9 ∨ op = 10 ∨ op = 11 ∨ op = 12 ∨ op = 13 ∨ op = 14) with rfl | rfl | rfl | rfl | rfl | rfl | rfl | rfl | rfl | rfl | rfl | rfl | rfl | rfl | rfl
    · exact RB_0_64 a b w ha hb
    · exact RB_1_64 a b w ha hb
    · exact RB_2_64 a b w ha hb
    · exact RB_3_64 a b w ha hb
    · exact RB_4_64 a b w ha hb
    · exact RB_5_64 a b w ha hb
    · exact RB_6_64 a b w ha hb
    · exact RB_7_64 a b w ha hb
    · exact RB_8_64 a b w ha hb
    · exact RB_9_64 a b w ha hb
    · exact RB_10_64 a b w ha hb
    · exact RB_11_64 a b w ha hb
    · exact RB_12_64 a b w ha hb
    · exact RB_13_64 a b w ha hb
    · exact RB_14_64 a b w ha hb
end Go.Proofs.Ytmbnaejoiglckaa
