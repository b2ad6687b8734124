/-
  conv.Parse of any text; what is printed is read.
-/
import Derived.Test.YtmbnaejoiglckaaDoorKi
import Derived.Test.YtmbnaejoiglckaaDoorKj
namespace Go.Proofs.YtmbnaejoiglckaaDoor
open Go.RowKit Go.ChangeShapes Go.WideShapes Go.ChangeAt
set_option linter.unusedVariables false
set_option linter.unusedSimpArgs false
theorem bs_data (b : ByteArray) : bs b.data.toList = b := by
  apply ByteArray.ext; simp [bs]
set_option maxHeartbeats 4000000 in
set_option maxRecDepth 100000 in
theorem Parse_long (n : Int) (h : Wd.ok n) (S : ByteArray) (hS : 20 < S.size) (hS2 : S.size ≤ 100) (w : World) : Calls Tryd.prog 31 #[.int .i64 n, .string S] w fun e w' => e = .returned (.tuple #[.int .u64 0, .int .i64 4]) ∧ w = w' := by
  have W := Lib.hid (fun w1 : World => wide_yes n w1 h)
  have h1 : (20 : Int) < (S.size : Int) := by omega
  clear h hS
  go_enter Tryd.func31, Tryd.ntmps31
  go_wp2_with (go_at_call 41; refine (W.out _).mono ?_; rintro e w1 ⟨rfl, rfl⟩)
  go_ret2
  exact ⟨rfl, rfl⟩
set_option maxHeartbeats 4000000 in
set_option maxRecDepth 100000 in
theorem Parse_bad (n : Int) (h : ¬ Wd.ok n) (S : ByteArray) (w : World) : Calls Tryd.prog 31 #[.int .i64 n, .string S] w fun e w' => e = .returned (.tuple #[.int .u64 0, .int .i64 1]) ∧ w = w' := by
  have W := Lib.hid (fun w1 : World => wide_no n w1 h)
  clear h
  go_enter Tryd.func31, Tryd.ntmps31
  go_wp2_with (go_at_call 41; refine (W.out _).mono ?_; rintro e w1 ⟨rfl, rfl⟩)
  go_ret2
  exact ⟨rfl, rfl⟩
theorem ParseA_32 (s : List UInt8) (hs : s.length ≤ 100) (w : World) (hL : Lw w) : Calls Tryd.prog 31 #[.int .i64 32, .string (bs s)] w (PaP (dz 4294967295 s) w) := by
  have hb : bm 32 4294967295 := .inl ⟨rfl, rfl⟩
  by_cases h : s.length ≤ 20
  · rw [← pz_dz hb s]; exact Parse_32 s h w hL
  · rw [dz_long hb s (by omega)]
    refine (Parse_long 32 (.inl rfl) (bs s) (by rw [bs_size]; omega) (by rw [bs_size]; exact hs) w).mono ?_
    rintro e w' ⟨rfl, rfl⟩
    exact ⟨rfl, Below.refl _ _⟩
theorem ParseA_64 (s : List UInt8) (hs : s.length ≤ 100) (w : World) (hL : Lw w) : Calls Tryd.prog 31 #[.int .i64 64, .string (bs s)] w (PaP (dz 18446744073709551615 s) w) := by
  have hb : bm 64 18446744073709551615 := .inr ⟨rfl, rfl⟩
  by_cases h : s.length ≤ 20
  · rw [← pz_dz hb s]; exact Parse_64 s h w hL
  · rw [dz_long hb s (by omega)]
    refine (Parse_long 64 (.inr rfl) (bs s) (by rw [bs_size]; omega) (by rw [bs_size]; exact hs) w).mono ?_
    rintro e w' ⟨rfl, rfl⟩
    exact ⟨rfl, Below.refl _ _⟩
theorem dec_no (n : Nat) : (∀ t, Lib.decDigits n ≠ 48 :: 120 :: t) ∧ (∀ t, Lib.decDigits n ≠ 45 :: t) := by
  refine ⟨fun t e => ?_, fun t e => ?_⟩
  · have := (dec_head e).2.2
    simp [isD] at this
  · have := (dec_head e).1
    simp at this
theorem dz_nat {B M : Nat} (hb : bm B M) (n : Nat) (h : n ≤ M) : dz M (Lib.decDigits n) = some n := by
  obtain ⟨hB, h9, _⟩ := bm_facts hb
  rw [dz_else M _ (dec_no n).1 (dec_no n).2]
  exact (rd10_iff M h9 _ n).2 ⟨rfl, h⟩
theorem dz_min {B M : Nat} (hb : bm B M) (n : Nat) (h1 : 1 ≤ n) (h : n ≤ M / 2 + 1) : dz M (45 :: Lib.decDigits n) = some (M - n + 1) := by
  obtain ⟨hB, h9, _, _, _, h92, _⟩ := bm_facts hb
  rw [dz_neg, (rd10_iff _ h92 _ n).2 ⟨rfl, h⟩]
  simp only []
  rw [if_neg (by omega)]
theorem dz_itoa32 (a : Nat) (ha : a < 18446744073709551616) : dz 4294967295 (Lib.itoa (Wd.sgn 32 a)) = some (a % 4294967296) := by
  have hs : Wd.sgn 32 a = if a % 4294967296 < 2147483648 then ((a % 4294967296 : Nat) : Int) else ((a % 4294967296 : Nat) : Int) - 4294967296 := by
    simp only [Wd.sgn, if_true]
  have hV : a % 4294967296 < 4294967296 := Nat.mod_lt _ (by decide)
  rw [hs]
  generalize a % 4294967296 = V at hV
  by_cases q : V < 2147483648
  · rw [if_pos q, Lib.itoa_nonneg]
    exact dz_nat (.inl ⟨rfl, rfl⟩) V (by omega)
  · rw [if_neg q, show ((V : Int) - 4294967296) = -((4294967296 - V : Nat) : Int) by omega, Lib.itoa_neg _ (by omega)]
    rw [dz_min (.inl ⟨rfl, rfl⟩) _ (by omega) (by omega)]
    congr 1; omega
theorem dz_itoa64 (a : Nat) (ha : a < 18446744073709551616) : dz 18446744073709551615 (Lib.itoa (Wd.sgn 64 a)) = some a := by
  have hs : Wd.sgn 64 a = if a < 9223372036854775808 then ((a : Nat) : Int) else ((a : Nat) : Int) - 18446744073709551616 := by
    simp only [Wd.sgn, show ((64 : Int) = 32) = False from by simp, if_false]
  rw [hs]
  by_cases q : a < 9223372036854775808
  · rw [if_pos q, Lib.itoa_nonneg]
    exact dz_nat (.inr ⟨rfl, rfl⟩) a (by omega)
  · rw [if_neg q, show ((a : Int) - 18446744073709551616) = -((18446744073709551616 - a : Nat) : Int) by omega, Lib.itoa_neg _ (by omega)]
    rw [dz_min (.inr ⟨rfl, rfl⟩) _ (by omega) (by omega)]
    congr 1; omega
theorem dz_hexD (a : Nat) (ha : a < 18446744073709551616) : dz 18446744073709551615 (48 :: 120 :: hexDigits a) = some a := by
  rw [dz_hex]
  exact (rd16_iff _ (by decide) _ a).2 ⟨rfl, by omega⟩
theorem itoa_len (v : Int) (h0 : -9223372036854775808 ≤ v) (h1 : v ≤ 9223372036854775807) : (Lib.itoa v).length ≤ 100 := by
  rcases itoa_cases v with ⟨n, hn, e⟩ | ⟨n, _, hn, e⟩
  · rw [e]; have := dec_len 19 n (by omega); omega
  · rw [e]; have := dec_len 19 n (by omega); simp; omega
end Go.Proofs.YtmbnaejoiglckaaDoor
