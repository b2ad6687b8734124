/-
  The document's own rows of bits: taken away (minus), none (zero): for WordBinary.
-/
import Derived.Test.YtmbnaejoiglckaaRe
namespace Go.Proofs.Ytmbnaejoiglckaa
open Go.RowKit
set_option linter.unusedVariables false
set_option maxHeartbeats 1000000 in
set_option maxRecDepth 100000 in
theorem Minus_any (g1 c1 g2 c2 n : Nat) (f1 f2 : Nat → Bool) (w : World) (hn : 1 ≤ n) (hn2 : n ≤ 65) (hc1 : n ≤ c1) (hc2 : n ≤ c2) (hd1 : c1 ≤ 9223372036854775807) (hd2 : c2 ≤ 9223372036854775807) (h1 : Bo w g1 n f1) (h2 : Bo w g2 n f2) :
    Calls Try.prog 22 #[.slice (some ⟨g1, 0, none⟩) n c1, .slice (some ⟨g2, 0, none⟩) n c2] w (LPost w.heap.size n (sm f1 (fun i => !f2 i) true) w) := by
  have N := Lib.hid (Not_any g2 c2 n f2 w hn hn2 hc2 hd2 h2)
  have H1 := Lib.hid h1
  have A := Lib.hid (fun (w1 : World) (g c : Nat) (a1 : n ≤ c) (a2 : c ≤ 9223372036854775807) (b1 : Bo w1 g1 n f1) (b2 : Bo w1 g n (fun i => !f2 i)) => Add_any g1 c1 g c n f1 (fun i => !f2 i) true w1 hn hn2 hc1 a1 hd1 a2 b1 b2)
  clear h1 h2
  go_enter Try.func22, Try.ntmps22
  go_wp2_with (first
    | (go_at_call 35; with_reducible refine N.out.mono ?_; rintro e w1 hL; unfold LPost at hL; obtain ⟨g, cp, rfl, n1, m1, b1, k1, h1⟩ := hL; have B1 := Lib.hid b1; have HB := Lib.hid h1; have H1' := Lib.hid (H1.out.below h1 H1.out.lt); clear b1 h1)
    | (go_at_call 21; with_reducible refine (A.out _ _ _ (by assumption) (by assumption) H1'.out B1.out).mono ?_; rintro e w2 hL; unfold LPost at hL; obtain ⟨g', cp', rfl, n2, m2, b2, k2, h2⟩ := hL; have B2 := Lib.hid b2; have HB2 := Lib.hid (HB.out.trans (h2.mono HB.out.size)); clear b2 h2))
  go_ret
  exact ⟨g', cp', rfl, n2, m2, B2.out, Nat.le_trans HB.out.size k2, HB2.out⟩
theorem vl_zero (f : Nat → Bool) : ∀ n, (∀ i, i < n → f i = false) → vl f 0 n = 0
  | 0, _ => rfl
  | n + 1, h => by
    rw [vl_top, vl_zero f n (fun i hi => h i (by omega)), show 0 + n = n from Nat.zero_add n, h n (by omega)]; rfl
theorem vl_pos (f : Nat → Bool) : ∀ n k, k < n → f k = true → vl f 0 n ≠ 0
  | 0, k, h, _ => by omega
  | n + 1, k, h, e => by
    rw [vl_top, Nat.zero_add]
    rcases Nat.lt_or_ge k n with g | g
    · have := vl_pos f n k g e
      omega
    · obtain rfl : n = k := by omega
      rw [e]
      have := Nat.two_pow_pos n
      have h1 : (true : Bool).toNat = 1 := rfl
      rw [h1]
      omega
set_option maxHeartbeats 1000000 in
set_option maxRecDepth 100000 in
theorem Zero_any (g1 c1 n : Nat) (f : Nat → Bool) (w : World) (hn2 : n ≤ 65) (hc1 : n ≤ c1) (hd1 : c1 ≤ 9223372036854775807) (h1 : Bo w g1 n f) :
    Calls Try.prog 24 #[.slice (some ⟨g1, 0, none⟩) n c1] w fun e w' => e = .returned (.bool (decide (vl f 0 n = 0))) ∧ w = w' := by
  have H1 := Lib.hid h1
  clear h1
  go_enter Try.func24, Try.ntmps24
  go_wp2
  go_loop [3] (fun v3 => ∃ k : Nat, k ≤ n ∧ v3 = .int .i64 k ∧ Hid (∀ i, i < k → f i = false)) (fun v3 => n - (intOf v3).toNat)
  case atStart => exact ⟨0, Nat.zero_le _, rfl, Lib.hid (fun i h => by omega)⟩
  case round =>
    obtain ⟨k, hk, rfl, HZ⟩ := hrel
    by_cases hlt : k < n
    · have d1 := H1.out.2 k hlt
      have HP := Lib.hid (vl_pos f n k hlt)
      have HZ2 : Hid (f k = false → ∀ i, i < k + 1 → f i = false) := Lib.hid (fun e i hi => by
        rcases Nat.lt_or_ge i k with q | q
        · exact HZ.out i q
        · rw [show i = k from by omega]; exact e)
      obtain ⟨x, ex⟩ : ∃ b, b = f k := ⟨_, rfl⟩
      rw [← ex] at d1 HP HZ2
      clear ex
      cases x
      · go_wp2
        go_round
        case rel => exact ⟨k + 1, by omega, by go_num, Lib.hid (HZ2.out (by trivial))⟩
        case measure => simp [intOf]; omega
      · go_wp2
        go_ret
        exact ⟨ret_bool (by symm; rw [decide_eq_false_iff_not]; exact HP.out (by trivial)), rfl⟩
    · obtain rfl : n = k := by omega
      go_wp2
      go_ret
      exact ⟨ret_bool (by symm; rw [decide_eq_true_iff]; exact vl_zero f n HZ.out), rfl⟩
end Go.Proofs.Ytmbnaejoiglckaa
