/-
  The document's own tests of two words: less, Less, Test.
-/
import Derived.Test.YtmbnaejoiglckaaRa
namespace Go.Proofs.Ytmbnaejoiglckaa
open Go.RowKit
set_option linter.unusedVariables false
theorem vl_top (f : Nat → Bool) : ∀ m k, vl f k (m + 1) = vl f k m + 2 ^ m * (f (k + m)).toNat
  | 0, k => by simp [vl]
  | m + 1, k => by
    rw [show vl f k (m + 1 + 1) = (f k).toNat + 2 * vl f (k + 1) (m + 1) from rfl, vl_top f m (k + 1), show vl f k (m + 1) = (f k).toNat + 2 * vl f (k + 1) m from rfl, show k + 1 + m = k + (m + 1) from by omega, Nat.pow_succ]
    rw [Nat.mul_add, ← Nat.mul_assoc, Nat.mul_comm 2 (2 ^ m)]
    omega
theorem vl_same (f g : Nat → Bool) (k : Nat) : ∀ n, k ≤ n → (∀ i, k ≤ i → i < n → f i = g i) → (vl f 0 n < vl g 0 n ↔ vl f 0 k < vl g 0 k)
  | 0, h, _ => by obtain rfl : k = 0 := by omega
                  exact Iff.rfl
  | n + 1, h, he => by
    rcases Nat.lt_or_ge k (n + 1) with g1 | g1
    · have ih := vl_same f g k n (by omega) (fun i a b => he i a (by omega))
      rw [vl_top f n 0, vl_top g n 0, Nat.zero_add, he n (by omega) (by omega)]
      omega
    · obtain rfl : k = n + 1 := by omega
      exact Iff.rfl
theorem vl_differ (f g : Nat → Bool) (k : Nat) (h : f k ≠ g k) : (vl f 0 (k + 1) < vl g 0 (k + 1)) ↔ g k = true := by
  rw [vl_top f k 0, vl_top g k 0, Nat.zero_add]
  have h1 := vl_lt f k 0
  have h2 := vl_lt g k 0
  cases hf : f k <;> cases hg : g k <;> simp_all <;> omega
theorem drew_below {w wr : World} {B : Nat} (h : Below B w wr) (k : Nat) : Below B w (wr.drewN k) := ⟨h.os, h.tape, h.output, h.size, h.block⟩
set_option maxHeartbeats 1000000 in
set_option maxRecDepth 100000 in
theorem less_any (g1 c1 g2 c2 n : Nat) (f1 f2 : Nat → Bool) (w : World) (hn2 : n ≤ 64) (hc1 : n ≤ c1) (hc2 : n ≤ c2) (hd1 : c1 ≤ 9223372036854775807) (hd2 : c2 ≤ 9223372036854775807) (h1 : Bo w g1 n f1) (h2 : Bo w g2 n f2) :
    Calls Try.prog 36 #[.slice (some ⟨g1, 0, none⟩) n c1, .slice (some ⟨g2, 0, none⟩) n c2] w fun e w' => e = .returned (.bool (decide (vl f1 0 n < vl f2 0 n))) ∧ Below w.heap.size w w' := by
  have H1 := Lib.hid h1
  have H2 := Lib.hid h2
  clear h1 h2
  go_enter Try.func36, Try.ntmps36
  go_wp2
  go_loopw [5] (fun v5 wr => ∃ k : Nat, k ≤ n ∧ v5 = .int .i64 ((k : Int) - 1) ∧ Hid (∀ i, k ≤ i → i < n → f1 i = f2 i) ∧ Hid (Below w.heap.size w wr)) (fun v5 _ => (intOf v5 + 1).toNat)
  case atStart => exact ⟨n, Nat.le_refl _, rfl, Lib.hid (fun i a b => by omega), Lib.hid (Below.refl _ _)⟩
  case round =>
    obtain ⟨k, hk, rfl, HE, HBl⟩ := hrel
    have HS := Lib.hid (vl_same f1 f2 k n hk HE.out)
    rcases Nat.eq_zero_or_pos k with hk0 | hk0
    · subst hk0
      go_wp2
      go_ret
      exact ⟨ret_bool (by
        symm
        rw [decide_eq_false_iff_not, HS.out]
        exact Nat.lt_irrefl 0), HBl.out⟩
    · obtain ⟨j, rfl⟩ : ∃ j, k = j + 1 := ⟨k - 1, by omega⟩
      have d1 := (H1.out.below HBl.out H1.out.1).2 j (by omega)
      have d2 := (H2.out.below HBl.out H2.out.1).2 j (by omega)
      have HD := Lib.hid (vl_differ f1 f2 j)
      have HE2 : Hid (f1 j = f2 j → ∀ i, j ≤ i → i < n → f1 i = f2 i) := Lib.hid (fun e i a b => by
        rcases Nat.eq_or_lt_of_le a with q | q
        · rw [← q]; exact e
        · exact HE.out i q b)
      obtain ⟨x, ex⟩ : ∃ b, b = f1 j := ⟨_, rfl⟩
      obtain ⟨y, ey⟩ : ∃ b, b = f2 j := ⟨_, rfl⟩
      rw [← ex] at d1 HD HE2
      rw [← ey] at d2 HD HE2
      clear ex ey
      cases x <;> cases y
      · go_wp2
        go_quiet (fail)
        go_wp2
        go_round
        case rel => exact ⟨j, by omega, by go_num, Lib.hid (HE2.out trivial), Lib.hid (drew_below HBl.out _)⟩
        case measure => simp [intOf]
      · go_wp2
        go_quiet (fail)
        go_wp2
        go_ret
        exact ⟨ret_bool (by symm; rw [decide_eq_true_iff, HS.out]; exact (HD.out (by simp)).2 (by simp)), drew_below HBl.out _⟩
      · go_wp2
        go_quiet (fail)
        go_wp2
        go_ret
        exact ⟨ret_bool (by symm; rw [decide_eq_false_iff_not, HS.out]; exact fun h => by have := (HD.out (by simp)).1 h; simp at this), drew_below HBl.out _⟩
      · go_wp2
        go_quiet (fail)
        go_wp2
        go_round
        case rel => exact ⟨j, by omega, by go_num, Lib.hid (HE2.out trivial), Lib.hid (drew_below HBl.out _)⟩
        case measure => simp [intOf]
end Go.Proofs.Ytmbnaejoiglckaa
