/-
  The document's own Binary, op by op, of words of 32 and of 64 bits: 0, 1, 2, 7 to 12.
-/
import Derived.Test.YtmbnaejoiglckaaRm
namespace Go.Proofs.Ytmbnaejoiglckaa
open Go.RowKit
set_option linter.unusedVariables false
set_option linter.unusedSimpArgs false
/-! division with a sign, on numbers -/
theorem neg_emod {q N : Nat} (h : q ≤ N) (hN : 0 < N) : ((-(q : Int)) % (N : Int)).toNat = (N - q) % N := by
  have h1 : (-(q : Int)) % (N : Int) = ((N - q : Nat) : Int) % (N : Int) := by
    rw [show ((N - q : Nat) : Int) = -(q : Int) + N from by omega, Int.add_emod_right]
  rw [h1, ← Int.natCast_emod, Int.toNat_natCast]
theorem nat_emod {q N : Nat} : ((q : Int) % (N : Int)).toNat = q % N := by
  rw [← Int.natCast_emod, Int.toNat_natCast]
theorem sgn_case {n : Int} {x M : Nat} (h : Wd.ok n) (hx : x < Wd.md n) (hM : Wd.md n = 2 * M) : (M ≤ x → Wd.sgn n x = -((Wd.md n - x : Nat) : Int)) ∧ (x < M → Wd.sgn n x = x) := by
  rw [Wd.sgn_of_lt h hx]
  constructor <;> intro q
  · rw [if_neg (by omega)]; omega
  · rw [if_pos (by omega)]
/-- how great a number with a sign is -/
def ab (N x : Nat) (s : Bool) : Nat := if s = true then (N - x) % N else x
theorem ab_eq {N x M : Nat} (hx : x < N) (hM : N = 2 * M) (h0 : 0 < M) : ab N x (decide (M ≤ x)) = if M ≤ x then N - x else x := by
  unfold ab
  by_cases q : M ≤ x
  · rw [if_pos (by simp [q]), if_pos q, Nat.mod_eq_of_lt (by omega)]
  · rw [if_neg (by simp [q]), if_neg q]
/-- divided with a sign: the number, or beyond -/
def dq (N x y : Nat) (s t : Bool) : Nat := if s = t then ab N x s / ab N y t else (N - ab N x s / ab N y t) % N
theorem divs_num {n : Int} {x y M : Nat} (h : Wd.ok n) (hx : x < Wd.md n) (hy : y < Wd.md n) (hM : Wd.md n = 2 * M) (h0 : y ≠ 0) :
    (Wd.trap 3 n x y = if decide (M ≤ x) = decide (M ≤ y) ∧ M ≤ ab (Wd.md n) x (decide (M ≤ x)) / ab (Wd.md n) y (decide (M ≤ y)) then 3 else 0) ∧
    (Wd.trap 3 n x y = 0 → Wd.bin 3 n x y = dq (Wd.md n) x y (decide (M ≤ x)) (decide (M ≤ y))) ∧
    Wd.bin 5 n x y = (if M ≤ x then (Wd.md n - ab (Wd.md n) x (decide (M ≤ x)) % ab (Wd.md n) y (decide (M ≤ y))) % Wd.md n else ab (Wd.md n) x (decide (M ≤ x)) % ab (Wd.md n) y (decide (M ≤ y))) ∧
    ab (Wd.md n) y (decide (M ≤ y)) ≠ 0 ∧ ab (Wd.md n) x (decide (M ≤ x)) < Wd.md n ∧ ab (Wd.md n) y (decide (M ≤ y)) < Wd.md n := by
  have hM0 : 0 < M := by rcases h with rfl | rfl <;> simp [Wd.md] at hM <;> omega
  have SX := sgn_case h hx hM
  have SY := sgn_case h hy hM
  have e3 : Wd.bin 3 n x y = ((Wd.sgn n x).tdiv (Wd.sgn n y) % (Wd.md n : Int)).toNat := by simp [Wd.bin]
  have e5 : Wd.bin 5 n x y = ((Wd.sgn n x).tmod (Wd.sgn n y) % (Wd.md n : Int)).toNat := by simp [Wd.bin]
  have et : Wd.trap 3 n x y = if 2 * x = Wd.md n ∧ y + 1 = Wd.md n then 3 else 0 := by simp [Wd.trap, h0]
  rw [e3, e5, et]
  unfold dq
  simp only [ab_eq hx hM hM0, ab_eq hy hM hM0]
  obtain ⟨N, hN⟩ : ∃ N, N = Wd.md n := ⟨_, rfl⟩
  rw [← hN] at hx hy hM SX SY ⊢
  by_cases px : M ≤ x <;> by_cases py : M ≤ y
  · rw [SX.1 px, SY.1 py]
    simp only [px, py, if_true, true_and]
    obtain ⟨p, hp⟩ : ∃ p, p = N - x := ⟨_, rfl⟩
    obtain ⟨q, hq⟩ : ∃ p, p = N - y := ⟨_, rfl⟩
    rw [← hp, ← hq]
    have hpq : p / q ≤ p := Nat.div_le_self _ _
    refine ⟨?_, ?_, ?_, by omega, by omega, by omega⟩
    · by_cases c : 2 * x = N ∧ y + 1 = N
      · have : p = M := by omega
        have : q = 1 := by omega
        subst this; subst p
        rw [if_pos c, if_pos (by rw [Nat.div_one]; omega)]
      · rw [if_neg c, if_neg]
        intro hc
        have hp2 : p = M := by omega
        have hq2 : 2 ≤ q := by omega
        have : p / q ≤ p / 2 := Nat.div_le_div_left hq2 (by decide)
        omega
    · intro _
      rw [Int.neg_tdiv, Int.tdiv_neg, Int.neg_neg, ← Int.ofNat_tdiv, nat_emod, Nat.mod_eq_of_lt (by omega)]
    · rw [Int.neg_tmod, Int.tmod_neg, ← Int.ofNat_tmod, neg_emod (Nat.le_of_lt (Nat.lt_of_le_of_lt (Nat.mod_le _ _) (by omega))) (by omega)]
  · rw [SX.1 px, SY.2 (by omega)]
    simp only [px, py, if_true, if_false, decide_true, decide_false]
    obtain ⟨p, hp⟩ : ∃ p, p = N - x := ⟨_, rfl⟩
    rw [← hp]
    have hpq : p / y ≤ p := Nat.div_le_self _ _
    refine ⟨?_, ?_, ?_, by omega, by omega, by omega⟩
    · rw [if_neg (by omega), if_neg (by simp)]
    · intro _
      rw [if_neg (by simp), Int.neg_tdiv, ← Int.ofNat_tdiv, neg_emod (by omega) (by omega)]
    · rw [Int.neg_tmod, ← Int.ofNat_tmod, neg_emod (Nat.le_of_lt (Nat.lt_of_le_of_lt (Nat.mod_le _ _) (by omega))) (by omega)]
  · rw [SX.2 (by omega), SY.1 py]
    simp only [px, py, if_true, if_false, decide_true, decide_false]
    obtain ⟨q, hq⟩ : ∃ p, p = N - y := ⟨_, rfl⟩
    rw [← hq]
    have hpq : x / q ≤ x := Nat.div_le_self _ _
    refine ⟨?_, ?_, ?_, by omega, by omega, by omega⟩
    · rw [if_neg (by omega), if_neg (by simp)]
    · intro _
      rw [if_neg (by simp), Int.tdiv_neg, ← Int.ofNat_tdiv, neg_emod (by omega) (by omega)]
    · rw [Int.tmod_neg, ← Int.ofNat_tmod, nat_emod, Nat.mod_eq_of_lt (Nat.lt_of_le_of_lt (Nat.mod_le _ _) (by omega))]
  · rw [SX.2 (by omega), SY.2 (by omega)]
    simp only [px, py, if_false, decide_false, true_and]
    have hpq : x / y ≤ x := Nat.div_le_self _ _
    refine ⟨?_, ?_, ?_, by omega, by omega, by omega⟩
    · rw [if_neg (by omega), if_neg (by omega)]
    · intro _
      rw [if_pos trivial, ← Int.ofNat_tdiv, nat_emod, Nat.mod_eq_of_lt (by omega)]
    · rw [← Int.ofNat_tmod, nat_emod, Nat.mod_eq_of_lt (Nat.lt_of_le_of_lt (Nat.mod_le _ _) (by omega))]
theorem shr_neg (x N P K : Nat) (hN : N = P * K) (hx : x < N) (hK : 0 < K) (hD : x / K < P) (hP : P ≤ N) : ((-((N - x : Nat) : Int)) / (K : Int) % (N : Int)).toNat = x / K + (N - P) := by
  have e : (-((N - x : Nat) : Int)) = (x : Int) + (K : Int) * (-(P : Int)) := by
    have h1 : ((N : Nat) : Int) = (P : Int) * K := by rw [hN]; simp
    have h2 : ((N - x : Nat) : Int) = (N : Int) - x := by omega
    rw [Int.mul_neg, Int.mul_comm, ← h1, h2]; omega
  rw [e, Int.add_mul_ediv_left _ _ (by omega), ← Int.natCast_ediv]
  obtain ⟨D, eD⟩ : ∃ D, D = x / K := ⟨_, rfl⟩
  rw [← eD] at hD ⊢
  rw [show (D : Int) + -(P : Int) = -((P - D : Nat) : Int) from by omega, neg_emod (by omega) (by omega), Nat.mod_eq_of_lt (by omega)]
  omega
theorem shrs_num {n : Int} {x k M : Nat} (h : Wd.ok n) (hx : x < Wd.md n) (hM : Wd.md n = 2 * M) (hk : k < n.toNat) :
    (Wd.sgn n x / 2 ^ k % (Wd.md n : Int)).toNat = x / 2 ^ k + (if decide (M ≤ x) = true then 2 ^ n.toNat - 2 ^ (n.toNat - k) else 0) := by
  have SX := sgn_case h hx hM
  have hmp := Wd.md_pow h
  rw [← hmp]
  obtain ⟨m, hm⟩ : ∃ m, n.toNat = m + k := ⟨n.toNat - k, by omega⟩
  rw [hm, show m + k - k = m from by omega]
  have hN : Wd.md n = 2 ^ m * 2 ^ k := by rw [hmp, hm, Nat.pow_add]
  have h2 : x / 2 ^ k < 2 ^ m := by rw [Nat.div_lt_iff_lt_mul (Nat.two_pow_pos _), ← hN]; exact hx
  have hle : 2 ^ m ≤ Wd.md n := by rw [hN]; exact Nat.le_mul_of_pos_right _ (Nat.two_pow_pos _)
  have hK : (2 : Int) ^ k = ((2 ^ k : Nat) : Int) := by simp
  by_cases px : M ≤ x
  · rw [SX.1 px, if_pos (by simp [px]), hK, shr_neg x _ _ _ hN hx (Nat.two_pow_pos _) h2 hle]
  · rw [SX.2 (by omega), if_neg (by simp [px]), hK, ← Int.natCast_ediv, nat_emod, Nat.mod_eq_of_lt (Nat.lt_of_lt_of_le h2 hle)]
    rfl
theorem Bo.at_ {w : World} {g n i : Nat} {f : Nat → Bool} (h : Bo w g n f) (hi : i < n) : w.cell? ⟨g, i, none⟩ = some (.bool (f i)) := h.2 i hi
theorem mxn_bin (n : Int) (x y : Nat) : Wd.bin 7 n x y = mxn 0 x y ∧ Wd.bin 8 n x y = mxn 1 x y ∧ Wd.bin 9 n x y = mxn 2 x y := by
  simp [Wd.bin, mxn]
theorem bz_of {op n : Int} {a b : Nat} (h : op < 3 ∨ 6 < op) : Wd.bz op n a b = Wd.bin op n (Wd.cut n a) (Wd.cut n b) ∧ Wd.tr op n a b = 0 := by
  have : Wd.trap op n (Wd.cut n a) (Wd.cut n b) = 0 := by unfold Wd.trap; rw [if_pos h]
  exact ⟨by unfold Wd.bz; rw [if_pos this], this⟩
theorem md_two {n : Int} (h : Wd.ok n) : Wd.md n = 2 * 2 ^ (n.toNat - 1) := by
  rcases h with rfl | rfl <;> rfl
set_option linter.unusedSectionVars false
section
variable (n : Int) (h : Wd.ok n) (a b : Nat) (ha : a < 18446744073709551616) (hb : b < 18446744073709551616)
include h
theorem rb_0 (ha : a < 18446744073709551616) (hb : b < 18446744073709551616) : Wd.bz 0 n a b = (Wd.cut n a + Wd.cut n b + false.toNat) % 2 ^ n.toNat ∧ Wd.tr 0 n a b = 0 := by
  rw [(bz_of (by decide)).1, ← Wd.md_pow h]; exact ⟨by simp [Wd.bin], (bz_of (by decide)).2⟩
theorem rb_1 (ha : a < 18446744073709551616) (hb : b < 18446744073709551616) : Wd.bz 1 n a b = (Wd.cut n a + 2 ^ n.toNat - Wd.cut n b) % 2 ^ n.toNat ∧ Wd.tr 1 n a b = 0 := by
  rw [(bz_of (by decide)).1, ← Wd.md_pow h]; exact ⟨by simp [Wd.bin], (bz_of (by decide)).2⟩
theorem rb_2 (ha : a < 18446744073709551616) (hb : b < 18446744073709551616) : Wd.bz 2 n a b = Wd.cut n a * Wd.cut n b % 2 ^ n.toNat ∧ Wd.tr 2 n a b = 0 := by
  rw [(bz_of (by decide)).1, ← Wd.md_pow h]; exact ⟨by simp [Wd.bin], (bz_of (by decide)).2⟩
theorem rb_7 (ha : a < 18446744073709551616) (hb : b < 18446744073709551616) : Wd.bz 7 n a b = mxn 0 (Wd.cut n a) (Wd.cut n b) ∧ Wd.tr 7 n a b = 0 := by
  rw [(bz_of (by decide)).1]; exact ⟨(mxn_bin n _ _).1, (bz_of (by decide)).2⟩
theorem rb_8 (ha : a < 18446744073709551616) (hb : b < 18446744073709551616) : Wd.bz 8 n a b = mxn 1 (Wd.cut n a) (Wd.cut n b) ∧ Wd.tr 8 n a b = 0 := by
  rw [(bz_of (by decide)).1]; exact ⟨(mxn_bin n _ _).2.1, (bz_of (by decide)).2⟩
theorem rb_9 (ha : a < 18446744073709551616) (hb : b < 18446744073709551616) : Wd.bz 9 n a b = mxn 2 (Wd.cut n a) (Wd.cut n b) ∧ Wd.tr 9 n a b = 0 := by
  rw [(bz_of (by decide)).1]; exact ⟨(mxn_bin n _ _).2.2, (bz_of (by decide)).2⟩
theorem rb_10 (ha : a < 18446744073709551616) (hb : b < 18446744073709551616) : Wd.bz 10 n a b = Wd.cut n a * 2 ^ (Wd.cut n b % n.toNat) % 2 ^ n.toNat ∧ Wd.tr 10 n a b = 0 := by
  rw [(bz_of (by decide)).1, ← Wd.md_pow h]; exact ⟨by simp [Wd.bin], (bz_of (by decide)).2⟩
theorem rb_11 (ha : a < 18446744073709551616) (hb : b < 18446744073709551616) : Wd.bz 11 n a b = Wd.cut n a / 2 ^ (Wd.cut n b % n.toNat) + (if bt (Wd.cut n a) (n.toNat - 1) = true then 2 ^ n.toNat - 2 ^ (n.toNat - Wd.cut n b % n.toNat) else 0) ∧ Wd.tr 11 n a b = 0 := by
  have hx := Wd.cut_lt h ha
  have h1 : 1 ≤ n.toNat := by rcases h with rfl | rfl <;> decide
  have e : bt (Wd.cut n a) (n.toNat - 1) = decide (2 ^ (n.toNat - 1) ≤ Wd.cut n a) := top_bit (by rw [show n.toNat - 1 + 1 = n.toNat by omega, ← Wd.md_pow h]; exact hx)
  rw [(bz_of (by decide)).1, e, ← shrs_num h hx (md_two h) (Wd.sh_lt h (Wd.cut n b))]
  exact ⟨by simp [Wd.bin], (bz_of (by decide)).2⟩
theorem rb_12 (ha : a < 18446744073709551616) (hb : b < 18446744073709551616) : Wd.bz 12 n a b = Wd.cut n a / 2 ^ (Wd.cut n b % n.toNat) + (if false = true then 2 ^ n.toNat - 2 ^ (n.toNat - Wd.cut n b % n.toNat) else 0) ∧ Wd.tr 12 n a b = 0 := by
  rw [(bz_of (by decide)).1]; exact ⟨by simp [Wd.bin], (bz_of (by decide)).2⟩
end
set_option maxHeartbeats 4000000 in
set_option maxRecDepth 100000 in
theorem RB_0_32 (a b : Nat) (w : World) (ha : a < 18446744073709551616) (hb : b < 18446744073709551616) :
    Calls Try.prog 11 #[.int .i64 0, .int .i64 32, .int .u64 a, .int .u64 b] w fun e w' => e = .returned (.tuple #[.int .u64 ((Wd.bz 0 32 a b : Nat) : Int), .int .i64 ((Wd.tr 0 32 a b : Nat) : Int)]) ∧ Below w.heap.size w w' := by
  have hX : Wd.cut 32 a < 2 ^ 32 := Wd.cut_lt (n := 32) (.inl rfl) ha
  have hY : Wd.cut 32 b < 2 ^ 32 := Wd.cut_lt (n := 32) (.inl rfl) hb
  have L1 : Hid (∀ W : World, Calls Try.prog 19 #[.int .i64 32, .int .u64 a] W (LPost W.heap.size 32 (bt (Wd.cut 32 a)) W)) := Lib.hid (fun W => (List_any 32 a W (by decide) (by decide) ha).mono fun e w' h => h.is (vl_cut 32 a (.inl rfl) ha))
  have L2 : Hid (∀ W : World, Calls Try.prog 19 #[.int .i64 32, .int .u64 b] W (LPost W.heap.size 32 (bt (Wd.cut 32 b)) W)) := Lib.hid (fun W => (List_any 32 b W (by decide) (by decide) hb).mono fun e w' h => h.is (vl_cut 32 b (.inl rfl) hb))
  have HR0 : Hid (Wd.bz 0 32 a b = (Wd.cut 32 a + Wd.cut 32 b + false.toNat) % 2 ^ 32 ∧ Wd.tr 0 32 a b = 0) := Lib.hid (rb_0 32 (.inl rfl) a b ha hb)
  generalize Wd.cut 32 a = X at hX L1 HR0
  generalize Wd.cut 32 b = Y at hY L2 HR0
  obtain ⟨R, eR⟩ : ∃ R, R = (X + Y + false.toNat) % 2 ^ 32 := ⟨_, rfl⟩
  have hR : R < 2 ^ 32 := by
    rw [eR]
    exact Nat.mod_lt _ (Nat.two_pow_pos _)
  have C : Hid (∀ (W : World) (g1 c1 g2 c2 : Nat) (a1 : 32 ≤ c1) (a2 : c1 ≤ 9223372036854775807) (a3 : 32 ≤ c2) (a4 : c2 ≤ 9223372036854775807) (p1 : Bo W g1 32 (bt X)) (p2 : Bo W g2 32 (bt Y)), Calls Try.prog 21 #[.slice (some ⟨g1, 0, none⟩) 32 c1, .slice (some ⟨g2, 0, none⟩) 32 c2, .bool false] W (LPost W.heap.size 32 (bt R) W)) := Lib.hid (fun W g1 c1 g2 c2 a1 a2 a3 a4 p1 p2 => by rw [eR]; exact Add_v g1 c1 g2 c2 32 X Y false W (by decide) (by decide) a1 a3 a2 a4 hX hY p1 p2)
  have kk : (Y : Int) % 32 = ((Y % 32 : Nat) : Int) := by omega
  have kt : (Y : Int).tmod 32 = ((Y % 32 : Nat) : Int) := by rw [Int.tmod_eq_emod_of_nonneg (by omega)]; omega
  have hk : Y % 32 < 32 := Nat.mod_lt _ (by decide)
  obtain ⟨k, ek⟩ : ∃ k, k = Y % 32 := ⟨_, rfl⟩
  rw [← ek] at hk kk kt
  have WY : Hid (∀ (W : World) (g c : Nat), 32 ≤ c → c ≤ 9223372036854775807 → Bo W g 32 (bt Y) → Calls Try.prog 20 #[.slice (some ⟨g, 0, none⟩) 32 c] W fun e w' => e = .returned (.int .u64 (Y : Int)) ∧ W = w') := Lib.hid (fun W g c a1 a2 b1 => Word_v g c 32 Y W (by decide) a1 a2 hY b1)
  have WR : Hid (∀ (W : World) (g c : Nat), 32 ≤ c → c ≤ 9223372036854775807 → Bo W g 32 (bt R) → Calls Try.prog 20 #[.slice (some ⟨g, 0, none⟩) 32 c] W fun e w' => e = .returned (.int .u64 (R : Int)) ∧ W = w') := Lib.hid (fun W g c a1 a2 b1 => Word_v g c 32 R W (by decide) a1 a2 hR b1)
  have hYb : (Y : Int) < 18446744073709551616 := by omega
  have HR : Hid (Wd.bz 0 32 a b = R ∧ Wd.tr 0 32 a b = 0) := Lib.hid ⟨by rw [HR0.out.1, eR], HR0.out.2⟩
  rw [HR.out.1, HR.out.2]
  clear hX hR HR0 HR ek eR ha hb
  go_enter Try.func11, Try.ntmps11
  go_wp2_with (first
    | (go_at_call 19; with_reducible refine (L1.out _).mono ?_; rintro e w1 hL; unfold LPost at hL; obtain ⟨g1, c1, rfl, n1, m1, b1, k1, h1⟩ := hL; have P1 := Lib.hid b1; have B1 := Lib.hid h1; clear b1 k1 h1)
    | (go_at_call 19; with_reducible refine (L2.out _).mono ?_; rintro e w2 hL; unfold LPost at hL; obtain ⟨g2, c2, rfl, n2, m2, b2, k2, h2⟩ := hL; have P2 := Lib.hid b2; have P1' := Lib.hid (P1.out.below h2 P1.out.lt); have B2 := Lib.hid (B1.out.trans (h2.mono B1.out.size)); clear b2 k2 h2)
    | (go_at_call 20; with_reducible refine (WY.out _ _ _ n2 m2 P2.out).mono ?_; rintro e w3 ⟨rfl, rfl⟩)
    | (go_at_call 21; with_reducible refine (C.out _ _ _ _ _ n1 m1 n2 m2 P1'.out P2.out).mono ?_; rintro e w4 hL; unfold LPost at hL; obtain ⟨g3, c3, rfl, n3, m3, b3, k3, h3⟩ := hL; have P3 := Lib.hid b3; have B3 := Lib.hid (B2.out.trans (h3.mono B2.out.size)); clear b3 k3 h3)
    | (go_at_call 20; with_reducible refine (WR.out _ _ _ n3 m3 P3.out).mono ?_; rintro e w5 ⟨rfl, rfl⟩))
  go_ret2
  exact ⟨rfl, B3.out⟩
set_option maxHeartbeats 4000000 in
set_option maxRecDepth 100000 in
theorem RB_0_64 (a b : Nat) (w : World) (ha : a < 18446744073709551616) (hb : b < 18446744073709551616) :
    Calls Try.prog 11 #[.int .i64 0, .int .i64 64, .int .u64 a, .int .u64 b] w fun e w' => e = .returned (.tuple #[.int .u64 ((Wd.bz 0 64 a b : Nat) : Int), .int .i64 ((Wd.tr 0 64 a b : Nat) : Int)]) ∧ Below w.heap.size w w' := by
  have hX : Wd.cut 64 a < 2 ^ 64 := Wd.cut_lt (n := 64) (.inr rfl) ha
  have hY : Wd.cut 64 b < 2 ^ 64 := Wd.cut_lt (n := 64) (.inr rfl) hb
  have L1 : Hid (∀ W : World, Calls Try.prog 19 #[.int .i64 64, .int .u64 a] W (LPost W.heap.size 64 (bt (Wd.cut 64 a)) W)) := Lib.hid (fun W => (List_any 64 a W (by decide) (by decide) ha).mono fun e w' h => h.is (vl_cut 64 a (.inr rfl) ha))
  have L2 : Hid (∀ W : World, Calls Try.prog 19 #[.int .i64 64, .int .u64 b] W (LPost W.heap.size 64 (bt (Wd.cut 64 b)) W)) := Lib.hid (fun W => (List_any 64 b W (by decide) (by decide) hb).mono fun e w' h => h.is (vl_cut 64 b (.inr rfl) hb))
  have HR0 : Hid (Wd.bz 0 64 a b = (Wd.cut 64 a + Wd.cut 64 b + false.toNat) % 2 ^ 64 ∧ Wd.tr 0 64 a b = 0) := Lib.hid (rb_0 64 (.inr rfl) a b ha hb)
  generalize Wd.cut 64 a = X at hX L1 HR0
  generalize Wd.cut 64 b = Y at hY L2 HR0
  obtain ⟨R, eR⟩ : ∃ R, R = (X + Y + false.toNat) % 2 ^ 64 := ⟨_, rfl⟩
  have hR : R < 2 ^ 64 := by
    rw [eR]
    exact Nat.mod_lt _ (Nat.two_pow_pos _)
  have C : Hid (∀ (W : World) (g1 c1 g2 c2 : Nat) (a1 : 64 ≤ c1) (a2 : c1 ≤ 9223372036854775807) (a3 : 64 ≤ c2) (a4 : c2 ≤ 9223372036854775807) (p1 : Bo W g1 64 (bt X)) (p2 : Bo W g2 64 (bt Y)), Calls Try.prog 21 #[.slice (some ⟨g1, 0, none⟩) 64 c1, .slice (some ⟨g2, 0, none⟩) 64 c2, .bool false] W (LPost W.heap.size 64 (bt R) W)) := Lib.hid (fun W g1 c1 g2 c2 a1 a2 a3 a4 p1 p2 => by rw [eR]; exact Add_v g1 c1 g2 c2 64 X Y false W (by decide) (by decide) a1 a3 a2 a4 hX hY p1 p2)
  have kk : (Y : Int) % 64 = ((Y % 64 : Nat) : Int) := by omega
  have kt : (Y : Int).tmod 64 = ((Y % 64 : Nat) : Int) := by rw [Int.tmod_eq_emod_of_nonneg (by omega)]; omega
  have hk : Y % 64 < 64 := Nat.mod_lt _ (by decide)
  obtain ⟨k, ek⟩ : ∃ k, k = Y % 64 := ⟨_, rfl⟩
  rw [← ek] at hk kk kt
  have WY : Hid (∀ (W : World) (g c : Nat), 64 ≤ c → c ≤ 9223372036854775807 → Bo W g 64 (bt Y) → Calls Try.prog 20 #[.slice (some ⟨g, 0, none⟩) 64 c] W fun e w' => e = .returned (.int .u64 (Y : Int)) ∧ W = w') := Lib.hid (fun W g c a1 a2 b1 => Word_v g c 64 Y W (by decide) a1 a2 hY b1)
  have WR : Hid (∀ (W : World) (g c : Nat), 64 ≤ c → c ≤ 9223372036854775807 → Bo W g 64 (bt R) → Calls Try.prog 20 #[.slice (some ⟨g, 0, none⟩) 64 c] W fun e w' => e = .returned (.int .u64 (R : Int)) ∧ W = w') := Lib.hid (fun W g c a1 a2 b1 => Word_v g c 64 R W (by decide) a1 a2 hR b1)
  have hYb : (Y : Int) < 18446744073709551616 := by omega
  have HR : Hid (Wd.bz 0 64 a b = R ∧ Wd.tr 0 64 a b = 0) := Lib.hid ⟨by rw [HR0.out.1, eR], HR0.out.2⟩
  rw [HR.out.1, HR.out.2]
  clear hX hR HR0 HR ek eR ha hb
  go_enter Try.func11, Try.ntmps11
  go_wp2_with (first
    | (go_at_call 19; with_reducible refine (L1.out _).mono ?_; rintro e w1 hL; unfold LPost at hL; obtain ⟨g1, c1, rfl, n1, m1, b1, k1, h1⟩ := hL; have P1 := Lib.hid b1; have B1 := Lib.hid h1; clear b1 k1 h1)
    | (go_at_call 19; with_reducible refine (L2.out _).mono ?_; rintro e w2 hL; unfold LPost at hL; obtain ⟨g2, c2, rfl, n2, m2, b2, k2, h2⟩ := hL; have P2 := Lib.hid b2; have P1' := Lib.hid (P1.out.below h2 P1.out.lt); have B2 := Lib.hid (B1.out.trans (h2.mono B1.out.size)); clear b2 k2 h2)
    | (go_at_call 20; with_reducible refine (WY.out _ _ _ n2 m2 P2.out).mono ?_; rintro e w3 ⟨rfl, rfl⟩)
    | (go_at_call 21; with_reducible refine (C.out _ _ _ _ _ n1 m1 n2 m2 P1'.out P2.out).mono ?_; rintro e w4 hL; unfold LPost at hL; obtain ⟨g3, c3, rfl, n3, m3, b3, k3, h3⟩ := hL; have P3 := Lib.hid b3; have B3 := Lib.hid (B2.out.trans (h3.mono B2.out.size)); clear b3 k3 h3)
    | (go_at_call 20; with_reducible refine (WR.out _ _ _ n3 m3 P3.out).mono ?_; rintro e w5 ⟨rfl, rfl⟩))
  go_ret2
  exact ⟨rfl, B3.out⟩
set_option maxHeartbeats 4000000 in
set_option maxRecDepth 100000 in
theorem RB_1_32 (a b : Nat) (w : World) (ha : a < 18446744073709551616) (hb : b < 18446744073709551616) :
    Calls Try.prog 11 #[.int .i64 1, .int .i64 32, .int .u64 a, .int .u64 b] w fun e w' => e = .returned (.tuple #[.int .u64 ((Wd.bz 1 32 a b : Nat) : Int), .int .i64 ((Wd.tr 1 32 a b : Nat) : Int)]) ∧ Below w.heap.size w w' := by
  have hX : Wd.cut 32 a < 2 ^ 32 := Wd.cut_lt (n := 32) (.inl rfl) ha
  have hY : Wd.cut 32 b < 2 ^ 32 := Wd.cut_lt (n := 32) (.inl rfl) hb
  have L1 : Hid (∀ W : World, Calls Try.prog 19 #[.int .i64 32, .int .u64 a] W (LPost W.heap.size 32 (bt (Wd.cut 32 a)) W)) := Lib.hid (fun W => (List_any 32 a W (by decide) (by decide) ha).mono fun e w' h => h.is (vl_cut 32 a (.inl rfl) ha))
  have L2 : Hid (∀ W : World, Calls Try.prog 19 #[.int .i64 32, .int .u64 b] W (LPost W.heap.size 32 (bt (Wd.cut 32 b)) W)) := Lib.hid (fun W => (List_any 32 b W (by decide) (by decide) hb).mono fun e w' h => h.is (vl_cut 32 b (.inl rfl) hb))
  have HR0 : Hid (Wd.bz 1 32 a b = (Wd.cut 32 a + 2 ^ 32 - Wd.cut 32 b) % 2 ^ 32 ∧ Wd.tr 1 32 a b = 0) := Lib.hid (rb_1 32 (.inl rfl) a b ha hb)
  generalize Wd.cut 32 a = X at hX L1 HR0
  generalize Wd.cut 32 b = Y at hY L2 HR0
  obtain ⟨R, eR⟩ : ∃ R, R = (X + 2 ^ 32 - Y) % 2 ^ 32 := ⟨_, rfl⟩
  have hR : R < 2 ^ 32 := by
    rw [eR]
    exact Nat.mod_lt _ (Nat.two_pow_pos _)
  have C : Hid (∀ (W : World) (g1 c1 g2 c2 : Nat) (a1 : 32 ≤ c1) (a2 : c1 ≤ 9223372036854775807) (a3 : 32 ≤ c2) (a4 : c2 ≤ 9223372036854775807) (p1 : Bo W g1 32 (bt X)) (p2 : Bo W g2 32 (bt Y)), Calls Try.prog 22 #[.slice (some ⟨g1, 0, none⟩) 32 c1, .slice (some ⟨g2, 0, none⟩) 32 c2] W (LPost W.heap.size 32 (bt R) W)) := Lib.hid (fun W g1 c1 g2 c2 a1 a2 a3 a4 p1 p2 => by rw [eR]; exact Minus_v g1 c1 g2 c2 32 X Y W (by decide) (by decide) a1 a3 a2 a4 hX hY p1 p2)
  have kk : (Y : Int) % 32 = ((Y % 32 : Nat) : Int) := by omega
  have kt : (Y : Int).tmod 32 = ((Y % 32 : Nat) : Int) := by rw [Int.tmod_eq_emod_of_nonneg (by omega)]; omega
  have hk : Y % 32 < 32 := Nat.mod_lt _ (by decide)
  obtain ⟨k, ek⟩ : ∃ k, k = Y % 32 := ⟨_, rfl⟩
  rw [← ek] at hk kk kt
  have WY : Hid (∀ (W : World) (g c : Nat), 32 ≤ c → c ≤ 9223372036854775807 → Bo W g 32 (bt Y) → Calls Try.prog 20 #[.slice (some ⟨g, 0, none⟩) 32 c] W fun e w' => e = .returned (.int .u64 (Y : Int)) ∧ W = w') := Lib.hid (fun W g c a1 a2 b1 => Word_v g c 32 Y W (by decide) a1 a2 hY b1)
  have WR : Hid (∀ (W : World) (g c : Nat), 32 ≤ c → c ≤ 9223372036854775807 → Bo W g 32 (bt R) → Calls Try.prog 20 #[.slice (some ⟨g, 0, none⟩) 32 c] W fun e w' => e = .returned (.int .u64 (R : Int)) ∧ W = w') := Lib.hid (fun W g c a1 a2 b1 => Word_v g c 32 R W (by decide) a1 a2 hR b1)
  have hYb : (Y : Int) < 18446744073709551616 := by omega
  have HR : Hid (Wd.bz 1 32 a b = R ∧ Wd.tr 1 32 a b = 0) := Lib.hid ⟨by rw [HR0.out.1, eR], HR0.out.2⟩
  rw [HR.out.1, HR.out.2]
  clear hX hR HR0 HR ek eR ha hb
  go_enter Try.func11, Try.ntmps11
  go_wp2_with (first
    | (go_at_call 19; with_reducible refine (L1.out _).mono ?_; rintro e w1 hL; unfold LPost at hL; obtain ⟨g1, c1, rfl, n1, m1, b1, k1, h1⟩ := hL; have P1 := Lib.hid b1; have B1 := Lib.hid h1; clear b1 k1 h1)
    | (go_at_call 19; with_reducible refine (L2.out _).mono ?_; rintro e w2 hL; unfold LPost at hL; obtain ⟨g2, c2, rfl, n2, m2, b2, k2, h2⟩ := hL; have P2 := Lib.hid b2; have P1' := Lib.hid (P1.out.below h2 P1.out.lt); have B2 := Lib.hid (B1.out.trans (h2.mono B1.out.size)); clear b2 k2 h2)
    | (go_at_call 20; with_reducible refine (WY.out _ _ _ n2 m2 P2.out).mono ?_; rintro e w3 ⟨rfl, rfl⟩)
    | (go_at_call 22; with_reducible refine (C.out _ _ _ _ _ n1 m1 n2 m2 P1'.out P2.out).mono ?_; rintro e w4 hL; unfold LPost at hL; obtain ⟨g3, c3, rfl, n3, m3, b3, k3, h3⟩ := hL; have P3 := Lib.hid b3; have B3 := Lib.hid (B2.out.trans (h3.mono B2.out.size)); clear b3 k3 h3)
    | (go_at_call 20; with_reducible refine (WR.out _ _ _ n3 m3 P3.out).mono ?_; rintro e w5 ⟨rfl, rfl⟩))
  go_ret2
  exact ⟨rfl, B3.out⟩
set_option maxHeartbeats 4000000 in
set_option maxRecDepth 100000 in
theorem RB_1_64 (a b : Nat) (w : World) (ha : a < 18446744073709551616) (hb : b < 18446744073709551616) :
    Calls Try.prog 11 #[.int .i64 1, .int .i64 64, .int .u64 a, .int .u64 b] w fun e w' => e = .returned (.tuple #[.int .u64 ((Wd.bz 1 64 a b : Nat) : Int), .int .i64 ((Wd.tr 1 64 a b : Nat) : Int)]) ∧ Below w.heap.size w w' := by
  have hX : Wd.cut 64 a < 2 ^ 64 := Wd.cut_lt (n := 64) (.inr rfl) ha
  have hY : Wd.cut 64 b < 2 ^ 64 := Wd.cut_lt (n := 64) (.inr rfl) hb
  have L1 : Hid (∀ W : World, Calls Try.prog 19 #[.int .i64 64, .int .u64 a] W (LPost W.heap.size 64 (bt (Wd.cut 64 a)) W)) := Lib.hid (fun W => (List_any 64 a W (by decide) (by decide) ha).mono fun e w' h => h.is (vl_cut 64 a (.inr rfl) ha))
  have L2 : Hid (∀ W : World, Calls Try.prog 19 #[.int .i64 64, .int .u64 b] W (LPost W.heap.size 64 (bt (Wd.cut 64 b)) W)) := Lib.hid (fun W => (List_any 64 b W (by decide) (by decide) hb).mono fun e w' h => h.is (vl_cut 64 b (.inr rfl) hb))
  have HR0 : Hid (Wd.bz 1 64 a b = (Wd.cut 64 a + 2 ^ 64 - Wd.cut 64 b) % 2 ^ 64 ∧ Wd.tr 1 64 a b = 0) := Lib.hid (rb_1 64 (.inr rfl) a b ha hb)
  generalize Wd.cut 64 a = X at hX L1 HR0
  generalize Wd.cut 64 b = Y at hY L2 HR0
  obtain ⟨R, eR⟩ : ∃ R, R = (X + 2 ^ 64 - Y) % 2 ^ 64 := ⟨_, rfl⟩
  have hR : R < 2 ^ 64 := by
    rw [eR]
    exact Nat.mod_lt _ (Nat.two_pow_pos _)
  have C : Hid (∀ (W : World) (g1 c1 g2 c2 : Nat) (a1 : 64 ≤ c1) (a2 : c1 ≤ 9223372036854775807) (a3 : 64 ≤ c2) (a4 : c2 ≤ 9223372036854775807) (p1 : Bo W g1 64 (bt X)) (p2 : Bo W g2 64 (bt Y)), Calls Try.prog 22 #[.slice (some ⟨g1, 0, none⟩) 64 c1, .slice (some ⟨g2, 0, none⟩) 64 c2] W (LPost W.heap.size 64 (bt R) W)) := Lib.hid (fun W g1 c1 g2 c2 a1 a2 a3 a4 p1 p2 => by rw [eR]; exact Minus_v g1 c1 g2 c2 64 X Y W (by decide) (by decide) a1 a3 a2 a4 hX hY p1 p2)
  have kk : (Y : Int) % 64 = ((Y % 64 : Nat) : Int) := by omega
  have kt : (Y : Int).tmod 64 = ((Y % 64 : Nat) : Int) := by rw [Int.tmod_eq_emod_of_nonneg (by omega)]; omega
  have hk : Y % 64 < 64 := Nat.mod_lt _ (by decide)
  obtain ⟨k, ek⟩ : ∃ k, k = Y % 64 := ⟨_, rfl⟩
  rw [← ek] at hk kk kt
  have WY : Hid (∀ (W : World) (g c : Nat), 64 ≤ c → c ≤ 9223372036854775807 → Bo W g 64 (bt Y) → Calls Try.prog 20 #[.slice (some ⟨g, 0, none⟩) 64 c] W fun e w' => e = .returned (.int .u64 (Y : Int)) ∧ W = w') := Lib.hid (fun W g c a1 a2 b1 => Word_v g c 64 Y W (by decide) a1 a2 hY b1)
  have WR : Hid (∀ (W : World) (g c : Nat), 64 ≤ c → c ≤ 9223372036854775807 → Bo W g 64 (bt R) → Calls Try.prog 20 #[.slice (some ⟨g, 0, none⟩) 64 c] W fun e w' => e = .returned (.int .u64 (R : Int)) ∧ W = w') := Lib.hid (fun W g c a1 a2 b1 => Word_v g c 64 R W (by decide) a1 a2 hR b1)
  have hYb : (Y : Int) < 18446744073709551616 := by omega
  have HR : Hid (Wd.bz 1 64 a b = R ∧ Wd.tr 1 64 a b = 0) := Lib.hid ⟨by rw [HR0.out.1, eR], HR0.out.2⟩
  rw [HR.out.1, HR.out.2]
  clear hX hR HR0 HR ek eR ha hb
  go_enter Try.func11, Try.ntmps11
  go_wp2_with (first
    | (go_at_call 19; with_reducible refine (L1.out _).mono ?_; rintro e w1 hL; unfold LPost at hL; obtain ⟨g1, c1, rfl, n1, m1, b1, k1, h1⟩ := hL; have P1 := Lib.hid b1; have B1 := Lib.hid h1; clear b1 k1 h1)
    | (go_at_call 19; with_reducible refine (L2.out _).mono ?_; rintro e w2 hL; unfold LPost at hL; obtain ⟨g2, c2, rfl, n2, m2, b2, k2, h2⟩ := hL; have P2 := Lib.hid b2; have P1' := Lib.hid (P1.out.below h2 P1.out.lt); have B2 := Lib.hid (B1.out.trans (h2.mono B1.out.size)); clear b2 k2 h2)
    | (go_at_call 20; with_reducible refine (WY.out _ _ _ n2 m2 P2.out).mono ?_; rintro e w3 ⟨rfl, rfl⟩)
    | (go_at_call 22; with_reducible refine (C.out _ _ _ _ _ n1 m1 n2 m2 P1'.out P2.out).mono ?_; rintro e w4 hL; unfold LPost at hL; obtain ⟨g3, c3, rfl, n3, m3, b3, k3, h3⟩ := hL; have P3 := Lib.hid b3; have B3 := Lib.hid (B2.out.trans (h3.mono B2.out.size)); clear b3 k3 h3)
    | (go_at_call 20; with_reducible refine (WR.out _ _ _ n3 m3 P3.out).mono ?_; rintro e w5 ⟨rfl, rfl⟩))
  go_ret2
  exact ⟨rfl, B3.out⟩
set_option maxHeartbeats 4000000 in
set_option maxRecDepth 100000 in
theorem RB_2_32 (a b : Nat) (w : World) (ha : a < 18446744073709551616) (hb : b < 18446744073709551616) :
    Calls Try.prog 11 #[.int .i64 2, .int .i64 32, .int .u64 a, .int .u64 b] w fun e w' => e = .returned (.tuple #[.int .u64 ((Wd.bz 2 32 a b : Nat) : Int), .int .i64 ((Wd.tr 2 32 a b : Nat) : Int)]) ∧ Below w.heap.size w w' := by
  have hX : Wd.cut 32 a < 2 ^ 32 := Wd.cut_lt (n := 32) (.inl rfl) ha
  have hY : Wd.cut 32 b < 2 ^ 32 := Wd.cut_lt (n := 32) (.inl rfl) hb
  have L1 : Hid (∀ W : World, Calls Try.prog 19 #[.int .i64 32, .int .u64 a] W (LPost W.heap.size 32 (bt (Wd.cut 32 a)) W)) := Lib.hid (fun W => (List_any 32 a W (by decide) (by decide) ha).mono fun e w' h => h.is (vl_cut 32 a (.inl rfl) ha))
  have L2 : Hid (∀ W : World, Calls Try.prog 19 #[.int .i64 32, .int .u64 b] W (LPost W.heap.size 32 (bt (Wd.cut 32 b)) W)) := Lib.hid (fun W => (List_any 32 b W (by decide) (by decide) hb).mono fun e w' h => h.is (vl_cut 32 b (.inl rfl) hb))
  have HR0 : Hid (Wd.bz 2 32 a b = Wd.cut 32 a * Wd.cut 32 b % 2 ^ 32 ∧ Wd.tr 2 32 a b = 0) := Lib.hid (rb_2 32 (.inl rfl) a b ha hb)
  generalize Wd.cut 32 a = X at hX L1 HR0
  generalize Wd.cut 32 b = Y at hY L2 HR0
  obtain ⟨R, eR⟩ : ∃ R, R = X * Y % 2 ^ 32 := ⟨_, rfl⟩
  have hR : R < 2 ^ 32 := by
    rw [eR]
    exact Nat.mod_lt _ (Nat.two_pow_pos _)
  have C : Hid (∀ (W : World) (g1 c1 g2 c2 : Nat) (a1 : 32 ≤ c1) (a2 : c1 ≤ 9223372036854775807) (a3 : 32 ≤ c2) (a4 : c2 ≤ 9223372036854775807) (p1 : Bo W g1 32 (bt X)) (p2 : Bo W g2 32 (bt Y)), Calls Try.prog 23 #[.slice (some ⟨g1, 0, none⟩) 32 c1, .slice (some ⟨g2, 0, none⟩) 32 c2] W (LPost W.heap.size 32 (bt R) W)) := Lib.hid (fun W g1 c1 g2 c2 a1 a2 a3 a4 p1 p2 => by rw [eR]; exact Mul_v g1 c1 g2 c2 32 X Y W (by decide) (by decide) a1 a3 a2 a4 hX hY p1 p2)
  have kk : (Y : Int) % 32 = ((Y % 32 : Nat) : Int) := by omega
  have kt : (Y : Int).tmod 32 = ((Y % 32 : Nat) : Int) := by rw [Int.tmod_eq_emod_of_nonneg (by omega)]; omega
  have hk : Y % 32 < 32 := Nat.mod_lt _ (by decide)
  obtain ⟨k, ek⟩ : ∃ k, k = Y % 32 := ⟨_, rfl⟩
  rw [← ek] at hk kk kt
  have WY : Hid (∀ (W : World) (g c : Nat), 32 ≤ c → c ≤ 9223372036854775807 → Bo W g 32 (bt Y) → Calls Try.prog 20 #[.slice (some ⟨g, 0, none⟩) 32 c] W fun e w' => e = .returned (.int .u64 (Y : Int)) ∧ W = w') := Lib.hid (fun W g c a1 a2 b1 => Word_v g c 32 Y W (by decide) a1 a2 hY b1)
  have WR : Hid (∀ (W : World) (g c : Nat), 32 ≤ c → c ≤ 9223372036854775807 → Bo W g 32 (bt R) → Calls Try.prog 20 #[.slice (some ⟨g, 0, none⟩) 32 c] W fun e w' => e = .returned (.int .u64 (R : Int)) ∧ W = w') := Lib.hid (fun W g c a1 a2 b1 => Word_v g c 32 R W (by decide) a1 a2 hR b1)
  have hYb : (Y : Int) < 18446744073709551616 := by omega
  have HR : Hid (Wd.bz 2 32 a b = R ∧ Wd.tr 2 32 a b = 0) := Lib.hid ⟨by rw [HR0.out.1, eR], HR0.out.2⟩
  rw [HR.out.1, HR.out.2]
  clear hX hR HR0 HR ek eR ha hb
  go_enter Try.func11, Try.ntmps11
  go_wp2_with (first
    | (go_at_call 19; with_reducible refine (L1.out _).mono ?_; rintro e w1 hL; unfold LPost at hL; obtain ⟨g1, c1, rfl, n1, m1, b1, k1, h1⟩ := hL; have P1 := Lib.hid b1; have B1 := Lib.hid h1; clear b1 k1 h1)
    | (go_at_call 19; with_reducible refine (L2.out _).mono ?_; rintro e w2 hL; unfold LPost at hL; obtain ⟨g2, c2, rfl, n2, m2, b2, k2, h2⟩ := hL; have P2 := Lib.hid b2; have P1' := Lib.hid (P1.out.below h2 P1.out.lt); have B2 := Lib.hid (B1.out.trans (h2.mono B1.out.size)); clear b2 k2 h2)
    | (go_at_call 20; with_reducible refine (WY.out _ _ _ n2 m2 P2.out).mono ?_; rintro e w3 ⟨rfl, rfl⟩)
    | (go_at_call 23; with_reducible refine (C.out _ _ _ _ _ n1 m1 n2 m2 P1'.out P2.out).mono ?_; rintro e w4 hL; unfold LPost at hL; obtain ⟨g3, c3, rfl, n3, m3, b3, k3, h3⟩ := hL; have P3 := Lib.hid b3; have B3 := Lib.hid (B2.out.trans (h3.mono B2.out.size)); clear b3 k3 h3)
    | (go_at_call 20; with_reducible refine (WR.out _ _ _ n3 m3 P3.out).mono ?_; rintro e w5 ⟨rfl, rfl⟩))
  go_ret2
  exact ⟨rfl, B3.out⟩
set_option maxHeartbeats 4000000 in
set_option maxRecDepth 100000 in
theorem RB_2_64 (a b : Nat) (w : World) (ha : a < 18446744073709551616) (hb : b < 18446744073709551616) :
    Calls Try.prog 11 #[.int .i64 2, .int .i64 64, .int .u64 a, .int .u64 b] w fun e w' => e = .returned (.tuple #[.int .u64 ((Wd.bz 2 64 a b : Nat) : Int), .int .i64 ((Wd.tr 2 64 a b : Nat) : Int)]) ∧ Below w.heap.size w w' := by
  have hX : Wd.cut 64 a < 2 ^ 64 := Wd.cut_lt (n := 64) (.inr rfl) ha
  have hY : Wd.cut 64 b < 2 ^ 64 := Wd.cut_lt (n := 64) (.inr rfl) hb
  have L1 : Hid (∀ W : World, Calls Try.prog 19 #[.int .i64 64, .int .u64 a] W (LPost W.heap.size 64 (bt (Wd.cut 64 a)) W)) := Lib.hid (fun W => (List_any 64 a W (by decide) (by decide) ha).mono fun e w' h => h.is (vl_cut 64 a (.inr rfl) ha))
  have L2 : Hid (∀ W : World, Calls Try.prog 19 #[.int .i64 64, .int .u64 b] W (LPost W.heap.size 64 (bt (Wd.cut 64 b)) W)) := Lib.hid (fun W => (List_any 64 b W (by decide) (by decide) hb).mono fun e w' h => h.is (vl_cut 64 b (.inr rfl) hb))
  have HR0 : Hid (Wd.bz 2 64 a b = Wd.cut 64 a * Wd.cut 64 b % 2 ^ 64 ∧ Wd.tr 2 64 a b = 0) := Lib.hid (rb_2 64 (.inr rfl) a b ha hb)
  generalize Wd.cut 64 a = X at hX L1 HR0
  generalize Wd.cut 64 b = Y at hY L2 HR0
  obtain ⟨R, eR⟩ : ∃ R, R = X * Y % 2 ^ 64 := ⟨_, rfl⟩
  have hR : R < 2 ^ 64 := by
    rw [eR]
    exact Nat.mod_lt _ (Nat.two_pow_pos _)
  have C : Hid (∀ (W : World) (g1 c1 g2 c2 : Nat) (a1 : 64 ≤ c1) (a2 : c1 ≤ 9223372036854775807) (a3 : 64 ≤ c2) (a4 : c2 ≤ 9223372036854775807) (p1 : Bo W g1 64 (bt X)) (p2 : Bo W g2 64 (bt Y)), Calls Try.prog 23 #[.slice (some ⟨g1, 0, none⟩) 64 c1, .slice (some ⟨g2, 0, none⟩) 64 c2] W (LPost W.heap.size 64 (bt R) W)) := Lib.hid (fun W g1 c1 g2 c2 a1 a2 a3 a4 p1 p2 => by rw [eR]; exact Mul_v g1 c1 g2 c2 64 X Y W (by decide) (by decide) a1 a3 a2 a4 hX hY p1 p2)
  have kk : (Y : Int) % 64 = ((Y % 64 : Nat) : Int) := by omega
  have kt : (Y : Int).tmod 64 = ((Y % 64 : Nat) : Int) := by rw [Int.tmod_eq_emod_of_nonneg (by omega)]; omega
  have hk : Y % 64 < 64 := Nat.mod_lt _ (by decide)
  obtain ⟨k, ek⟩ : ∃ k, k = Y % 64 := ⟨_, rfl⟩
  rw [← ek] at hk kk kt
  have WY : Hid (∀ (W : World) (g c : Nat), 64 ≤ c → c ≤ 9223372036854775807 → Bo W g 64 (bt Y) → Calls Try.prog 20 #[.slice (some ⟨g, 0, none⟩) 64 c] W fun e w' => e = .returned (.int .u64 (Y : Int)) ∧ W = w') := Lib.hid (fun W g c a1 a2 b1 => Word_v g c 64 Y W (by decide) a1 a2 hY b1)
  have WR : Hid (∀ (W : World) (g c : Nat), 64 ≤ c → c ≤ 9223372036854775807 → Bo W g 64 (bt R) → Calls Try.prog 20 #[.slice (some ⟨g, 0, none⟩) 64 c] W fun e w' => e = .returned (.int .u64 (R : Int)) ∧ W = w') := Lib.hid (fun W g c a1 a2 b1 => Word_v g c 64 R W (by decide) a1 a2 hR b1)
  have hYb : (Y : Int) < 18446744073709551616 := by omega
  have HR : Hid (Wd.bz 2 64 a b = R ∧ Wd.tr 2 64 a b = 0) := Lib.hid ⟨by rw [HR0.out.1, eR], HR0.out.2⟩
  rw [HR.out.1, HR.out.2]
  clear hX hR HR0 HR ek eR ha hb
  go_enter Try.func11, Try.ntmps11
  go_wp2_with (first
    | (go_at_call 19; with_reducible refine (L1.out _).mono ?_; rintro e w1 hL; unfold LPost at hL; obtain ⟨g1, c1, rfl, n1, m1, b1, k1, h1⟩ := hL; have P1 := Lib.hid b1; have B1 := Lib.hid h1; clear b1 k1 h1)
    | (go_at_call 19; with_reducible refine (L2.out _).mono ?_; rintro e w2 hL; unfold LPost at hL; obtain ⟨g2, c2, rfl, n2, m2, b2, k2, h2⟩ := hL; have P2 := Lib.hid b2; have P1' := Lib.hid (P1.out.below h2 P1.out.lt); have B2 := Lib.hid (B1.out.trans (h2.mono B1.out.size)); clear b2 k2 h2)
    | (go_at_call 20; with_reducible refine (WY.out _ _ _ n2 m2 P2.out).mono ?_; rintro e w3 ⟨rfl, rfl⟩)
    | (go_at_call 23; with_reducible refine (C.out _ _ _ _ _ n1 m1 n2 m2 P1'.out P2.out).mono ?_; rintro e w4 hL; unfold LPost at hL; obtain ⟨g3, c3, rfl, n3, m3, b3, k3, h3⟩ := hL; have P3 := Lib.hid b3; have B3 := Lib.hid (B2.out.trans (h3.mono B2.out.size)); clear b3 k3 h3)
    | (go_at_call 20; with_reducible refine (WR.out _ _ _ n3 m3 P3.out).mono ?_; rintro e w5 ⟨rfl, rfl⟩))
  go_ret2
  exact ⟨rfl, B3.out⟩
set_option maxHeartbeats 4000000 in
set_option maxRecDepth 100000 in
theorem RB_7_32 (a b : Nat) (w : World) (ha : a < 18446744073709551616) (hb : b < 18446744073709551616) :
    Calls Try.prog 11 #[.int .i64 7, .int .i64 32, .int .u64 a, .int .u64 b] w fun e w' => e = .returned (.tuple #[.int .u64 ((Wd.bz 7 32 a b : Nat) : Int), .int .i64 ((Wd.tr 7 32 a b : Nat) : Int)]) ∧ Below w.heap.size w w' := by
  have hX : Wd.cut 32 a < 2 ^ 32 := Wd.cut_lt (n := 32) (.inl rfl) ha
  have hY : Wd.cut 32 b < 2 ^ 32 := Wd.cut_lt (n := 32) (.inl rfl) hb
  have L1 : Hid (∀ W : World, Calls Try.prog 19 #[.int .i64 32, .int .u64 a] W (LPost W.heap.size 32 (bt (Wd.cut 32 a)) W)) := Lib.hid (fun W => (List_any 32 a W (by decide) (by decide) ha).mono fun e w' h => h.is (vl_cut 32 a (.inl rfl) ha))
  have L2 : Hid (∀ W : World, Calls Try.prog 19 #[.int .i64 32, .int .u64 b] W (LPost W.heap.size 32 (bt (Wd.cut 32 b)) W)) := Lib.hid (fun W => (List_any 32 b W (by decide) (by decide) hb).mono fun e w' h => h.is (vl_cut 32 b (.inl rfl) hb))
  have HR0 : Hid (Wd.bz 7 32 a b = mxn 0 (Wd.cut 32 a) (Wd.cut 32 b) ∧ Wd.tr 7 32 a b = 0) := Lib.hid (rb_7 32 (.inl rfl) a b ha hb)
  generalize Wd.cut 32 a = X at hX L1 HR0
  generalize Wd.cut 32 b = Y at hY L2 HR0
  obtain ⟨R, eR⟩ : ∃ R, R = mxn 0 X Y := ⟨_, rfl⟩
  have hR : R < 2 ^ 32 := by
    rw [eR]
    exact Nat.and_lt_two_pow _ hY
  have C : Hid (∀ (W : World) (g1 c1 g2 c2 : Nat) (a1 : 32 ≤ c1) (a2 : c1 ≤ 9223372036854775807) (a3 : 32 ≤ c2) (a4 : c2 ≤ 9223372036854775807) (p1 : Bo W g1 32 (bt X)) (p2 : Bo W g2 32 (bt Y)), Calls Try.prog 27 #[.slice (some ⟨g1, 0, none⟩) 32 c1, .slice (some ⟨g2, 0, none⟩) 32 c2, .int .i64 0] W (LPost W.heap.size 32 (bt R) W)) := Lib.hid (fun W g1 c1 g2 c2 a1 a2 a3 a4 p1 p2 => by rw [eR]; exact Mix_v 0 (by decide) g1 c1 g2 c2 32 X Y W (by decide) (by decide) a1 a3 a2 a4 hX hY p1 p2)
  have kk : (Y : Int) % 32 = ((Y % 32 : Nat) : Int) := by omega
  have kt : (Y : Int).tmod 32 = ((Y % 32 : Nat) : Int) := by rw [Int.tmod_eq_emod_of_nonneg (by omega)]; omega
  have hk : Y % 32 < 32 := Nat.mod_lt _ (by decide)
  obtain ⟨k, ek⟩ : ∃ k, k = Y % 32 := ⟨_, rfl⟩
  rw [← ek] at hk kk kt
  have WY : Hid (∀ (W : World) (g c : Nat), 32 ≤ c → c ≤ 9223372036854775807 → Bo W g 32 (bt Y) → Calls Try.prog 20 #[.slice (some ⟨g, 0, none⟩) 32 c] W fun e w' => e = .returned (.int .u64 (Y : Int)) ∧ W = w') := Lib.hid (fun W g c a1 a2 b1 => Word_v g c 32 Y W (by decide) a1 a2 hY b1)
  have WR : Hid (∀ (W : World) (g c : Nat), 32 ≤ c → c ≤ 9223372036854775807 → Bo W g 32 (bt R) → Calls Try.prog 20 #[.slice (some ⟨g, 0, none⟩) 32 c] W fun e w' => e = .returned (.int .u64 (R : Int)) ∧ W = w') := Lib.hid (fun W g c a1 a2 b1 => Word_v g c 32 R W (by decide) a1 a2 hR b1)
  have hYb : (Y : Int) < 18446744073709551616 := by omega
  have HR : Hid (Wd.bz 7 32 a b = R ∧ Wd.tr 7 32 a b = 0) := Lib.hid ⟨by rw [HR0.out.1, eR], HR0.out.2⟩
  rw [HR.out.1, HR.out.2]
  clear hX hR HR0 HR ek eR ha hb
  go_enter Try.func11, Try.ntmps11
  go_wp2_with (first
    | (go_at_call 19; with_reducible refine (L1.out _).mono ?_; rintro e w1 hL; unfold LPost at hL; obtain ⟨g1, c1, rfl, n1, m1, b1, k1, h1⟩ := hL; have P1 := Lib.hid b1; have B1 := Lib.hid h1; clear b1 k1 h1)
    | (go_at_call 19; with_reducible refine (L2.out _).mono ?_; rintro e w2 hL; unfold LPost at hL; obtain ⟨g2, c2, rfl, n2, m2, b2, k2, h2⟩ := hL; have P2 := Lib.hid b2; have P1' := Lib.hid (P1.out.below h2 P1.out.lt); have B2 := Lib.hid (B1.out.trans (h2.mono B1.out.size)); clear b2 k2 h2)
    | (go_at_call 20; with_reducible refine (WY.out _ _ _ n2 m2 P2.out).mono ?_; rintro e w3 ⟨rfl, rfl⟩)
    | (go_at_call 27; with_reducible refine (C.out _ _ _ _ _ n1 m1 n2 m2 P1'.out P2.out).mono ?_; rintro e w4 hL; unfold LPost at hL; obtain ⟨g3, c3, rfl, n3, m3, b3, k3, h3⟩ := hL; have P3 := Lib.hid b3; have B3 := Lib.hid (B2.out.trans (h3.mono B2.out.size)); clear b3 k3 h3)
    | (go_at_call 20; with_reducible refine (WR.out _ _ _ n3 m3 P3.out).mono ?_; rintro e w5 ⟨rfl, rfl⟩))
  go_ret2
  exact ⟨rfl, B3.out⟩
set_option maxHeartbeats 4000000 in
set_option maxRecDepth 100000 in
theorem RB_7_64 (a b : Nat) (w : World) (ha : a < 18446744073709551616) (hb : b < 18446744073709551616) :
    Calls Try.prog 11 #[.int .i64 7, .int .i64 64, .int .u64 a, .int .u64 b] w fun e w' => e = .returned (.tuple #[.int .u64 ((Wd.bz 7 64 a b : Nat) : Int), .int .i64 ((Wd.tr 7 64 a b : Nat) : Int)]) ∧ Below w.heap.size w w' := by
  have hX : Wd.cut 64 a < 2 ^ 64 := Wd.cut_lt (n := 64) (.inr rfl) ha
  have hY : Wd.cut 64 b < 2 ^ 64 := Wd.cut_lt (n := 64) (.inr rfl) hb
  have L1 : Hid (∀ W : World, Calls Try.prog 19 #[.int .i64 64, .int .u64 a] W (LPost W.heap.size 64 (bt (Wd.cut 64 a)) W)) := Lib.hid (fun W => (List_any 64 a W (by decide) (by decide) ha).mono fun e w' h => h.is (vl_cut 64 a (.inr rfl) ha))
  have L2 : Hid (∀ W : World, Calls Try.prog 19 #[.int .i64 64, .int .u64 b] W (LPost W.heap.size 64 (bt (Wd.cut 64 b)) W)) := Lib.hid (fun W => (List_any 64 b W (by decide) (by decide) hb).mono fun e w' h => h.is (vl_cut 64 b (.inr rfl) hb))
  have HR0 : Hid (Wd.bz 7 64 a b = mxn 0 (Wd.cut 64 a) (Wd.cut 64 b) ∧ Wd.tr 7 64 a b = 0) := Lib.hid (rb_7 64 (.inr rfl) a b ha hb)
  generalize Wd.cut 64 a = X at hX L1 HR0
  generalize Wd.cut 64 b = Y at hY L2 HR0
  obtain ⟨R, eR⟩ : ∃ R, R = mxn 0 X Y := ⟨_, rfl⟩
  have hR : R < 2 ^ 64 := by
    rw [eR]
    exact Nat.and_lt_two_pow _ hY
  have C : Hid (∀ (W : World) (g1 c1 g2 c2 : Nat) (a1 : 64 ≤ c1) (a2 : c1 ≤ 9223372036854775807) (a3 : 64 ≤ c2) (a4 : c2 ≤ 9223372036854775807) (p1 : Bo W g1 64 (bt X)) (p2 : Bo W g2 64 (bt Y)), Calls Try.prog 27 #[.slice (some ⟨g1, 0, none⟩) 64 c1, .slice (some ⟨g2, 0, none⟩) 64 c2, .int .i64 0] W (LPost W.heap.size 64 (bt R) W)) := Lib.hid (fun W g1 c1 g2 c2 a1 a2 a3 a4 p1 p2 => by rw [eR]; exact Mix_v 0 (by decide) g1 c1 g2 c2 64 X Y W (by decide) (by decide) a1 a3 a2 a4 hX hY p1 p2)
  have kk : (Y : Int) % 64 = ((Y % 64 : Nat) : Int) := by omega
  have kt : (Y : Int).tmod 64 = ((Y % 64 : Nat) : Int) := by rw [Int.tmod_eq_emod_of_nonneg (by omega)]; omega
  have hk : Y % 64 < 64 := Nat.mod_lt _ (by decide)
  obtain ⟨k, ek⟩ : ∃ k, k = Y % 64 := ⟨_, rfl⟩
  rw [← ek] at hk kk kt
  have WY : Hid (∀ (W : World) (g c : Nat), 64 ≤ c → c ≤ 9223372036854775807 → Bo W g 64 (bt Y) → Calls Try.prog 20 #[.slice (some ⟨g, 0, none⟩) 64 c] W fun e w' => e = .returned (.int .u64 (Y : Int)) ∧ W = w') := Lib.hid (fun W g c a1 a2 b1 => Word_v g c 64 Y W (by decide) a1 a2 hY b1)
  have WR : Hid (∀ (W : World) (g c : Nat), 64 ≤ c → c ≤ 9223372036854775807 → Bo W g 64 (bt R) → Calls Try.prog 20 #[.slice (some ⟨g, 0, none⟩) 64 c] W fun e w' => e = .returned (.int .u64 (R : Int)) ∧ W = w') := Lib.hid (fun W g c a1 a2 b1 => Word_v g c 64 R W (by decide) a1 a2 hR b1)
  have hYb : (Y : Int) < 18446744073709551616 := by omega
  have HR : Hid (Wd.bz 7 64 a b = R ∧ Wd.tr 7 64 a b = 0) := Lib.hid ⟨by rw [HR0.out.1, eR], HR0.out.2⟩
  rw [HR.out.1, HR.out.2]
  clear hX hR HR0 HR ek eR ha hb
  go_enter Try.func11, Try.ntmps11
  go_wp2_with (first
    | (go_at_call 19; with_reducible refine (L1.out _).mono ?_; rintro e w1 hL; unfold LPost at hL; obtain ⟨g1, c1, rfl, n1, m1, b1, k1, h1⟩ := hL; have P1 := Lib.hid b1; have B1 := Lib.hid h1; clear b1 k1 h1)
    | (go_at_call 19; with_reducible refine (L2.out _).mono ?_; rintro e w2 hL; unfold LPost at hL; obtain ⟨g2, c2, rfl, n2, m2, b2, k2, h2⟩ := hL; have P2 := Lib.hid b2; have P1' := Lib.hid (P1.out.below h2 P1.out.lt); have B2 := Lib.hid (B1.out.trans (h2.mono B1.out.size)); clear b2 k2 h2)
    | (go_at_call 20; with_reducible refine (WY.out _ _ _ n2 m2 P2.out).mono ?_; rintro e w3 ⟨rfl, rfl⟩)
    | (go_at_call 27; with_reducible refine (C.out _ _ _ _ _ n1 m1 n2 m2 P1'.out P2.out).mono ?_; rintro e w4 hL; unfold LPost at hL; obtain ⟨g3, c3, rfl, n3, m3, b3, k3, h3⟩ := hL; have P3 := Lib.hid b3; have B3 := Lib.hid (B2.out.trans (h3.mono B2.out.size)); clear b3 k3 h3)
    | (go_at_call 20; with_reducible refine (WR.out _ _ _ n3 m3 P3.out).mono ?_; rintro e w5 ⟨rfl, rfl⟩))
  go_ret2
  exact ⟨rfl, B3.out⟩
set_option maxHeartbeats 4000000 in
set_option maxRecDepth 100000 in
theorem RB_8_32 (a b : Nat) (w : World) (ha : a < 18446744073709551616) (hb : b < 18446744073709551616) :
    Calls Try.prog 11 #[.int .i64 8, .int .i64 32, .int .u64 a, .int .u64 b] w fun e w' => e = .returned (.tuple #[.int .u64 ((Wd.bz 8 32 a b : Nat) : Int), .int .i64 ((Wd.tr 8 32 a b : Nat) : Int)]) ∧ Below w.heap.size w w' := by
  have hX : Wd.cut 32 a < 2 ^ 32 := Wd.cut_lt (n := 32) (.inl rfl) ha
  have hY : Wd.cut 32 b < 2 ^ 32 := Wd.cut_lt (n := 32) (.inl rfl) hb
  have L1 : Hid (∀ W : World, Calls Try.prog 19 #[.int .i64 32, .int .u64 a] W (LPost W.heap.size 32 (bt (Wd.cut 32 a)) W)) := Lib.hid (fun W => (List_any 32 a W (by decide) (by decide) ha).mono fun e w' h => h.is (vl_cut 32 a (.inl rfl) ha))
  have L2 : Hid (∀ W : World, Calls Try.prog 19 #[.int .i64 32, .int .u64 b] W (LPost W.heap.size 32 (bt (Wd.cut 32 b)) W)) := Lib.hid (fun W => (List_any 32 b W (by decide) (by decide) hb).mono fun e w' h => h.is (vl_cut 32 b (.inl rfl) hb))
  have HR0 : Hid (Wd.bz 8 32 a b = mxn 1 (Wd.cut 32 a) (Wd.cut 32 b) ∧ Wd.tr 8 32 a b = 0) := Lib.hid (rb_8 32 (.inl rfl) a b ha hb)
  generalize Wd.cut 32 a = X at hX L1 HR0
  generalize Wd.cut 32 b = Y at hY L2 HR0
  obtain ⟨R, eR⟩ : ∃ R, R = mxn 1 X Y := ⟨_, rfl⟩
  have hR : R < 2 ^ 32 := by
    rw [eR]
    exact Nat.or_lt_two_pow hX hY
  have C : Hid (∀ (W : World) (g1 c1 g2 c2 : Nat) (a1 : 32 ≤ c1) (a2 : c1 ≤ 9223372036854775807) (a3 : 32 ≤ c2) (a4 : c2 ≤ 9223372036854775807) (p1 : Bo W g1 32 (bt X)) (p2 : Bo W g2 32 (bt Y)), Calls Try.prog 27 #[.slice (some ⟨g1, 0, none⟩) 32 c1, .slice (some ⟨g2, 0, none⟩) 32 c2, .int .i64 1] W (LPost W.heap.size 32 (bt R) W)) := Lib.hid (fun W g1 c1 g2 c2 a1 a2 a3 a4 p1 p2 => by rw [eR]; exact Mix_v 1 (by decide) g1 c1 g2 c2 32 X Y W (by decide) (by decide) a1 a3 a2 a4 hX hY p1 p2)
  have kk : (Y : Int) % 32 = ((Y % 32 : Nat) : Int) := by omega
  have kt : (Y : Int).tmod 32 = ((Y % 32 : Nat) : Int) := by rw [Int.tmod_eq_emod_of_nonneg (by omega)]; omega
  have hk : Y % 32 < 32 := Nat.mod_lt _ (by decide)
  obtain ⟨k, ek⟩ : ∃ k, k = Y % 32 := ⟨_, rfl⟩
  rw [← ek] at hk kk kt
  have WY : Hid (∀ (W : World) (g c : Nat), 32 ≤ c → c ≤ 9223372036854775807 → Bo W g 32 (bt Y) → Calls Try.prog 20 #[.slice (some ⟨g, 0, none⟩) 32 c] W fun e w' => e = .returned (.int .u64 (Y : Int)) ∧ W = w') := Lib.hid (fun W g c a1 a2 b1 => Word_v g c 32 Y W (by decide) a1 a2 hY b1)
  have WR : Hid (∀ (W : World) (g c : Nat), 32 ≤ c → c ≤ 9223372036854775807 → Bo W g 32 (bt R) → Calls Try.prog 20 #[.slice (some ⟨g, 0, none⟩) 32 c] W fun e w' => e = .returned (.int .u64 (R : Int)) ∧ W = w') := Lib.hid (fun W g c a1 a2 b1 => Word_v g c 32 R W (by decide) a1 a2 hR b1)
  have hYb : (Y : Int) < 18446744073709551616 := by omega
  have HR : Hid (Wd.bz 8 32 a b = R ∧ Wd.tr 8 32 a b = 0) := Lib.hid ⟨by rw [HR0.out.1, eR], HR0.out.2⟩
  rw [HR.out.1, HR.out.2]
  clear hX hR HR0 HR ek eR ha hb
  go_enter Try.func11, Try.ntmps11
  go_wp2_with (first
    | (go_at_call 19; with_reducible refine (L1.out _).mono ?_; rintro e w1 hL; unfold LPost at hL; obtain ⟨g1, c1, rfl, n1, m1, b1, k1, h1⟩ := hL; have P1 := Lib.hid b1; have B1 := Lib.hid h1; clear b1 k1 h1)
    | (go_at_call 19; with_reducible refine (L2.out _).mono ?_; rintro e w2 hL; unfold LPost at hL; obtain ⟨g2, c2, rfl, n2, m2, b2, k2, h2⟩ := hL; have P2 := Lib.hid b2; have P1' := Lib.hid (P1.out.below h2 P1.out.lt); have B2 := Lib.hid (B1.out.trans (h2.mono B1.out.size)); clear b2 k2 h2)
    | (go_at_call 20; with_reducible refine (WY.out _ _ _ n2 m2 P2.out).mono ?_; rintro e w3 ⟨rfl, rfl⟩)
    | (go_at_call 27; with_reducible refine (C.out _ _ _ _ _ n1 m1 n2 m2 P1'.out P2.out).mono ?_; rintro e w4 hL; unfold LPost at hL; obtain ⟨g3, c3, rfl, n3, m3, b3, k3, h3⟩ := hL; have P3 := Lib.hid b3; have B3 := Lib.hid (B2.out.trans (h3.mono B2.out.size)); clear b3 k3 h3)
    | (go_at_call 20; with_reducible refine (WR.out _ _ _ n3 m3 P3.out).mono ?_; rintro e w5 ⟨rfl, rfl⟩))
  go_ret2
  exact ⟨rfl, B3.out⟩
set_option maxHeartbeats 4000000 in
set_option maxRecDepth 100000 in
theorem RB_8_64 (a b : Nat) (w : World) (ha : a < 18446744073709551616) (hb : b < 18446744073709551616) :
    Calls Try.prog 11 #[.int .i64 8, .int .i64 64, .int .u64 a, .int .u64 b] w fun e w' => e = .returned (.tuple #[.int .u64 ((Wd.bz 8 64 a b : Nat) : Int), .int .i64 ((Wd.tr 8 64 a b : Nat) : Int)]) ∧ Below w.heap.size w w' := by
  have hX : Wd.cut 64 a < 2 ^ 64 := Wd.cut_lt (n := 64) (.inr rfl) ha
  have hY : Wd.cut 64 b < 2 ^ 64 := Wd.cut_lt (n := 64) (.inr rfl) hb
  have L1 : Hid (∀ W : World, Calls Try.prog 19 #[.int .i64 64, .int .u64 a] W (LPost W.heap.size 64 (bt (Wd.cut 64 a)) W)) := Lib.hid (fun W => (List_any 64 a W (by decide) (by decide) ha).mono fun e w' h => h.is (vl_cut 64 a (.inr rfl) ha))
  have L2 : Hid (∀ W : World, Calls Try.prog 19 #[.int .i64 64, .int .u64 b] W (LPost W.heap.size 64 (bt (Wd.cut 64 b)) W)) := Lib.hid (fun W => (List_any 64 b W (by decide) (by decide) hb).mono fun e w' h => h.is (vl_cut 64 b (.inr rfl) hb))
  have HR0 : Hid (Wd.bz 8 64 a b = mxn 1 (Wd.cut 64 a) (Wd.cut 64 b) ∧ Wd.tr 8 64 a b = 0) := Lib.hid (rb_8 64 (.inr rfl) a b ha hb)
  generalize Wd.cut 64 a = X at hX L1 HR0
  generalize Wd.cut 64 b = Y at hY L2 HR0
  obtain ⟨R, eR⟩ : ∃ R, R = mxn 1 X Y := ⟨_, rfl⟩
  have hR : R < 2 ^ 64 := by
    rw [eR]
    exact Nat.or_lt_two_pow hX hY
  have C : Hid (∀ (W : World) (g1 c1 g2 c2 : Nat) (a1 : 64 ≤ c1) (a2 : c1 ≤ 9223372036854775807) (a3 : 64 ≤ c2) (a4 : c2 ≤ 9223372036854775807) (p1 : Bo W g1 64 (bt X)) (p2 : Bo W g2 64 (bt Y)), Calls Try.prog 27 #[.slice (some ⟨g1, 0, none⟩) 64 c1, .slice (some ⟨g2, 0, none⟩) 64 c2, .int .i64 1] W (LPost W.heap.size 64 (bt R) W)) := Lib.hid (fun W g1 c1 g2 c2 a1 a2 a3 a4 p1 p2 => by rw [eR]; exact Mix_v 1 (by decide) g1 c1 g2 c2 64 X Y W (by decide) (by decide) a1 a3 a2 a4 hX hY p1 p2)
  have kk : (Y : Int) % 64 = ((Y % 64 : Nat) : Int) := by omega
  have kt : (Y : Int).tmod 64 = ((Y % 64 : Nat) : Int) := by rw [Int.tmod_eq_emod_of_nonneg (by omega)]; omega
  have hk : Y % 64 < 64 := Nat.mod_lt _ (by decide)
  obtain ⟨k, ek⟩ : ∃ k, k = Y % 64 := ⟨_, rfl⟩
  rw [← ek] at hk kk kt
  have WY : Hid (∀ (W : World) (g c : Nat), 64 ≤ c → c ≤ 9223372036854775807 → Bo W g 64 (bt Y) → Calls Try.prog 20 #[.slice (some ⟨g, 0, none⟩) 64 c] W fun e w' => e = .returned (.int .u64 (Y : Int)) ∧ W = w') := Lib.hid (fun W g c a1 a2 b1 => Word_v g c 64 Y W (by decide) a1 a2 hY b1)
  have WR : Hid (∀ (W : World) (g c : Nat), 64 ≤ c → c ≤ 9223372036854775807 → Bo W g 64 (bt R) → Calls Try.prog 20 #[.slice (some ⟨g, 0, none⟩) 64 c] W fun e w' => e = .returned (.int .u64 (R : Int)) ∧ W = w') := Lib.hid (fun W g c a1 a2 b1 => Word_v g c 64 R W (by decide) a1 a2 hR b1)
  have hYb : (Y : Int) < 18446744073709551616 := by omega
  have HR : Hid (Wd.bz 8 64 a b = R ∧ Wd.tr 8 64 a b = 0) := Lib.hid ⟨by rw [HR0.out.1, eR], HR0.out.2⟩
  rw [HR.out.1, HR.out.2]
  clear hX hR HR0 HR ek eR ha hb
  go_enter Try.func11, Try.ntmps11
  go_wp2_with (first
    | (go_at_call 19; with_reducible refine (L1.out _).mono ?_; rintro e w1 hL; unfold LPost at hL; obtain ⟨g1, c1, rfl, n1, m1, b1, k1, h1⟩ := hL; have P1 := Lib.hid b1; have B1 := Lib.hid h1; clear b1 k1 h1)
    | (go_at_call 19; with_reducible refine (L2.out _).mono ?_; rintro e w2 hL; unfold LPost at hL; obtain ⟨g2, c2, rfl, n2, m2, b2, k2, h2⟩ := hL; have P2 := Lib.hid b2; have P1' := Lib.hid (P1.out.below h2 P1.out.lt); have B2 := Lib.hid (B1.out.trans (h2.mono B1.out.size)); clear b2 k2 h2)
    | (go_at_call 20; with_reducible refine (WY.out _ _ _ n2 m2 P2.out).mono ?_; rintro e w3 ⟨rfl, rfl⟩)
    | (go_at_call 27; with_reducible refine (C.out _ _ _ _ _ n1 m1 n2 m2 P1'.out P2.out).mono ?_; rintro e w4 hL; unfold LPost at hL; obtain ⟨g3, c3, rfl, n3, m3, b3, k3, h3⟩ := hL; have P3 := Lib.hid b3; have B3 := Lib.hid (B2.out.trans (h3.mono B2.out.size)); clear b3 k3 h3)
    | (go_at_call 20; with_reducible refine (WR.out _ _ _ n3 m3 P3.out).mono ?_; rintro e w5 ⟨rfl, rfl⟩))
  go_ret2
  exact ⟨rfl, B3.out⟩
set_option maxHeartbeats 4000000 in
set_option maxRecDepth 100000 in
theorem RB_9_32 (a b : Nat) (w : World) (ha : a < 18446744073709551616) (hb : b < 18446744073709551616) :
    Calls Try.prog 11 #[.int .i64 9, .int .i64 32, .int .u64 a, .int .u64 b] w fun e w' => e = .returned (.tuple #[.int .u64 ((Wd.bz 9 32 a b : Nat) : Int), .int .i64 ((Wd.tr 9 32 a b : Nat) : Int)]) ∧ Below w.heap.size w w' := by
  have hX : Wd.cut 32 a < 2 ^ 32 := Wd.cut_lt (n := 32) (.inl rfl) ha
  have hY : Wd.cut 32 b < 2 ^ 32 := Wd.cut_lt (n := 32) (.inl rfl) hb
  have L1 : Hid (∀ W : World, Calls Try.prog 19 #[.int .i64 32, .int .u64 a] W (LPost W.heap.size 32 (bt (Wd.cut 32 a)) W)) := Lib.hid (fun W => (List_any 32 a W (by decide) (by decide) ha).mono fun e w' h => h.is (vl_cut 32 a (.inl rfl) ha))
  have L2 : Hid (∀ W : World, Calls Try.prog 19 #[.int .i64 32, .int .u64 b] W (LPost W.heap.size 32 (bt (Wd.cut 32 b)) W)) := Lib.hid (fun W => (List_any 32 b W (by decide) (by decide) hb).mono fun e w' h => h.is (vl_cut 32 b (.inl rfl) hb))
  have HR0 : Hid (Wd.bz 9 32 a b = mxn 2 (Wd.cut 32 a) (Wd.cut 32 b) ∧ Wd.tr 9 32 a b = 0) := Lib.hid (rb_9 32 (.inl rfl) a b ha hb)
  generalize Wd.cut 32 a = X at hX L1 HR0
  generalize Wd.cut 32 b = Y at hY L2 HR0
  obtain ⟨R, eR⟩ : ∃ R, R = mxn 2 X Y := ⟨_, rfl⟩
  have hR : R < 2 ^ 32 := by
    rw [eR]
    exact Nat.xor_lt_two_pow hX hY
  have C : Hid (∀ (W : World) (g1 c1 g2 c2 : Nat) (a1 : 32 ≤ c1) (a2 : c1 ≤ 9223372036854775807) (a3 : 32 ≤ c2) (a4 : c2 ≤ 9223372036854775807) (p1 : Bo W g1 32 (bt X)) (p2 : Bo W g2 32 (bt Y)), Calls Try.prog 27 #[.slice (some ⟨g1, 0, none⟩) 32 c1, .slice (some ⟨g2, 0, none⟩) 32 c2, .int .i64 2] W (LPost W.heap.size 32 (bt R) W)) := Lib.hid (fun W g1 c1 g2 c2 a1 a2 a3 a4 p1 p2 => by rw [eR]; exact Mix_v 2 (by decide) g1 c1 g2 c2 32 X Y W (by decide) (by decide) a1 a3 a2 a4 hX hY p1 p2)
  have kk : (Y : Int) % 32 = ((Y % 32 : Nat) : Int) := by omega
  have kt : (Y : Int).tmod 32 = ((Y % 32 : Nat) : Int) := by rw [Int.tmod_eq_emod_of_nonneg (by omega)]; omega
  have hk : Y % 32 < 32 := Nat.mod_lt _ (by decide)
  obtain ⟨k, ek⟩ : ∃ k, k = Y % 32 := ⟨_, rfl⟩
  rw [← ek] at hk kk kt
  have WY : Hid (∀ (W : World) (g c : Nat), 32 ≤ c → c ≤ 9223372036854775807 → Bo W g 32 (bt Y) → Calls Try.prog 20 #[.slice (some ⟨g, 0, none⟩) 32 c] W fun e w' => e = .returned (.int .u64 (Y : Int)) ∧ W = w') := Lib.hid (fun W g c a1 a2 b1 => Word_v g c 32 Y W (by decide) a1 a2 hY b1)
  have WR : Hid (∀ (W : World) (g c : Nat), 32 ≤ c → c ≤ 9223372036854775807 → Bo W g 32 (bt R) → Calls Try.prog 20 #[.slice (some ⟨g, 0, none⟩) 32 c] W fun e w' => e = .returned (.int .u64 (R : Int)) ∧ W = w') := Lib.hid (fun W g c a1 a2 b1 => Word_v g c 32 R W (by decide) a1 a2 hR b1)
  have hYb : (Y : Int) < 18446744073709551616 := by omega
  have HR : Hid (Wd.bz 9 32 a b = R ∧ Wd.tr 9 32 a b = 0) := Lib.hid ⟨by rw [HR0.out.1, eR], HR0.out.2⟩
  rw [HR.out.1, HR.out.2]
  clear hX hR HR0 HR ek eR ha hb
  go_enter Try.func11, Try.ntmps11
  go_wp2_with (first
    | (go_at_call 19; with_reducible refine (L1.out _).mono ?_; rintro e w1 hL; unfold LPost at hL; obtain ⟨g1, c1, rfl, n1, m1, b1, k1, h1⟩ := hL; have P1 := Lib.hid b1; have B1 := Lib.hid h1; clear b1 k1 h1)
    | (go_at_call 19; with_reducible refine (L2.out _).mono ?_; rintro e w2 hL; unfold LPost at hL; obtain ⟨g2, c2, rfl, n2, m2, b2, k2, h2⟩ := hL; have P2 := Lib.hid b2; have P1' := Lib.hid (P1.out.below h2 P1.out.lt); have B2 := Lib.hid (B1.out.trans (h2.mono B1.out.size)); clear b2 k2 h2)
    | (go_at_call 20; with_reducible refine (WY.out _ _ _ n2 m2 P2.out).mono ?_; rintro e w3 ⟨rfl, rfl⟩)
    | (go_at_call 27; with_reducible refine (C.out _ _ _ _ _ n1 m1 n2 m2 P1'.out P2.out).mono ?_; rintro e w4 hL; unfold LPost at hL; obtain ⟨g3, c3, rfl, n3, m3, b3, k3, h3⟩ := hL; have P3 := Lib.hid b3; have B3 := Lib.hid (B2.out.trans (h3.mono B2.out.size)); clear b3 k3 h3)
    | (go_at_call 20; with_reducible refine (WR.out _ _ _ n3 m3 P3.out).mono ?_; rintro e w5 ⟨rfl, rfl⟩))
  go_ret2
  exact ⟨rfl, B3.out⟩
set_option maxHeartbeats 4000000 in
set_option maxRecDepth 100000 in
theorem RB_9_64 (a b : Nat) (w : World) (ha : a < 18446744073709551616) (hb : b < 18446744073709551616) :
    Calls Try.prog 11 #[.int .i64 9, .int .i64 64, .int .u64 a, .int .u64 b] w fun e w' => e = .returned (.tuple #[.int .u64 ((Wd.bz 9 64 a b : Nat) : Int), .int .i64 ((Wd.tr 9 64 a b : Nat) : Int)]) ∧ Below w.heap.size w w' := by
  have hX : Wd.cut 64 a < 2 ^ 64 := Wd.cut_lt (n := 64) (.inr rfl) ha
  have hY : Wd.cut 64 b < 2 ^ 64 := Wd.cut_lt (n := 64) (.inr rfl) hb
  have L1 : Hid (∀ W : World, Calls Try.prog 19 #[.int .i64 64, .int .u64 a] W (LPost W.heap.size 64 (bt (Wd.cut 64 a)) W)) := Lib.hid (fun W => (List_any 64 a W (by decide) (by decide) ha).mono fun e w' h => h.is (vl_cut 64 a (.inr rfl) ha))
  have L2 : Hid (∀ W : World, Calls Try.prog 19 #[.int .i64 64, .int .u64 b] W (LPost W.heap.size 64 (bt (Wd.cut 64 b)) W)) := Lib.hid (fun W => (List_any 64 b W (by decide) (by decide) hb).mono fun e w' h => h.is (vl_cut 64 b (.inr rfl) hb))
  have HR0 : Hid (Wd.bz 9 64 a b = mxn 2 (Wd.cut 64 a) (Wd.cut 64 b) ∧ Wd.tr 9 64 a b = 0) := Lib.hid (rb_9 64 (.inr rfl) a b ha hb)
  generalize Wd.cut 64 a = X at hX L1 HR0
  generalize Wd.cut 64 b = Y at hY L2 HR0
  obtain ⟨R, eR⟩ : ∃ R, R = mxn 2 X Y := ⟨_, rfl⟩
  have hR : R < 2 ^ 64 := by
    rw [eR]
    exact Nat.xor_lt_two_pow hX hY
  have C : Hid (∀ (W : World) (g1 c1 g2 c2 : Nat) (a1 : 64 ≤ c1) (a2 : c1 ≤ 9223372036854775807) (a3 : 64 ≤ c2) (a4 : c2 ≤ 9223372036854775807) (p1 : Bo W g1 64 (bt X)) (p2 : Bo W g2 64 (bt Y)), Calls Try.prog 27 #[.slice (some ⟨g1, 0, none⟩) 64 c1, .slice (some ⟨g2, 0, none⟩) 64 c2, .int .i64 2] W (LPost W.heap.size 64 (bt R) W)) := Lib.hid (fun W g1 c1 g2 c2 a1 a2 a3 a4 p1 p2 => by rw [eR]; exact Mix_v 2 (by decide) g1 c1 g2 c2 64 X Y W (by decide) (by decide) a1 a3 a2 a4 hX hY p1 p2)
  have kk : (Y : Int) % 64 = ((Y % 64 : Nat) : Int) := by omega
  have kt : (Y : Int).tmod 64 = ((Y % 64 : Nat) : Int) := by rw [Int.tmod_eq_emod_of_nonneg (by omega)]; omega
  have hk : Y % 64 < 64 := Nat.mod_lt _ (by decide)
  obtain ⟨k, ek⟩ : ∃ k, k = Y % 64 := ⟨_, rfl⟩
  rw [← ek] at hk kk kt
  have WY : Hid (∀ (W : World) (g c : Nat), 64 ≤ c → c ≤ 9223372036854775807 → Bo W g 64 (bt Y) → Calls Try.prog 20 #[.slice (some ⟨g, 0, none⟩) 64 c] W fun e w' => e = .returned (.int .u64 (Y : Int)) ∧ W = w') := Lib.hid (fun W g c a1 a2 b1 => Word_v g c 64 Y W (by decide) a1 a2 hY b1)
  have WR : Hid (∀ (W : World) (g c : Nat), 64 ≤ c → c ≤ 9223372036854775807 → Bo W g 64 (bt R) → Calls Try.prog 20 #[.slice (some ⟨g, 0, none⟩) 64 c] W fun e w' => e = .returned (.int .u64 (R : Int)) ∧ W = w') := Lib.hid (fun W g c a1 a2 b1 => Word_v g c 64 R W (by decide) a1 a2 hR b1)
  have hYb : (Y : Int) < 18446744073709551616 := by omega
  have HR : Hid (Wd.bz 9 64 a b = R ∧ Wd.tr 9 64 a b = 0) := Lib.hid ⟨by rw [HR0.out.1, eR], HR0.out.2⟩
  rw [HR.out.1, HR.out.2]
  clear hX hR HR0 HR ek eR ha hb
  go_enter Try.func11, Try.ntmps11
  go_wp2_with (first
    | (go_at_call 19; with_reducible refine (L1.out _).mono ?_; rintro e w1 hL; unfold LPost at hL; obtain ⟨g1, c1, rfl, n1, m1, b1, k1, h1⟩ := hL; have P1 := Lib.hid b1; have B1 := Lib.hid h1; clear b1 k1 h1)
    | (go_at_call 19; with_reducible refine (L2.out _).mono ?_; rintro e w2 hL; unfold LPost at hL; obtain ⟨g2, c2, rfl, n2, m2, b2, k2, h2⟩ := hL; have P2 := Lib.hid b2; have P1' := Lib.hid (P1.out.below h2 P1.out.lt); have B2 := Lib.hid (B1.out.trans (h2.mono B1.out.size)); clear b2 k2 h2)
    | (go_at_call 20; with_reducible refine (WY.out _ _ _ n2 m2 P2.out).mono ?_; rintro e w3 ⟨rfl, rfl⟩)
    | (go_at_call 27; with_reducible refine (C.out _ _ _ _ _ n1 m1 n2 m2 P1'.out P2.out).mono ?_; rintro e w4 hL; unfold LPost at hL; obtain ⟨g3, c3, rfl, n3, m3, b3, k3, h3⟩ := hL; have P3 := Lib.hid b3; have B3 := Lib.hid (B2.out.trans (h3.mono B2.out.size)); clear b3 k3 h3)
    | (go_at_call 20; with_reducible refine (WR.out _ _ _ n3 m3 P3.out).mono ?_; rintro e w5 ⟨rfl, rfl⟩))
  go_ret2
  exact ⟨rfl, B3.out⟩
set_option maxHeartbeats 4000000 in
set_option maxRecDepth 100000 in
theorem RB_10_32 (a b : Nat) (w : World) (ha : a < 18446744073709551616) (hb : b < 18446744073709551616) :
    Calls Try.prog 11 #[.int .i64 10, .int .i64 32, .int .u64 a, .int .u64 b] w fun e w' => e = .returned (.tuple #[.int .u64 ((Wd.bz 10 32 a b : Nat) : Int), .int .i64 ((Wd.tr 10 32 a b : Nat) : Int)]) ∧ Below w.heap.size w w' := by
  have hX : Wd.cut 32 a < 2 ^ 32 := Wd.cut_lt (n := 32) (.inl rfl) ha
  have hY : Wd.cut 32 b < 2 ^ 32 := Wd.cut_lt (n := 32) (.inl rfl) hb
  have L1 : Hid (∀ W : World, Calls Try.prog 19 #[.int .i64 32, .int .u64 a] W (LPost W.heap.size 32 (bt (Wd.cut 32 a)) W)) := Lib.hid (fun W => (List_any 32 a W (by decide) (by decide) ha).mono fun e w' h => h.is (vl_cut 32 a (.inl rfl) ha))
  have L2 : Hid (∀ W : World, Calls Try.prog 19 #[.int .i64 32, .int .u64 b] W (LPost W.heap.size 32 (bt (Wd.cut 32 b)) W)) := Lib.hid (fun W => (List_any 32 b W (by decide) (by decide) hb).mono fun e w' h => h.is (vl_cut 32 b (.inl rfl) hb))
  have HR0 : Hid (Wd.bz 10 32 a b = Wd.cut 32 a * 2 ^ (Wd.cut 32 b % 32) % 2 ^ 32 ∧ Wd.tr 10 32 a b = 0) := Lib.hid (rb_10 32 (.inl rfl) a b ha hb)
  generalize Wd.cut 32 a = X at hX L1 HR0
  generalize Wd.cut 32 b = Y at hY L2 HR0
  obtain ⟨R, eR⟩ : ∃ R, R = X * 2 ^ (Y % 32) % 2 ^ 32 := ⟨_, rfl⟩
  have hR : R < 2 ^ 32 := by
    rw [eR]
    exact Nat.mod_lt _ (Nat.two_pow_pos _)
  have hk : Y % 32 < 32 := Nat.mod_lt _ (by decide)
  have kk : (Y : Int) % 32 = ((Y % 32 : Nat) : Int) := by omega
  have kt : (Y : Int).tmod 32 = ((Y % 32 : Nat) : Int) := by rw [Int.tmod_eq_emod_of_nonneg (by omega)]; omega
  obtain ⟨k, ek⟩ : ∃ k, k = Y % 32 := ⟨_, rfl⟩
  rw [← ek] at hk kk kt eR
  have C : Hid (∀ (W : World) (g1 c1 g2 c2 : Nat) (a1 : 32 ≤ c1) (a2 : c1 ≤ 9223372036854775807) (a3 : 32 ≤ c2) (a4 : c2 ≤ 9223372036854775807) (p1 : Bo W g1 32 (bt X)) (p2 : Bo W g2 32 (bt Y)), Calls Try.prog 28 #[.slice (some ⟨g1, 0, none⟩) 32 c1, .int .i64 (k : Int), .bool false] W (FPost W.heap.size 32 R W)) := Lib.hid (fun W g1 c1 g2 c2 a1 a2 a3 a4 p1 p2 => by rw [eR]; exact Left_v g1 c1 32 X k W (by decide) (by decide) (by omega) a1 a2 hX p1)
  have WY : Hid (∀ (W : World) (g c : Nat), 32 ≤ c → c ≤ 9223372036854775807 → Bo W g 32 (bt Y) → Calls Try.prog 20 #[.slice (some ⟨g, 0, none⟩) 32 c] W fun e w' => e = .returned (.int .u64 (Y : Int)) ∧ W = w') := Lib.hid (fun W g c a1 a2 b1 => Word_v g c 32 Y W (by decide) a1 a2 hY b1)
  have WR : Hid (∀ (W : World) (g c : Nat), 32 ≤ c → c ≤ 9223372036854775807 → Bo W g 32 (bt R) → Calls Try.prog 20 #[.slice (some ⟨g, 0, none⟩) 32 c] W fun e w' => e = .returned (.int .u64 (R : Int)) ∧ W = w') := Lib.hid (fun W g c a1 a2 b1 => Word_v g c 32 R W (by decide) a1 a2 hR b1)
  have hYb : (Y : Int) < 18446744073709551616 := by omega
  have HR : Hid (Wd.bz 10 32 a b = R ∧ Wd.tr 10 32 a b = 0) := Lib.hid ⟨by rw [HR0.out.1, eR, ← ek], HR0.out.2⟩
  rw [HR.out.1, HR.out.2]
  clear hX hR HR0 HR ek eR ha hb
  go_enter Try.func11, Try.ntmps11
  go_wp2_with (first
    | (go_at_call 19; with_reducible refine (L1.out _).mono ?_; rintro e w1 hL; unfold LPost at hL; obtain ⟨g1, c1, rfl, n1, m1, b1, k1, h1⟩ := hL; have P1 := Lib.hid b1; have B1 := Lib.hid h1; clear b1 k1 h1)
    | (go_at_call 19; with_reducible refine (L2.out _).mono ?_; rintro e w2 hL; unfold LPost at hL; obtain ⟨g2, c2, rfl, n2, m2, b2, k2, h2⟩ := hL; have P2 := Lib.hid b2; have P1' := Lib.hid (P1.out.below h2 P1.out.lt); have B2 := Lib.hid (B1.out.trans (h2.mono B1.out.size)); clear b2 k2 h2)
    | (go_at_call 20; with_reducible refine (WY.out _ _ _ n2 m2 P2.out).mono ?_; rintro e w3 ⟨rfl, rfl⟩)
    | (go_at_call 28; with_reducible refine (C.out _ _ _ _ _ n1 m1 n2 m2 P1'.out P2.out).mono ?_; rintro e w4 hL; unfold FPost at hL; obtain ⟨g3, c3, rfl, n3, m3, b3, k3, h3, z3⟩ := hL; have P3 := Lib.hid b3; have B3 := Lib.hid (B2.out.trans (h3.mono B2.out.size)); clear b3 k3 h3 z3)
    | (go_at_call 20; with_reducible refine (WR.out _ _ _ n3 m3 P3.out).mono ?_; rintro e w5 ⟨rfl, rfl⟩))
  go_ret2
  exact ⟨rfl, B3.out⟩
set_option maxHeartbeats 4000000 in
set_option maxRecDepth 100000 in
theorem RB_10_64 (a b : Nat) (w : World) (ha : a < 18446744073709551616) (hb : b < 18446744073709551616) :
    Calls Try.prog 11 #[.int .i64 10, .int .i64 64, .int .u64 a, .int .u64 b] w fun e w' => e = .returned (.tuple #[.int .u64 ((Wd.bz 10 64 a b : Nat) : Int), .int .i64 ((Wd.tr 10 64 a b : Nat) : Int)]) ∧ Below w.heap.size w w' := by
  have hX : Wd.cut 64 a < 2 ^ 64 := Wd.cut_lt (n := 64) (.inr rfl) ha
  have hY : Wd.cut 64 b < 2 ^ 64 := Wd.cut_lt (n := 64) (.inr rfl) hb
  have L1 : Hid (∀ W : World, Calls Try.prog 19 #[.int .i64 64, .int .u64 a] W (LPost W.heap.size 64 (bt (Wd.cut 64 a)) W)) := Lib.hid (fun W => (List_any 64 a W (by decide) (by decide) ha).mono fun e w' h => h.is (vl_cut 64 a (.inr rfl) ha))
  have L2 : Hid (∀ W : World, Calls Try.prog 19 #[.int .i64 64, .int .u64 b] W (LPost W.heap.size 64 (bt (Wd.cut 64 b)) W)) := Lib.hid (fun W => (List_any 64 b W (by decide) (by decide) hb).mono fun e w' h => h.is (vl_cut 64 b (.inr rfl) hb))
  have HR0 : Hid (Wd.bz 10 64 a b = Wd.cut 64 a * 2 ^ (Wd.cut 64 b % 64) % 2 ^ 64 ∧ Wd.tr 10 64 a b = 0) := Lib.hid (rb_10 64 (.inr rfl) a b ha hb)
  generalize Wd.cut 64 a = X at hX L1 HR0
  generalize Wd.cut 64 b = Y at hY L2 HR0
  obtain ⟨R, eR⟩ : ∃ R, R = X * 2 ^ (Y % 64) % 2 ^ 64 := ⟨_, rfl⟩
  have hR : R < 2 ^ 64 := by
    rw [eR]
    exact Nat.mod_lt _ (Nat.two_pow_pos _)
  have hk : Y % 64 < 64 := Nat.mod_lt _ (by decide)
  have kk : (Y : Int) % 64 = ((Y % 64 : Nat) : Int) := by omega
  have kt : (Y : Int).tmod 64 = ((Y % 64 : Nat) : Int) := by rw [Int.tmod_eq_emod_of_nonneg (by omega)]; omega
  obtain ⟨k, ek⟩ : ∃ k, k = Y % 64 := ⟨_, rfl⟩
  rw [← ek] at hk kk kt eR
  have C : Hid (∀ (W : World) (g1 c1 g2 c2 : Nat) (a1 : 64 ≤ c1) (a2 : c1 ≤ 9223372036854775807) (a3 : 64 ≤ c2) (a4 : c2 ≤ 9223372036854775807) (p1 : Bo W g1 64 (bt X)) (p2 : Bo W g2 64 (bt Y)), Calls Try.prog 28 #[.slice (some ⟨g1, 0, none⟩) 64 c1, .int .i64 (k : Int), .bool false] W (FPost W.heap.size 64 R W)) := Lib.hid (fun W g1 c1 g2 c2 a1 a2 a3 a4 p1 p2 => by rw [eR]; exact Left_v g1 c1 64 X k W (by decide) (by decide) (by omega) a1 a2 hX p1)
  have WY : Hid (∀ (W : World) (g c : Nat), 64 ≤ c → c ≤ 9223372036854775807 → Bo W g 64 (bt Y) → Calls Try.prog 20 #[.slice (some ⟨g, 0, none⟩) 64 c] W fun e w' => e = .returned (.int .u64 (Y : Int)) ∧ W = w') := Lib.hid (fun W g c a1 a2 b1 => Word_v g c 64 Y W (by decide) a1 a2 hY b1)
  have WR : Hid (∀ (W : World) (g c : Nat), 64 ≤ c → c ≤ 9223372036854775807 → Bo W g 64 (bt R) → Calls Try.prog 20 #[.slice (some ⟨g, 0, none⟩) 64 c] W fun e w' => e = .returned (.int .u64 (R : Int)) ∧ W = w') := Lib.hid (fun W g c a1 a2 b1 => Word_v g c 64 R W (by decide) a1 a2 hR b1)
  have hYb : (Y : Int) < 18446744073709551616 := by omega
  have HR : Hid (Wd.bz 10 64 a b = R ∧ Wd.tr 10 64 a b = 0) := Lib.hid ⟨by rw [HR0.out.1, eR, ← ek], HR0.out.2⟩
  rw [HR.out.1, HR.out.2]
  clear hX hR HR0 HR ek eR ha hb
  go_enter Try.func11, Try.ntmps11
  go_wp2_with (first
    | (go_at_call 19; with_reducible refine (L1.out _).mono ?_; rintro e w1 hL; unfold LPost at hL; obtain ⟨g1, c1, rfl, n1, m1, b1, k1, h1⟩ := hL; have P1 := Lib.hid b1; have B1 := Lib.hid h1; clear b1 k1 h1)
    | (go_at_call 19; with_reducible refine (L2.out _).mono ?_; rintro e w2 hL; unfold LPost at hL; obtain ⟨g2, c2, rfl, n2, m2, b2, k2, h2⟩ := hL; have P2 := Lib.hid b2; have P1' := Lib.hid (P1.out.below h2 P1.out.lt); have B2 := Lib.hid (B1.out.trans (h2.mono B1.out.size)); clear b2 k2 h2)
    | (go_at_call 20; with_reducible refine (WY.out _ _ _ n2 m2 P2.out).mono ?_; rintro e w3 ⟨rfl, rfl⟩)
    | (go_at_call 28; with_reducible refine (C.out _ _ _ _ _ n1 m1 n2 m2 P1'.out P2.out).mono ?_; rintro e w4 hL; unfold FPost at hL; obtain ⟨g3, c3, rfl, n3, m3, b3, k3, h3, z3⟩ := hL; have P3 := Lib.hid b3; have B3 := Lib.hid (B2.out.trans (h3.mono B2.out.size)); clear b3 k3 h3 z3)
    | (go_at_call 20; with_reducible refine (WR.out _ _ _ n3 m3 P3.out).mono ?_; rintro e w5 ⟨rfl, rfl⟩))
  go_ret2
  exact ⟨rfl, B3.out⟩
set_option maxHeartbeats 4000000 in
set_option maxRecDepth 100000 in
theorem RB_11_32 (a b : Nat) (w : World) (ha : a < 18446744073709551616) (hb : b < 18446744073709551616) :
    Calls Try.prog 11 #[.int .i64 11, .int .i64 32, .int .u64 a, .int .u64 b] w fun e w' => e = .returned (.tuple #[.int .u64 ((Wd.bz 11 32 a b : Nat) : Int), .int .i64 ((Wd.tr 11 32 a b : Nat) : Int)]) ∧ Below w.heap.size w w' := by
  have hX : Wd.cut 32 a < 2 ^ 32 := Wd.cut_lt (n := 32) (.inl rfl) ha
  have hY : Wd.cut 32 b < 2 ^ 32 := Wd.cut_lt (n := 32) (.inl rfl) hb
  have L1 : Hid (∀ W : World, Calls Try.prog 19 #[.int .i64 32, .int .u64 a] W (LPost W.heap.size 32 (bt (Wd.cut 32 a)) W)) := Lib.hid (fun W => (List_any 32 a W (by decide) (by decide) ha).mono fun e w' h => h.is (vl_cut 32 a (.inl rfl) ha))
  have L2 : Hid (∀ W : World, Calls Try.prog 19 #[.int .i64 32, .int .u64 b] W (LPost W.heap.size 32 (bt (Wd.cut 32 b)) W)) := Lib.hid (fun W => (List_any 32 b W (by decide) (by decide) hb).mono fun e w' h => h.is (vl_cut 32 b (.inl rfl) hb))
  have HR0 : Hid (Wd.bz 11 32 a b = Wd.cut 32 a / 2 ^ (Wd.cut 32 b % 32) + (if bt (Wd.cut 32 a) 31 = true then 2 ^ 32 - 2 ^ (32 - Wd.cut 32 b % 32) else 0) ∧ Wd.tr 11 32 a b = 0) := Lib.hid (rb_11 32 (.inl rfl) a b ha hb)
  generalize Wd.cut 32 a = X at hX L1 HR0
  generalize Wd.cut 32 b = Y at hY L2 HR0
  obtain ⟨tb, etb⟩ : ∃ t, t = bt X 31 := ⟨_, rfl⟩
  rw [← etb] at HR0
  have ETB := Lib.hid etb
  obtain ⟨R, eR⟩ : ∃ R, R = X / 2 ^ (Y % 32) + (if tb = true then 2 ^ 32 - 2 ^ (32 - Y % 32) else 0) := ⟨_, rfl⟩
  have hR : R < 2 ^ 32 := by
    rw [eR]
    rw [← right_num tb hX (Nat.le_of_lt (Nat.mod_lt Y (show 32 > 0 by decide)))]
    exact vl_lt _ _ _
  have hk : Y % 32 < 32 := Nat.mod_lt _ (by decide)
  have kk : (Y : Int) % 32 = ((Y % 32 : Nat) : Int) := by omega
  have kt : (Y : Int).tmod 32 = ((Y % 32 : Nat) : Int) := by rw [Int.tmod_eq_emod_of_nonneg (by omega)]; omega
  obtain ⟨k, ek⟩ : ∃ k, k = Y % 32 := ⟨_, rfl⟩
  rw [← ek] at hk kk kt eR
  have C : Hid (∀ (W : World) (g1 c1 g2 c2 : Nat) (a1 : 32 ≤ c1) (a2 : c1 ≤ 9223372036854775807) (a3 : 32 ≤ c2) (a4 : c2 ≤ 9223372036854775807) (p1 : Bo W g1 32 (bt X)) (p2 : Bo W g2 32 (bt Y)), Calls Try.prog 28 #[.slice (some ⟨g1, 0, none⟩) 32 c1, .int .i64 (-(k : Int)), .bool tb] W (FPost W.heap.size 32 R W)) := Lib.hid (fun W g1 c1 g2 c2 a1 a2 a3 a4 p1 p2 => by rw [eR]; exact Right_v g1 c1 32 X k tb W (by decide) (by decide) (by omega) a1 a2 hX p1)
  have WY : Hid (∀ (W : World) (g c : Nat), 32 ≤ c → c ≤ 9223372036854775807 → Bo W g 32 (bt Y) → Calls Try.prog 20 #[.slice (some ⟨g, 0, none⟩) 32 c] W fun e w' => e = .returned (.int .u64 (Y : Int)) ∧ W = w') := Lib.hid (fun W g c a1 a2 b1 => Word_v g c 32 Y W (by decide) a1 a2 hY b1)
  have WR : Hid (∀ (W : World) (g c : Nat), 32 ≤ c → c ≤ 9223372036854775807 → Bo W g 32 (bt R) → Calls Try.prog 20 #[.slice (some ⟨g, 0, none⟩) 32 c] W fun e w' => e = .returned (.int .u64 (R : Int)) ∧ W = w') := Lib.hid (fun W g c a1 a2 b1 => Word_v g c 32 R W (by decide) a1 a2 hR b1)
  have hYb : (Y : Int) < 18446744073709551616 := by omega
  have HR : Hid (Wd.bz 11 32 a b = R ∧ Wd.tr 11 32 a b = 0) := Lib.hid ⟨by rw [HR0.out.1, eR, ← ek], HR0.out.2⟩
  rw [HR.out.1, HR.out.2]
  clear hX hR HR0 HR ek eR ha hb etb
  go_enter Try.func11, Try.ntmps11
  go_wp2_with (first
    | (go_at_call 19; with_reducible refine (L1.out _).mono ?_; rintro e w1 hL; unfold LPost at hL; obtain ⟨g1, c1, rfl, n1, m1, b1, k1, h1⟩ := hL; have P1 := Lib.hid b1; have B1 := Lib.hid h1; clear b1 k1 h1)
    | (go_at_call 19; with_reducible refine (L2.out _).mono ?_; rintro e w2 hL; unfold LPost at hL; obtain ⟨g2, c2, rfl, n2, m2, b2, k2, h2⟩ := hL; have P2 := Lib.hid b2; have P1' := Lib.hid (P1.out.below h2 P1.out.lt); have B2 := Lib.hid (B1.out.trans (h2.mono B1.out.size)); have x1 : w2.cell? ⟨g1, 31, none⟩ = some (.bool tb) := (P1'.out.at_ (by decide)).trans (by rw [ETB.out]); clear b2 k2 h2)
    | (go_at_call 20; with_reducible refine (WY.out _ _ _ n2 m2 P2.out).mono ?_; rintro e w3 ⟨rfl, rfl⟩)
    | (go_at_call 28; with_reducible refine (C.out _ _ _ _ _ n1 m1 n2 m2 P1'.out P2.out).mono ?_; rintro e w4 hL; unfold FPost at hL; obtain ⟨g3, c3, rfl, n3, m3, b3, k3, h3, z3⟩ := hL; have P3 := Lib.hid b3; have B3 := Lib.hid (B2.out.trans (h3.mono B2.out.size)); clear b3 k3 h3 z3)
    | (go_at_call 20; with_reducible refine (WR.out _ _ _ n3 m3 P3.out).mono ?_; rintro e w5 ⟨rfl, rfl⟩))
  go_ret2
  exact ⟨rfl, B3.out⟩
set_option maxHeartbeats 4000000 in
set_option maxRecDepth 100000 in
theorem RB_11_64 (a b : Nat) (w : World) (ha : a < 18446744073709551616) (hb : b < 18446744073709551616) :
    Calls Try.prog 11 #[.int .i64 11, .int .i64 64, .int .u64 a, .int .u64 b] w fun e w' => e = .returned (.tuple #[.int .u64 ((Wd.bz 11 64 a b : Nat) : Int), .int .i64 ((Wd.tr 11 64 a b : Nat) : Int)]) ∧ Below w.heap.size w w' := by
  have hX : Wd.cut 64 a < 2 ^ 64 := Wd.cut_lt (n := 64) (.inr rfl) ha
  have hY : Wd.cut 64 b < 2 ^ 64 := Wd.cut_lt (n := 64) (.inr rfl) hb
  have L1 : Hid (∀ W : World, Calls Try.prog 19 #[.int .i64 64, .int .u64 a] W (LPost W.heap.size 64 (bt (Wd.cut 64 a)) W)) := Lib.hid (fun W => (List_any 64 a W (by decide) (by decide) ha).mono fun e w' h => h.is (vl_cut 64 a (.inr rfl) ha))
  have L2 : Hid (∀ W : World, Calls Try.prog 19 #[.int .i64 64, .int .u64 b] W (LPost W.heap.size 64 (bt (Wd.cut 64 b)) W)) := Lib.hid (fun W => (List_any 64 b W (by decide) (by decide) hb).mono fun e w' h => h.is (vl_cut 64 b (.inr rfl) hb))
  have HR0 : Hid (Wd.bz 11 64 a b = Wd.cut 64 a / 2 ^ (Wd.cut 64 b % 64) + (if bt (Wd.cut 64 a) 63 = true then 2 ^ 64 - 2 ^ (64 - Wd.cut 64 b % 64) else 0) ∧ Wd.tr 11 64 a b = 0) := Lib.hid (rb_11 64 (.inr rfl) a b ha hb)
  generalize Wd.cut 64 a = X at hX L1 HR0
  generalize Wd.cut 64 b = Y at hY L2 HR0
  obtain ⟨tb, etb⟩ : ∃ t, t = bt X 63 := ⟨_, rfl⟩
  rw [← etb] at HR0
  have ETB := Lib.hid etb
  obtain ⟨R, eR⟩ : ∃ R, R = X / 2 ^ (Y % 64) + (if tb = true then 2 ^ 64 - 2 ^ (64 - Y % 64) else 0) := ⟨_, rfl⟩
  have hR : R < 2 ^ 64 := by
    rw [eR]
    rw [← right_num tb hX (Nat.le_of_lt (Nat.mod_lt Y (show 64 > 0 by decide)))]
    exact vl_lt _ _ _
  have hk : Y % 64 < 64 := Nat.mod_lt _ (by decide)
  have kk : (Y : Int) % 64 = ((Y % 64 : Nat) : Int) := by omega
  have kt : (Y : Int).tmod 64 = ((Y % 64 : Nat) : Int) := by rw [Int.tmod_eq_emod_of_nonneg (by omega)]; omega
  obtain ⟨k, ek⟩ : ∃ k, k = Y % 64 := ⟨_, rfl⟩
  rw [← ek] at hk kk kt eR
  have C : Hid (∀ (W : World) (g1 c1 g2 c2 : Nat) (a1 : 64 ≤ c1) (a2 : c1 ≤ 9223372036854775807) (a3 : 64 ≤ c2) (a4 : c2 ≤ 9223372036854775807) (p1 : Bo W g1 64 (bt X)) (p2 : Bo W g2 64 (bt Y)), Calls Try.prog 28 #[.slice (some ⟨g1, 0, none⟩) 64 c1, .int .i64 (-(k : Int)), .bool tb] W (FPost W.heap.size 64 R W)) := Lib.hid (fun W g1 c1 g2 c2 a1 a2 a3 a4 p1 p2 => by rw [eR]; exact Right_v g1 c1 64 X k tb W (by decide) (by decide) (by omega) a1 a2 hX p1)
  have WY : Hid (∀ (W : World) (g c : Nat), 64 ≤ c → c ≤ 9223372036854775807 → Bo W g 64 (bt Y) → Calls Try.prog 20 #[.slice (some ⟨g, 0, none⟩) 64 c] W fun e w' => e = .returned (.int .u64 (Y : Int)) ∧ W = w') := Lib.hid (fun W g c a1 a2 b1 => Word_v g c 64 Y W (by decide) a1 a2 hY b1)
  have WR : Hid (∀ (W : World) (g c : Nat), 64 ≤ c → c ≤ 9223372036854775807 → Bo W g 64 (bt R) → Calls Try.prog 20 #[.slice (some ⟨g, 0, none⟩) 64 c] W fun e w' => e = .returned (.int .u64 (R : Int)) ∧ W = w') := Lib.hid (fun W g c a1 a2 b1 => Word_v g c 64 R W (by decide) a1 a2 hR b1)
  have hYb : (Y : Int) < 18446744073709551616 := by omega
  have HR : Hid (Wd.bz 11 64 a b = R ∧ Wd.tr 11 64 a b = 0) := Lib.hid ⟨by rw [HR0.out.1, eR, ← ek], HR0.out.2⟩
  rw [HR.out.1, HR.out.2]
  clear hX hR HR0 HR ek eR ha hb etb
  go_enter Try.func11, Try.ntmps11
  go_wp2_with (first
    | (go_at_call 19; with_reducible refine (L1.out _).mono ?_; rintro e w1 hL; unfold LPost at hL; obtain ⟨g1, c1, rfl, n1, m1, b1, k1, h1⟩ := hL; have P1 := Lib.hid b1; have B1 := Lib.hid h1; clear b1 k1 h1)
    | (go_at_call 19; with_reducible refine (L2.out _).mono ?_; rintro e w2 hL; unfold LPost at hL; obtain ⟨g2, c2, rfl, n2, m2, b2, k2, h2⟩ := hL; have P2 := Lib.hid b2; have P1' := Lib.hid (P1.out.below h2 P1.out.lt); have B2 := Lib.hid (B1.out.trans (h2.mono B1.out.size)); have x1 : w2.cell? ⟨g1, 63, none⟩ = some (.bool tb) := (P1'.out.at_ (by decide)).trans (by rw [ETB.out]); clear b2 k2 h2)
    | (go_at_call 20; with_reducible refine (WY.out _ _ _ n2 m2 P2.out).mono ?_; rintro e w3 ⟨rfl, rfl⟩)
    | (go_at_call 28; with_reducible refine (C.out _ _ _ _ _ n1 m1 n2 m2 P1'.out P2.out).mono ?_; rintro e w4 hL; unfold FPost at hL; obtain ⟨g3, c3, rfl, n3, m3, b3, k3, h3, z3⟩ := hL; have P3 := Lib.hid b3; have B3 := Lib.hid (B2.out.trans (h3.mono B2.out.size)); clear b3 k3 h3 z3)
    | (go_at_call 20; with_reducible refine (WR.out _ _ _ n3 m3 P3.out).mono ?_; rintro e w5 ⟨rfl, rfl⟩))
  go_ret2
  exact ⟨rfl, B3.out⟩
set_option maxHeartbeats 4000000 in
set_option maxRecDepth 100000 in
theorem RB_12_32 (a b : Nat) (w : World) (ha : a < 18446744073709551616) (hb : b < 18446744073709551616) :
    Calls Try.prog 11 #[.int .i64 12, .int .i64 32, .int .u64 a, .int .u64 b] w fun e w' => e = .returned (.tuple #[.int .u64 ((Wd.bz 12 32 a b : Nat) : Int), .int .i64 ((Wd.tr 12 32 a b : Nat) : Int)]) ∧ Below w.heap.size w w' := by
  have hX : Wd.cut 32 a < 2 ^ 32 := Wd.cut_lt (n := 32) (.inl rfl) ha
  have hY : Wd.cut 32 b < 2 ^ 32 := Wd.cut_lt (n := 32) (.inl rfl) hb
  have L1 : Hid (∀ W : World, Calls Try.prog 19 #[.int .i64 32, .int .u64 a] W (LPost W.heap.size 32 (bt (Wd.cut 32 a)) W)) := Lib.hid (fun W => (List_any 32 a W (by decide) (by decide) ha).mono fun e w' h => h.is (vl_cut 32 a (.inl rfl) ha))
  have L2 : Hid (∀ W : World, Calls Try.prog 19 #[.int .i64 32, .int .u64 b] W (LPost W.heap.size 32 (bt (Wd.cut 32 b)) W)) := Lib.hid (fun W => (List_any 32 b W (by decide) (by decide) hb).mono fun e w' h => h.is (vl_cut 32 b (.inl rfl) hb))
  have HR0 : Hid (Wd.bz 12 32 a b = Wd.cut 32 a / 2 ^ (Wd.cut 32 b % 32) + (if false = true then 2 ^ 32 - 2 ^ (32 - Wd.cut 32 b % 32) else 0) ∧ Wd.tr 12 32 a b = 0) := Lib.hid (rb_12 32 (.inl rfl) a b ha hb)
  generalize Wd.cut 32 a = X at hX L1 HR0
  generalize Wd.cut 32 b = Y at hY L2 HR0
  obtain ⟨R, eR⟩ : ∃ R, R = X / 2 ^ (Y % 32) + (if false = true then 2 ^ 32 - 2 ^ (32 - Y % 32) else 0) := ⟨_, rfl⟩
  have hR : R < 2 ^ 32 := by
    rw [eR]
    rw [← right_num false hX (Nat.le_of_lt (Nat.mod_lt Y (show 32 > 0 by decide)))]
    exact vl_lt _ _ _
  have hk : Y % 32 < 32 := Nat.mod_lt _ (by decide)
  have kk : (Y : Int) % 32 = ((Y % 32 : Nat) : Int) := by omega
  have kt : (Y : Int).tmod 32 = ((Y % 32 : Nat) : Int) := by rw [Int.tmod_eq_emod_of_nonneg (by omega)]; omega
  obtain ⟨k, ek⟩ : ∃ k, k = Y % 32 := ⟨_, rfl⟩
  rw [← ek] at hk kk kt eR
  have C : Hid (∀ (W : World) (g1 c1 g2 c2 : Nat) (a1 : 32 ≤ c1) (a2 : c1 ≤ 9223372036854775807) (a3 : 32 ≤ c2) (a4 : c2 ≤ 9223372036854775807) (p1 : Bo W g1 32 (bt X)) (p2 : Bo W g2 32 (bt Y)), Calls Try.prog 28 #[.slice (some ⟨g1, 0, none⟩) 32 c1, .int .i64 (-(k : Int)), .bool false] W (FPost W.heap.size 32 R W)) := Lib.hid (fun W g1 c1 g2 c2 a1 a2 a3 a4 p1 p2 => by rw [eR]; exact Right_v g1 c1 32 X k false W (by decide) (by decide) (by omega) a1 a2 hX p1)
  have WY : Hid (∀ (W : World) (g c : Nat), 32 ≤ c → c ≤ 9223372036854775807 → Bo W g 32 (bt Y) → Calls Try.prog 20 #[.slice (some ⟨g, 0, none⟩) 32 c] W fun e w' => e = .returned (.int .u64 (Y : Int)) ∧ W = w') := Lib.hid (fun W g c a1 a2 b1 => Word_v g c 32 Y W (by decide) a1 a2 hY b1)
  have WR : Hid (∀ (W : World) (g c : Nat), 32 ≤ c → c ≤ 9223372036854775807 → Bo W g 32 (bt R) → Calls Try.prog 20 #[.slice (some ⟨g, 0, none⟩) 32 c] W fun e w' => e = .returned (.int .u64 (R : Int)) ∧ W = w') := Lib.hid (fun W g c a1 a2 b1 => Word_v g c 32 R W (by decide) a1 a2 hR b1)
  have hYb : (Y : Int) < 18446744073709551616 := by omega
  have HR : Hid (Wd.bz 12 32 a b = R ∧ Wd.tr 12 32 a b = 0) := Lib.hid ⟨by rw [HR0.out.1, eR, ← ek], HR0.out.2⟩
  rw [HR.out.1, HR.out.2]
  clear hX hR HR0 HR ek eR ha hb
  go_enter Try.func11, Try.ntmps11
  go_wp2_with (first
    | (go_at_call 19; with_reducible refine (L1.out _).mono ?_; rintro e w1 hL; unfold LPost at hL; obtain ⟨g1, c1, rfl, n1, m1, b1, k1, h1⟩ := hL; have P1 := Lib.hid b1; have B1 := Lib.hid h1; clear b1 k1 h1)
    | (go_at_call 19; with_reducible refine (L2.out _).mono ?_; rintro e w2 hL; unfold LPost at hL; obtain ⟨g2, c2, rfl, n2, m2, b2, k2, h2⟩ := hL; have P2 := Lib.hid b2; have P1' := Lib.hid (P1.out.below h2 P1.out.lt); have B2 := Lib.hid (B1.out.trans (h2.mono B1.out.size)); clear b2 k2 h2)
    | (go_at_call 20; with_reducible refine (WY.out _ _ _ n2 m2 P2.out).mono ?_; rintro e w3 ⟨rfl, rfl⟩)
    | (go_at_call 28; with_reducible refine (C.out _ _ _ _ _ n1 m1 n2 m2 P1'.out P2.out).mono ?_; rintro e w4 hL; unfold FPost at hL; obtain ⟨g3, c3, rfl, n3, m3, b3, k3, h3, z3⟩ := hL; have P3 := Lib.hid b3; have B3 := Lib.hid (B2.out.trans (h3.mono B2.out.size)); clear b3 k3 h3 z3)
    | (go_at_call 20; with_reducible refine (WR.out _ _ _ n3 m3 P3.out).mono ?_; rintro e w5 ⟨rfl, rfl⟩))
  go_ret2
  exact ⟨rfl, B3.out⟩
set_option maxHeartbeats 4000000 in
set_option maxRecDepth 100000 in
theorem RB_12_64 (a b : Nat) (w : World) (ha : a < 18446744073709551616) (hb : b < 18446744073709551616) :
    Calls Try.prog 11 #[.int .i64 12, .int .i64 64, .int .u64 a, .int .u64 b] w fun e w' => e = .returned (.tuple #[.int .u64 ((Wd.bz 12 64 a b : Nat) : Int), .int .i64 ((Wd.tr 12 64 a b : Nat) : Int)]) ∧ Below w.heap.size w w' := by
  have hX : Wd.cut 64 a < 2 ^ 64 := Wd.cut_lt (n := 64) (.inr rfl) ha
  have hY : Wd.cut 64 b < 2 ^ 64 := Wd.cut_lt (n := 64) (.inr rfl) hb
  have L1 : Hid (∀ W : World, Calls Try.prog 19 #[.int .i64 64, .int .u64 a] W (LPost W.heap.size 64 (bt (Wd.cut 64 a)) W)) := Lib.hid (fun W => (List_any 64 a W (by decide) (by decide) ha).mono fun e w' h => h.is (vl_cut 64 a (.inr rfl) ha))
  have L2 : Hid (∀ W : World, Calls Try.prog 19 #[.int .i64 64, .int .u64 b] W (LPost W.heap.size 64 (bt (Wd.cut 64 b)) W)) := Lib.hid (fun W => (List_any 64 b W (by decide) (by decide) hb).mono fun e w' h => h.is (vl_cut 64 b (.inr rfl) hb))
  have HR0 : Hid (Wd.bz 12 64 a b = Wd.cut 64 a / 2 ^ (Wd.cut 64 b % 64) + (if false = true then 2 ^ 64 - 2 ^ (64 - Wd.cut 64 b % 64) else 0) ∧ Wd.tr 12 64 a b = 0) := Lib.hid (rb_12 64 (.inr rfl) a b ha hb)
  generalize Wd.cut 64 a = X at hX L1 HR0
  generalize Wd.cut 64 b = Y at hY L2 HR0
  obtain ⟨R, eR⟩ : ∃ R, R = X / 2 ^ (Y % 64) + (if false = true then 2 ^ 64 - 2 ^ (64 - Y % 64) else 0) := ⟨_, rfl⟩
  have hR : R < 2 ^ 64 := by
    rw [eR]
    rw [← right_num false hX (Nat.le_of_lt (Nat.mod_lt Y (show 64 > 0 by decide)))]
    exact vl_lt _ _ _
  have hk : Y % 64 < 64 := Nat.mod_lt _ (by decide)
  have kk : (Y : Int) % 64 = ((Y % 64 : Nat) : Int) := by omega
  have kt : (Y : Int).tmod 64 = ((Y % 64 : Nat) : Int) := by rw [Int.tmod_eq_emod_of_nonneg (by omega)]; omega
  obtain ⟨k, ek⟩ : ∃ k, k = Y % 64 := ⟨_, rfl⟩
  rw [← ek] at hk kk kt eR
  have C : Hid (∀ (W : World) (g1 c1 g2 c2 : Nat) (a1 : 64 ≤ c1) (a2 : c1 ≤ 9223372036854775807) (a3 : 64 ≤ c2) (a4 : c2 ≤ 9223372036854775807) (p1 : Bo W g1 64 (bt X)) (p2 : Bo W g2 64 (bt Y)), Calls Try.prog 28 #[.slice (some ⟨g1, 0, none⟩) 64 c1, .int .i64 (-(k : Int)), .bool false] W (FPost W.heap.size 64 R W)) := Lib.hid (fun W g1 c1 g2 c2 a1 a2 a3 a4 p1 p2 => by rw [eR]; exact Right_v g1 c1 64 X k false W (by decide) (by decide) (by omega) a1 a2 hX p1)
  have WY : Hid (∀ (W : World) (g c : Nat), 64 ≤ c → c ≤ 9223372036854775807 → Bo W g 64 (bt Y) → Calls Try.prog 20 #[.slice (some ⟨g, 0, none⟩) 64 c] W fun e w' => e = .returned (.int .u64 (Y : Int)) ∧ W = w') := Lib.hid (fun W g c a1 a2 b1 => Word_v g c 64 Y W (by decide) a1 a2 hY b1)
  have WR : Hid (∀ (W : World) (g c : Nat), 64 ≤ c → c ≤ 9223372036854775807 → Bo W g 64 (bt R) → Calls Try.prog 20 #[.slice (some ⟨g, 0, none⟩) 64 c] W fun e w' => e = .returned (.int .u64 (R : Int)) ∧ W = w') := Lib.hid (fun W g c a1 a2 b1 => Word_v g c 64 R W (by decide) a1 a2 hR b1)
  have hYb : (Y : Int) < 18446744073709551616 := by omega
  have HR : Hid (Wd.bz 12 64 a b = R ∧ Wd.tr 12 64 a b = 0) := Lib.hid ⟨by rw [HR0.out.1, eR, ← ek], HR0.out.2⟩
  rw [HR.out.1, HR.out.2]
  clear hX hR HR0 HR ek eR ha hb
  go_enter Try.func11, Try.ntmps11
  go_wp2_with (first
    | (go_at_call 19; with_reducible refine (L1.out _).mono ?_; rintro e w1 hL; unfold LPost at hL; obtain ⟨g1, c1, rfl, n1, m1, b1, k1, h1⟩ := hL; have P1 := Lib.hid b1; have B1 := Lib.hid h1; clear b1 k1 h1)
    | (go_at_call 19; with_reducible refine (L2.out _).mono ?_; rintro e w2 hL; unfold LPost at hL; obtain ⟨g2, c2, rfl, n2, m2, b2, k2, h2⟩ := hL; have P2 := Lib.hid b2; have P1' := Lib.hid (P1.out.below h2 P1.out.lt); have B2 := Lib.hid (B1.out.trans (h2.mono B1.out.size)); clear b2 k2 h2)
    | (go_at_call 20; with_reducible refine (WY.out _ _ _ n2 m2 P2.out).mono ?_; rintro e w3 ⟨rfl, rfl⟩)
    | (go_at_call 28; with_reducible refine (C.out _ _ _ _ _ n1 m1 n2 m2 P1'.out P2.out).mono ?_; rintro e w4 hL; unfold FPost at hL; obtain ⟨g3, c3, rfl, n3, m3, b3, k3, h3, z3⟩ := hL; have P3 := Lib.hid b3; have B3 := Lib.hid (B2.out.trans (h3.mono B2.out.size)); clear b3 k3 h3 z3)
    | (go_at_call 20; with_reducible refine (WR.out _ _ _ n3 m3 P3.out).mono ?_; rintro e w5 ⟨rfl, rfl⟩))
  go_ret2
  exact ⟨rfl, B3.out⟩
end Go.Proofs.Ytmbnaejoiglckaa
